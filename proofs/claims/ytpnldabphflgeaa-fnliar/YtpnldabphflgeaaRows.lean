/-
  No cell of these rows narrows 'for every input' (looked for: loops, veiled, ifaces, maps, wideKeys, modest, calm, conditions, laid).
  DERIVED. THE GIVEN ROWS OF THIS SEAT. 5 by the template 'for every input the law returns true; each argument reads behind the call as it read before'; 0 by the template 'total and deterministic' (their statements: YtpnldabphflgeaaTotals.lean).
  GIVEN WITH THE SEED: the statements are not yours to turn. If you find one false, say at which input.
  Laid BY PROGRAM, IN A SANDBOX (cutbox-rows.mjs): the forced cells as the released guide's own fill.sh prints them over the translation c4979c0a923eba80… (all of the seat's roots in one cut). By AI agents, Wed Nov 11 2026. No macro, syntax, notation, axiom, sorry.
-/
import Derived.Test.YtpnldabphflgeaaChecked
import GoSem.Claim
import GoSem.ClaimJoined
import GoSem.ClaimMapViews
import Derived.JoinedTies
import Derived.KernelRfl
namespace Go.Proofs.Ytpnldabphflgeaa
/- THE CELL 'sum', in the pinned program and in every row, IS THE sha256 OF THE DUMP (.gsa) THAT YtpnldabphflgeaaProg.lean LOADS. Nothing in Lean hashes anything: it is a label: what it is worth is what the hold of that sum in a sandbox is worth. -/
noncomputable def Try.pinned : Pinned := { name := "ytpnldabphflgeaa", sum := "c4979c0a923eba806dc5af8d5288bd797b4758641bf329bfb1de9f96011dfcc6", checked := Try.checked }
namespace Rows
def none {H : Type} : Left H := { results := [], args := [] }

/-- 'laws.FnVotes': WHATEVER THE INPUT: true; the input reads as it did. -/
def fnVotesSpec : ChangeSpec := { name := "fnVotes", fn := fun _ => fun
  | [d] => { results := [.lit (.bool true)], args := [d] }
  | _ => none }
def fnVotesRow : OpenClaim := { program := "ytpnldabphflgeaa", sum := "c4979c0a923eba806dc5af8d5288bd797b4758641bf329bfb1de9f96011dfcc6", func := "loop.example/g00619/laws.FnVotes", spec := "fnVotes", unfollowed := true, recurses := true, apart := false }
def FnVotesSaid : Prop := fnVotesRow.holds Try.pinned (OpenSpec.ofChange fnVotesSpec)

/-- ITS FALSE NEIGHBOUR: 'it returns false'. Refute it at one input. -/
def fnVotesWrong : ChangeSpec := { name := "fnVotes", fn := fun _ => fun
  | [d] => { results := [.lit (.bool false)], args := [d] }
  | _ => none }
def FnVotesWrongFalsely : Prop := fnVotesRow.holds Try.pinned (OpenSpec.ofChange fnVotesWrong)

/-- 'laws.FnLiar': WHATEVER THE INPUT: true; the input reads as it did. -/
def fnLiarSpec : ChangeSpec := { name := "fnLiar", fn := fun _ => fun
  | [d] => { results := [.lit (.bool true)], args := [d] }
  | _ => none }
def fnLiarRow : OpenClaim := { program := "ytpnldabphflgeaa", sum := "c4979c0a923eba806dc5af8d5288bd797b4758641bf329bfb1de9f96011dfcc6", func := "loop.example/g00619/laws.FnLiar", spec := "fnLiar", recurses := true, apart := false }
def FnLiarSaid : Prop := fnLiarRow.holds Try.pinned (OpenSpec.ofChange fnLiarSpec)

/-- ITS FALSE NEIGHBOUR: 'it returns false'. Refute it at one input. -/
def fnLiarWrong : ChangeSpec := { name := "fnLiar", fn := fun _ => fun
  | [d] => { results := [.lit (.bool false)], args := [d] }
  | _ => none }
def FnLiarWrongFalsely : Prop := fnLiarRow.holds Try.pinned (OpenSpec.ofChange fnLiarWrong)

/-- 'laws.FnExactMiddle': WHATEVER THE INPUT: true; the input reads as it did. -/
def fnExactMiddleSpec : ChangeSpec := { name := "fnExactMiddle", fn := fun _ => fun
  | [d1, d2, d3] => { results := [.lit (.bool true)], args := [d1, d2, d3] }
  | _ => none }
def fnExactMiddleRow : OpenClaim := { program := "ytpnldabphflgeaa", sum := "c4979c0a923eba806dc5af8d5288bd797b4758641bf329bfb1de9f96011dfcc6", func := "loop.example/g00619/laws.FnExactMiddle", spec := "fnExactMiddle", recurses := true, apart := false }
def FnExactMiddleSaid : Prop := fnExactMiddleRow.holds Try.pinned (OpenSpec.ofChange fnExactMiddleSpec)

/-- ITS FALSE NEIGHBOUR: 'it returns false'. Refute it at one input. -/
def fnExactMiddleWrong : ChangeSpec := { name := "fnExactMiddle", fn := fun _ => fun
  | [d1, d2, d3] => { results := [.lit (.bool false)], args := [d1, d2, d3] }
  | _ => none }
def FnExactMiddleWrongFalsely : Prop := fnExactMiddleRow.holds Try.pinned (OpenSpec.ofChange fnExactMiddleWrong)

/-- 'laws.FnExactVoteThree': WHATEVER THE INPUT: true; the input reads as it did. -/
def fnExactVoteThreeSpec : ChangeSpec := { name := "fnExactVoteThree", fn := fun _ => fun
  | [d1, d2] => { results := [.lit (.bool true)], args := [d1, d2] }
  | _ => none }
def fnExactVoteThreeRow : OpenClaim := { program := "ytpnldabphflgeaa", sum := "c4979c0a923eba806dc5af8d5288bd797b4758641bf329bfb1de9f96011dfcc6", func := "loop.example/g00619/laws.FnExactVoteThree", spec := "fnExactVoteThree", recurses := true, apart := false }
def FnExactVoteThreeSaid : Prop := fnExactVoteThreeRow.holds Try.pinned (OpenSpec.ofChange fnExactVoteThreeSpec)

/-- ITS FALSE NEIGHBOUR: 'it returns false'. Refute it at one input. -/
def fnExactVoteThreeWrong : ChangeSpec := { name := "fnExactVoteThree", fn := fun _ => fun
  | [d1, d2] => { results := [.lit (.bool false)], args := [d1, d2] }
  | _ => none }
def FnExactVoteThreeWrongFalsely : Prop := fnExactVoteThreeRow.holds Try.pinned (OpenSpec.ofChange fnExactVoteThreeWrong)

/-- 'laws.FnExactVoteTwo': WHATEVER THE INPUT: true; the input reads as it did. -/
def fnExactVoteTwoSpec : ChangeSpec := { name := "fnExactVoteTwo", fn := fun _ => fun
  | [d1, d2, d3] => { results := [.lit (.bool true)], args := [d1, d2, d3] }
  | _ => none }
def fnExactVoteTwoRow : OpenClaim := { program := "ytpnldabphflgeaa", sum := "c4979c0a923eba806dc5af8d5288bd797b4758641bf329bfb1de9f96011dfcc6", func := "loop.example/g00619/laws.FnExactVoteTwo", spec := "fnExactVoteTwo", unfollowed := true, recurses := true, apart := false }
def FnExactVoteTwoSaid : Prop := fnExactVoteTwoRow.holds Try.pinned (OpenSpec.ofChange fnExactVoteTwoSpec)

/-- ITS FALSE NEIGHBOUR: 'it returns false'. Refute it at one input. -/
def fnExactVoteTwoWrong : ChangeSpec := { name := "fnExactVoteTwo", fn := fun _ => fun
  | [d1, d2, d3] => { results := [.lit (.bool false)], args := [d1, d2, d3] }
  | _ => none }
def FnExactVoteTwoWrongFalsely : Prop := fnExactVoteTwoRow.holds Try.pinned (OpenSpec.ofChange fnExactVoteTwoWrong)

/- THE SECOND FORM. 'bulk': how many values and letters a reading holds, each counted each time it is reached (what is shared counts as often as it is met; a slice's spare places count too). A statement '..UptoSaid' is the law's where the arguments, and the package variables that the reading takes, are together of bulk at most 1048576: NARROWER than '..Said'. Prove '..Said' where nothing that the law and all that it calls make is longer than what came in: it says more and counts as full. Else prove '..UptoSaid'. A law counts once. -/
mutual
def uptoBulk {H : Type} : DataW H → Nat
  | .lit (.string bytes) => bytes.length + 1
  | .lit _ => 1
  | .nil => 1
  | .ptr d => uptoBulk d + 1
  | .slice elems spare => uptoBulkAll elems + uptoBulkAll spare + 1
  | .agg parts => uptoBulkAll parts + 1
  | .iface _ d => uptoBulk d + 1
  | .map entries => uptoBulkEntries entries + 1
  | .held _ => 1
def uptoBulkAll {H : Type} : List (DataW H) → Nat
  | [] => 0
  | d :: r => uptoBulk d + uptoBulkAll r
def uptoBulkEntries {H : Type} : List (Lit × DataW H) → Nat
  | [] => 0
  | x :: r => uptoBulkEntry x + uptoBulkEntries r
def uptoBulkEntry {H : Type} : Lit × DataW H → Nat
  | (.string bytes, d) => bytes.length + uptoBulk d + 1
  | (_, d) => uptoBulk d + 1
 end
def uptoSmall : (H : Type) → List (DataW H) → Bool := fun _ ds => decide (uptoBulkAll ds ≤ 1048576)
def OpenSpec.upto (s : _root_.Go.ChangeSpec) : _root_.Go.OpenSpec := { _root_.Go.OpenSpec.ofChange s with cond := some uptoSmall }

/-- 'laws.FnVotes', WHERE WHAT IT READS IS OF BULK AT MOST 1048576: true; the input reads as it did. -/
def fnVotesUptoRow : OpenClaim := { program := "ytpnldabphflgeaa", sum := "c4979c0a923eba806dc5af8d5288bd797b4758641bf329bfb1de9f96011dfcc6", func := "loop.example/g00619/laws.FnVotes", spec := "fnVotes", unfollowed := true, recurses := true, apart := false, narrowed := true }
def FnVotesUptoSaid : Prop := fnVotesUptoRow.holds Try.pinned (OpenSpec.upto fnVotesSpec)

/-- 'laws.FnLiar', WHERE WHAT IT READS IS OF BULK AT MOST 1048576: true; the input reads as it did. -/
def fnLiarUptoRow : OpenClaim := { program := "ytpnldabphflgeaa", sum := "c4979c0a923eba806dc5af8d5288bd797b4758641bf329bfb1de9f96011dfcc6", func := "loop.example/g00619/laws.FnLiar", spec := "fnLiar", recurses := true, apart := false, narrowed := true }
def FnLiarUptoSaid : Prop := fnLiarUptoRow.holds Try.pinned (OpenSpec.upto fnLiarSpec)

/-- 'laws.FnExactMiddle', WHERE WHAT IT READS IS OF BULK AT MOST 1048576: true; the input reads as it did. -/
def fnExactMiddleUptoRow : OpenClaim := { program := "ytpnldabphflgeaa", sum := "c4979c0a923eba806dc5af8d5288bd797b4758641bf329bfb1de9f96011dfcc6", func := "loop.example/g00619/laws.FnExactMiddle", spec := "fnExactMiddle", recurses := true, apart := false, narrowed := true }
def FnExactMiddleUptoSaid : Prop := fnExactMiddleUptoRow.holds Try.pinned (OpenSpec.upto fnExactMiddleSpec)

/-- 'laws.FnExactVoteThree', WHERE WHAT IT READS IS OF BULK AT MOST 1048576: true; the input reads as it did. -/
def fnExactVoteThreeUptoRow : OpenClaim := { program := "ytpnldabphflgeaa", sum := "c4979c0a923eba806dc5af8d5288bd797b4758641bf329bfb1de9f96011dfcc6", func := "loop.example/g00619/laws.FnExactVoteThree", spec := "fnExactVoteThree", recurses := true, apart := false, narrowed := true }
def FnExactVoteThreeUptoSaid : Prop := fnExactVoteThreeUptoRow.holds Try.pinned (OpenSpec.upto fnExactVoteThreeSpec)

/-- 'laws.FnExactVoteTwo', WHERE WHAT IT READS IS OF BULK AT MOST 1048576: true; the input reads as it did. -/
def fnExactVoteTwoUptoRow : OpenClaim := { program := "ytpnldabphflgeaa", sum := "c4979c0a923eba806dc5af8d5288bd797b4758641bf329bfb1de9f96011dfcc6", func := "loop.example/g00619/laws.FnExactVoteTwo", spec := "fnExactVoteTwo", unfollowed := true, recurses := true, apart := false, narrowed := true }
def FnExactVoteTwoUptoSaid : Prop := fnExactVoteTwoUptoRow.holds Try.pinned (OpenSpec.upto fnExactVoteTwoSpec)

end Rows
end Go.Proofs.Ytpnldabphflgeaa
