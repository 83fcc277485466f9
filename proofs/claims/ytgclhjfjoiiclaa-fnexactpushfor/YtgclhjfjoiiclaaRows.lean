/-
  No cell of these rows narrows 'for every input' (looked for: loops, veiled, ifaces, maps, wideKeys, modest, calm, conditions, laid).
  DERIVED. THE GIVEN ROWS OF THIS SEAT. 6 by the template 'for every input the law returns true; each argument reads behind the call as it read before'; 0 by the template 'total and deterministic' (their statements: YtgclhjfjoiiclaaTotals.lean).
  GIVEN WITH THE SEED: the statements are not yours to turn. If you find one false, say at which input.
  Laid BY PROGRAM, IN A SANDBOX (cutbox-rows.mjs): the forced cells as the released guide's own fill.sh prints them over the translation 976c8193c49635c2… (all of the seat's roots in one cut). By AI agents, Wed Nov 11 2026. No macro, syntax, notation, axiom, sorry.
-/
import Derived.Test.YtgclhjfjoiiclaaChecked
import GoSem.Claim
import GoSem.ClaimJoined
import GoSem.ClaimMapViews
import Derived.JoinedTies
import Derived.KernelRfl
namespace Go.Proofs.Ytgclhjfjoiiclaa
/- THE CELL 'sum', in the pinned program and in every row, IS THE sha256 OF THE DUMP (.gsa) THAT YtgclhjfjoiiclaaProg.lean LOADS. Nothing in Lean hashes anything: it is a label: what it is worth is what the hold of that sum in a sandbox is worth. -/
noncomputable def Try.pinned : Pinned := { name := "ytgclhjfjoiiclaa", sum := "976c8193c49635c237322a8634c561eb04f03e8333bfb94672c604432057ab64", checked := Try.checked }
namespace Rows
def none {H : Type} : Left H := { results := [], args := [] }

/-- 'laws.FnBlended': WHATEVER THE INPUT: true; the input reads as it did. -/
def fnBlendedSpec : ChangeSpec := { name := "fnBlended", fn := fun _ => fun
  | [d] => { results := [.lit (.bool true)], args := [d] }
  | _ => none }
def fnBlendedRow : OpenClaim := { program := "ytgclhjfjoiiclaa", sum := "976c8193c49635c237322a8634c561eb04f03e8333bfb94672c604432057ab64", func := "loop.example/g00619/laws.FnBlended", spec := "fnBlended", unfollowed := true, recurses := true, plainKeys := false, apart := false }
def FnBlendedSaid : Prop := fnBlendedRow.holds Try.pinned (OpenSpec.ofChange fnBlendedSpec)

/-- ITS FALSE NEIGHBOUR: 'it returns false'. Refute it at one input. -/
def fnBlendedWrong : ChangeSpec := { name := "fnBlended", fn := fun _ => fun
  | [d] => { results := [.lit (.bool false)], args := [d] }
  | _ => none }
def FnBlendedWrongFalsely : Prop := fnBlendedRow.holds Try.pinned (OpenSpec.ofChange fnBlendedWrong)

/-- 'laws.FnSlewed': WHATEVER THE INPUT: true; the input reads as it did. -/
def fnSlewedSpec : ChangeSpec := { name := "fnSlewed", fn := fun _ => fun
  | [d] => { results := [.lit (.bool true)], args := [d] }
  | _ => none }
def fnSlewedRow : OpenClaim := { program := "ytgclhjfjoiiclaa", sum := "976c8193c49635c237322a8634c561eb04f03e8333bfb94672c604432057ab64", func := "loop.example/g00619/laws.FnSlewed", spec := "fnSlewed", plainKeys := false, apart := false }
def FnSlewedSaid : Prop := fnSlewedRow.holds Try.pinned (OpenSpec.ofChange fnSlewedSpec)

/-- ITS FALSE NEIGHBOUR: 'it returns false'. Refute it at one input. -/
def fnSlewedWrong : ChangeSpec := { name := "fnSlewed", fn := fun _ => fun
  | [d] => { results := [.lit (.bool false)], args := [d] }
  | _ => none }
def FnSlewedWrongFalsely : Prop := fnSlewedRow.holds Try.pinned (OpenSpec.ofChange fnSlewedWrong)

/-- 'laws.FnExactLiftPart': WHATEVER THE INPUT: true; the input reads as it did. -/
def fnExactLiftPartSpec : ChangeSpec := { name := "fnExactLiftPart", fn := fun _ => fun
  | [d] => { results := [.lit (.bool true)], args := [d] }
  | _ => none }
def fnExactLiftPartRow : OpenClaim := { program := "ytgclhjfjoiiclaa", sum := "976c8193c49635c237322a8634c561eb04f03e8333bfb94672c604432057ab64", func := "loop.example/g00619/laws.FnExactLiftPart", spec := "fnExactLiftPart", unfollowed := true, recurses := true, plainKeys := false, apart := false }
def FnExactLiftPartSaid : Prop := fnExactLiftPartRow.holds Try.pinned (OpenSpec.ofChange fnExactLiftPartSpec)

/-- ITS FALSE NEIGHBOUR: 'it returns false'. Refute it at one input. -/
def fnExactLiftPartWrong : ChangeSpec := { name := "fnExactLiftPart", fn := fun _ => fun
  | [d] => { results := [.lit (.bool false)], args := [d] }
  | _ => none }
def FnExactLiftPartWrongFalsely : Prop := fnExactLiftPartRow.holds Try.pinned (OpenSpec.ofChange fnExactLiftPartWrong)

/-- 'laws.FnExactBlended': WHATEVER THE INPUT: true; the input reads as it did. -/
def fnExactBlendedSpec : ChangeSpec := { name := "fnExactBlended", fn := fun _ => fun
  | [d1, d2] => { results := [.lit (.bool true)], args := [d1, d2] }
  | _ => none }
def fnExactBlendedRow : OpenClaim := { program := "ytgclhjfjoiiclaa", sum := "976c8193c49635c237322a8634c561eb04f03e8333bfb94672c604432057ab64", func := "loop.example/g00619/laws.FnExactBlended", spec := "fnExactBlended", unfollowed := true, recurses := true, plainKeys := false, apart := false }
def FnExactBlendedSaid : Prop := fnExactBlendedRow.holds Try.pinned (OpenSpec.ofChange fnExactBlendedSpec)

/-- ITS FALSE NEIGHBOUR: 'it returns false'. Refute it at one input. -/
def fnExactBlendedWrong : ChangeSpec := { name := "fnExactBlended", fn := fun _ => fun
  | [d1, d2] => { results := [.lit (.bool false)], args := [d1, d2] }
  | _ => none }
def FnExactBlendedWrongFalsely : Prop := fnExactBlendedRow.holds Try.pinned (OpenSpec.ofChange fnExactBlendedWrong)

/-- 'laws.FnExactPushFor': WHATEVER THE INPUT: true; the input reads as it did. -/
def fnExactPushForSpec : ChangeSpec := { name := "fnExactPushFor", fn := fun _ => fun
  | [d1, d2] => { results := [.lit (.bool true)], args := [d1, d2] }
  | _ => none }
def fnExactPushForRow : OpenClaim := { program := "ytgclhjfjoiiclaa", sum := "976c8193c49635c237322a8634c561eb04f03e8333bfb94672c604432057ab64", func := "loop.example/g00619/laws.FnExactPushFor", spec := "fnExactPushFor", plainKeys := false, apart := false }
def FnExactPushForSaid : Prop := fnExactPushForRow.holds Try.pinned (OpenSpec.ofChange fnExactPushForSpec)

/-- ITS FALSE NEIGHBOUR: 'it returns false'. Refute it at one input. -/
def fnExactPushForWrong : ChangeSpec := { name := "fnExactPushFor", fn := fun _ => fun
  | [d1, d2] => { results := [.lit (.bool false)], args := [d1, d2] }
  | _ => none }
def FnExactPushForWrongFalsely : Prop := fnExactPushForRow.holds Try.pinned (OpenSpec.ofChange fnExactPushForWrong)

/-- 'laws.FnExactSlewed': WHATEVER THE INPUT: true; the input reads as it did. -/
def fnExactSlewedSpec : ChangeSpec := { name := "fnExactSlewed", fn := fun _ => fun
  | [d1, d2, d3] => { results := [.lit (.bool true)], args := [d1, d2, d3] }
  | _ => none }
def fnExactSlewedRow : OpenClaim := { program := "ytgclhjfjoiiclaa", sum := "976c8193c49635c237322a8634c561eb04f03e8333bfb94672c604432057ab64", func := "loop.example/g00619/laws.FnExactSlewed", spec := "fnExactSlewed", plainKeys := false, apart := false }
def FnExactSlewedSaid : Prop := fnExactSlewedRow.holds Try.pinned (OpenSpec.ofChange fnExactSlewedSpec)

/-- ITS FALSE NEIGHBOUR: 'it returns false'. Refute it at one input. -/
def fnExactSlewedWrong : ChangeSpec := { name := "fnExactSlewed", fn := fun _ => fun
  | [d1, d2, d3] => { results := [.lit (.bool false)], args := [d1, d2, d3] }
  | _ => none }
def FnExactSlewedWrongFalsely : Prop := fnExactSlewedRow.holds Try.pinned (OpenSpec.ofChange fnExactSlewedWrong)

/- THE SECOND FORM. 'bulk': how many values and letters a reading holds, each counted each time it is reached (what is shared counts as often as it is met; a slice's spare places count too). A statement '..UptoSaid' is the law's where the arguments, and the package variables that the reading takes, are together of bulk at most 1048576: NARROWER than '..Said'. Prove '..Said' where nothing that the law and all that it calls make is longer than what came in: it says more and counts as full. Else prove '..UptoSaid'. A law counts once. -/
mutual
def uptoBulk {H : Type} : DataW H → Nat
  | .lit (.string bytes) => bytes.length + 1
  | .lit _ => 1
  | .nil => 1
  | .ptr d => uptoBulk d + 1
  | .slice elems spare => uptoBulkAll elems + uptoBulkAll spare + 1
  | .agg parts => uptoBulkAll parts + 1
  | .iface _ d => uptoBulk d + 1
  | .map entries => uptoBulkEntries entries + 1
  | .held _ => 1
def uptoBulkAll {H : Type} : List (DataW H) → Nat
  | [] => 0
  | d :: r => uptoBulk d + uptoBulkAll r
def uptoBulkEntries {H : Type} : List (Lit × DataW H) → Nat
  | [] => 0
  | x :: r => uptoBulkEntry x + uptoBulkEntries r
def uptoBulkEntry {H : Type} : Lit × DataW H → Nat
  | (.string bytes, d) => bytes.length + uptoBulk d + 1
  | (_, d) => uptoBulk d + 1
 end
def uptoSmall : (H : Type) → List (DataW H) → Bool := fun _ ds => decide (uptoBulkAll ds ≤ 1048576)
def OpenSpec.upto (s : _root_.Go.ChangeSpec) : _root_.Go.OpenSpec := { _root_.Go.OpenSpec.ofChange s with cond := some uptoSmall }

/-- 'laws.FnBlended', WHERE WHAT IT READS IS OF BULK AT MOST 1048576: true; the input reads as it did. -/
def fnBlendedUptoRow : OpenClaim := { program := "ytgclhjfjoiiclaa", sum := "976c8193c49635c237322a8634c561eb04f03e8333bfb94672c604432057ab64", func := "loop.example/g00619/laws.FnBlended", spec := "fnBlended", unfollowed := true, recurses := true, plainKeys := false, apart := false, narrowed := true }
def FnBlendedUptoSaid : Prop := fnBlendedUptoRow.holds Try.pinned (OpenSpec.upto fnBlendedSpec)

/-- 'laws.FnSlewed', WHERE WHAT IT READS IS OF BULK AT MOST 1048576: true; the input reads as it did. -/
def fnSlewedUptoRow : OpenClaim := { program := "ytgclhjfjoiiclaa", sum := "976c8193c49635c237322a8634c561eb04f03e8333bfb94672c604432057ab64", func := "loop.example/g00619/laws.FnSlewed", spec := "fnSlewed", plainKeys := false, apart := false, narrowed := true }
def FnSlewedUptoSaid : Prop := fnSlewedUptoRow.holds Try.pinned (OpenSpec.upto fnSlewedSpec)

/-- 'laws.FnExactLiftPart', WHERE WHAT IT READS IS OF BULK AT MOST 1048576: true; the input reads as it did. -/
def fnExactLiftPartUptoRow : OpenClaim := { program := "ytgclhjfjoiiclaa", sum := "976c8193c49635c237322a8634c561eb04f03e8333bfb94672c604432057ab64", func := "loop.example/g00619/laws.FnExactLiftPart", spec := "fnExactLiftPart", unfollowed := true, recurses := true, plainKeys := false, apart := false, narrowed := true }
def FnExactLiftPartUptoSaid : Prop := fnExactLiftPartUptoRow.holds Try.pinned (OpenSpec.upto fnExactLiftPartSpec)

/-- 'laws.FnExactBlended', WHERE WHAT IT READS IS OF BULK AT MOST 1048576: true; the input reads as it did. -/
def fnExactBlendedUptoRow : OpenClaim := { program := "ytgclhjfjoiiclaa", sum := "976c8193c49635c237322a8634c561eb04f03e8333bfb94672c604432057ab64", func := "loop.example/g00619/laws.FnExactBlended", spec := "fnExactBlended", unfollowed := true, recurses := true, plainKeys := false, apart := false, narrowed := true }
def FnExactBlendedUptoSaid : Prop := fnExactBlendedUptoRow.holds Try.pinned (OpenSpec.upto fnExactBlendedSpec)

/-- 'laws.FnExactPushFor', WHERE WHAT IT READS IS OF BULK AT MOST 1048576: true; the input reads as it did. -/
def fnExactPushForUptoRow : OpenClaim := { program := "ytgclhjfjoiiclaa", sum := "976c8193c49635c237322a8634c561eb04f03e8333bfb94672c604432057ab64", func := "loop.example/g00619/laws.FnExactPushFor", spec := "fnExactPushFor", plainKeys := false, apart := false, narrowed := true }
def FnExactPushForUptoSaid : Prop := fnExactPushForUptoRow.holds Try.pinned (OpenSpec.upto fnExactPushForSpec)

/-- 'laws.FnExactSlewed', WHERE WHAT IT READS IS OF BULK AT MOST 1048576: true; the input reads as it did. -/
def fnExactSlewedUptoRow : OpenClaim := { program := "ytgclhjfjoiiclaa", sum := "976c8193c49635c237322a8634c561eb04f03e8333bfb94672c604432057ab64", func := "loop.example/g00619/laws.FnExactSlewed", spec := "fnExactSlewed", plainKeys := false, apart := false, narrowed := true }
def FnExactSlewedUptoSaid : Prop := fnExactSlewedUptoRow.holds Try.pinned (OpenSpec.upto fnExactSlewedSpec)

end Rows
end Go.Proofs.Ytgclhjfjoiiclaa
