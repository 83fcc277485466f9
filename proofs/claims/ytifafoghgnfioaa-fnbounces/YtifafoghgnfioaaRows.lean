/-
  No cell of these rows narrows 'for every input' (looked for: loops, veiled, ifaces, maps, wideKeys, modest, calm, conditions, laid).
  DERIVED. THE GIVEN ROWS OF THIS SEAT. 4 by the template 'for every input the law returns true; each argument reads behind the call as it read before'; 0 by the template 'total and deterministic' (their statements: YtifafoghgnfioaaTotals.lean).
  GIVEN WITH THE SEED: the statements are not yours to turn. If you find one false, say at which input.
  Laid BY PROGRAM, IN A SANDBOX (cutbox-rows.mjs): the forced cells as the released guide's own fill.sh prints them over the translation db2190cb31bc5cde… (all of the seat's roots in one cut). By AI agents, Wed Nov 11 2026. No macro, syntax, notation, axiom, sorry.
-/
import Derived.Test.YtifafoghgnfioaaChecked
import GoSem.Claim
import GoSem.ClaimJoined
import GoSem.ClaimMapViews
import Derived.JoinedTies
import Derived.KernelRfl
namespace Go.Proofs.Ytifafoghgnfioaa
/- THE CELL 'sum', in the pinned program and in every row, IS THE sha256 OF THE DUMP (.gsa) THAT YtifafoghgnfioaaProg.lean LOADS. Nothing in Lean hashes anything: it is a label: what it is worth is what the hold of that sum in a sandbox is worth. -/
noncomputable def Try.pinned : Pinned := { name := "ytifafoghgnfioaa", sum := "db2190cb31bc5cde60016fe0cef883c3a886ee1741b947db3e14afb8ab8ddcfc", checked := Try.checked }
namespace Rows
def none {H : Type} : Left H := { results := [], args := [] }

/-- 'laws.FnBounces': WHATEVER THE INPUT: true; the input reads as it did. -/
def fnBouncesSpec : ChangeSpec := { name := "fnBounces", fn := fun _ => fun
  | [d] => { results := [.lit (.bool true)], args := [d] }
  | _ => none }
def fnBouncesRow : OpenClaim := { program := "ytifafoghgnfioaa", sum := "db2190cb31bc5cde60016fe0cef883c3a886ee1741b947db3e14afb8ab8ddcfc", func := "loop.example/g00619/laws.FnBounces", spec := "fnBounces", apart := false }
def FnBouncesSaid : Prop := fnBouncesRow.holds Try.pinned (OpenSpec.ofChange fnBouncesSpec)

/-- ITS FALSE NEIGHBOUR: 'it returns false'. Refute it at one input. -/
def fnBouncesWrong : ChangeSpec := { name := "fnBounces", fn := fun _ => fun
  | [d] => { results := [.lit (.bool false)], args := [d] }
  | _ => none }
def FnBouncesWrongFalsely : Prop := fnBouncesRow.holds Try.pinned (OpenSpec.ofChange fnBouncesWrong)

/-- 'laws.FnExactBounceOk': WHATEVER THE INPUT: true; the input reads as it did. -/
def fnExactBounceOkSpec : ChangeSpec := { name := "fnExactBounceOk", fn := fun _ => fun
  | [d] => { results := [.lit (.bool true)], args := [d] }
  | _ => none }
def fnExactBounceOkRow : OpenClaim := { program := "ytifafoghgnfioaa", sum := "db2190cb31bc5cde60016fe0cef883c3a886ee1741b947db3e14afb8ab8ddcfc", func := "loop.example/g00619/laws.FnExactBounceOk", spec := "fnExactBounceOk", apart := false }
def FnExactBounceOkSaid : Prop := fnExactBounceOkRow.holds Try.pinned (OpenSpec.ofChange fnExactBounceOkSpec)

/-- ITS FALSE NEIGHBOUR: 'it returns false'. Refute it at one input. -/
def fnExactBounceOkWrong : ChangeSpec := { name := "fnExactBounceOk", fn := fun _ => fun
  | [d] => { results := [.lit (.bool false)], args := [d] }
  | _ => none }
def FnExactBounceOkWrongFalsely : Prop := fnExactBounceOkRow.holds Try.pinned (OpenSpec.ofChange fnExactBounceOkWrong)

/-- 'laws.FnExactFelt': WHATEVER THE INPUT: true; the input reads as it did. -/
def fnExactFeltSpec : ChangeSpec := { name := "fnExactFelt", fn := fun _ => fun
  | [d1, d2, d3, d4] => { results := [.lit (.bool true)], args := [d1, d2, d3, d4] }
  | _ => none }
def fnExactFeltRow : OpenClaim := { program := "ytifafoghgnfioaa", sum := "db2190cb31bc5cde60016fe0cef883c3a886ee1741b947db3e14afb8ab8ddcfc", func := "loop.example/g00619/laws.FnExactFelt", spec := "fnExactFelt", apart := false }
def FnExactFeltSaid : Prop := fnExactFeltRow.holds Try.pinned (OpenSpec.ofChange fnExactFeltSpec)

/-- ITS FALSE NEIGHBOUR: 'it returns false'. Refute it at one input. -/
def fnExactFeltWrong : ChangeSpec := { name := "fnExactFelt", fn := fun _ => fun
  | [d1, d2, d3, d4] => { results := [.lit (.bool false)], args := [d1, d2, d3, d4] }
  | _ => none }
def FnExactFeltWrongFalsely : Prop := fnExactFeltRow.holds Try.pinned (OpenSpec.ofChange fnExactFeltWrong)

/-- 'laws.FnExactFeltAll': WHATEVER THE INPUT: true; the input reads as it did. -/
def fnExactFeltAllSpec : ChangeSpec := { name := "fnExactFeltAll", fn := fun _ => fun
  | [d1, d2, d3, d4] => { results := [.lit (.bool true)], args := [d1, d2, d3, d4] }
  | _ => none }
def fnExactFeltAllRow : OpenClaim := { program := "ytifafoghgnfioaa", sum := "db2190cb31bc5cde60016fe0cef883c3a886ee1741b947db3e14afb8ab8ddcfc", func := "loop.example/g00619/laws.FnExactFeltAll", spec := "fnExactFeltAll", apart := false }
def FnExactFeltAllSaid : Prop := fnExactFeltAllRow.holds Try.pinned (OpenSpec.ofChange fnExactFeltAllSpec)

/-- ITS FALSE NEIGHBOUR: 'it returns false'. Refute it at one input. -/
def fnExactFeltAllWrong : ChangeSpec := { name := "fnExactFeltAll", fn := fun _ => fun
  | [d1, d2, d3, d4] => { results := [.lit (.bool false)], args := [d1, d2, d3, d4] }
  | _ => none }
def FnExactFeltAllWrongFalsely : Prop := fnExactFeltAllRow.holds Try.pinned (OpenSpec.ofChange fnExactFeltAllWrong)

/- THE SECOND FORM. 'bulk': how many values and letters a reading holds, each counted each time it is reached (what is shared counts as often as it is met; a slice's spare places count too). A statement '..UptoSaid' is the law's where the arguments, and the package variables that the reading takes, are together of bulk at most 1048576: NARROWER than '..Said'. Prove '..Said' where nothing that the law and all that it calls make is longer than what came in: it says more and counts as full. Else prove '..UptoSaid'. A law counts once. -/
mutual
def uptoBulk {H : Type} : DataW H → Nat
  | .lit (.string bytes) => bytes.length + 1
  | .lit _ => 1
  | .nil => 1
  | .ptr d => uptoBulk d + 1
  | .slice elems spare => uptoBulkAll elems + uptoBulkAll spare + 1
  | .agg parts => uptoBulkAll parts + 1
  | .iface _ d => uptoBulk d + 1
  | .map entries => uptoBulkEntries entries + 1
  | .held _ => 1
def uptoBulkAll {H : Type} : List (DataW H) → Nat
  | [] => 0
  | d :: r => uptoBulk d + uptoBulkAll r
def uptoBulkEntries {H : Type} : List (Lit × DataW H) → Nat
  | [] => 0
  | x :: r => uptoBulkEntry x + uptoBulkEntries r
def uptoBulkEntry {H : Type} : Lit × DataW H → Nat
  | (.string bytes, d) => bytes.length + uptoBulk d + 1
  | (_, d) => uptoBulk d + 1
 end
def uptoSmall : (H : Type) → List (DataW H) → Bool := fun _ ds => decide (uptoBulkAll ds ≤ 1048576)
def OpenSpec.upto (s : _root_.Go.ChangeSpec) : _root_.Go.OpenSpec := { _root_.Go.OpenSpec.ofChange s with cond := some uptoSmall }

/-- 'laws.FnBounces', WHERE WHAT IT READS IS OF BULK AT MOST 1048576: true; the input reads as it did. -/
def fnBouncesUptoRow : OpenClaim := { program := "ytifafoghgnfioaa", sum := "db2190cb31bc5cde60016fe0cef883c3a886ee1741b947db3e14afb8ab8ddcfc", func := "loop.example/g00619/laws.FnBounces", spec := "fnBounces", apart := false, narrowed := true }
def FnBouncesUptoSaid : Prop := fnBouncesUptoRow.holds Try.pinned (OpenSpec.upto fnBouncesSpec)

/-- 'laws.FnExactBounceOk', WHERE WHAT IT READS IS OF BULK AT MOST 1048576: true; the input reads as it did. -/
def fnExactBounceOkUptoRow : OpenClaim := { program := "ytifafoghgnfioaa", sum := "db2190cb31bc5cde60016fe0cef883c3a886ee1741b947db3e14afb8ab8ddcfc", func := "loop.example/g00619/laws.FnExactBounceOk", spec := "fnExactBounceOk", apart := false, narrowed := true }
def FnExactBounceOkUptoSaid : Prop := fnExactBounceOkUptoRow.holds Try.pinned (OpenSpec.upto fnExactBounceOkSpec)

/-- 'laws.FnExactFelt', WHERE WHAT IT READS IS OF BULK AT MOST 1048576: true; the input reads as it did. -/
def fnExactFeltUptoRow : OpenClaim := { program := "ytifafoghgnfioaa", sum := "db2190cb31bc5cde60016fe0cef883c3a886ee1741b947db3e14afb8ab8ddcfc", func := "loop.example/g00619/laws.FnExactFelt", spec := "fnExactFelt", apart := false, narrowed := true }
def FnExactFeltUptoSaid : Prop := fnExactFeltUptoRow.holds Try.pinned (OpenSpec.upto fnExactFeltSpec)

/-- 'laws.FnExactFeltAll', WHERE WHAT IT READS IS OF BULK AT MOST 1048576: true; the input reads as it did. -/
def fnExactFeltAllUptoRow : OpenClaim := { program := "ytifafoghgnfioaa", sum := "db2190cb31bc5cde60016fe0cef883c3a886ee1741b947db3e14afb8ab8ddcfc", func := "loop.example/g00619/laws.FnExactFeltAll", spec := "fnExactFeltAll", apart := false, narrowed := true }
def FnExactFeltAllUptoSaid : Prop := fnExactFeltAllUptoRow.holds Try.pinned (OpenSpec.upto fnExactFeltAllSpec)

end Rows
end Go.Proofs.Ytifafoghgnfioaa
