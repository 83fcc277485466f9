/-
  No cell of these rows narrows 'for every input' (looked for: loops, veiled, ifaces, maps, wideKeys, modest, calm, conditions, laid).
  DERIVED. THE GIVEN ROWS OF THIS SEAT. 4 by the template 'for every input the law returns true; each argument reads behind the call as it read before'; 0 by the template 'total and deterministic' (their statements: YtadjojmeihhkhaaTotals.lean).
  GIVEN WITH THE SEED: the statements are not yours to turn. If you find one false, say at which input.
  Laid BY PROGRAM, IN A SANDBOX (cutbox-rows.mjs): the forced cells as the released guide's own fill.sh prints them over the translation 61d3b5365df35bde… (all of the seat's roots in one cut). By AI agents, Wed Nov 11 2026. No macro, syntax, notation, axiom, sorry.
-/
import Derived.Test.YtadjojmeihhkhaaChecked
import GoSem.Claim
import GoSem.ClaimJoined
import GoSem.ClaimMapViews
import Derived.JoinedTies
import Derived.KernelRfl
namespace Go.Proofs.Ytadjojmeihhkhaa
/- THE CELL 'sum', in the pinned program and in every row, IS THE sha256 OF THE DUMP (.gsa) THAT YtadjojmeihhkhaaProg.lean LOADS. Nothing in Lean hashes anything: it is a label: what it is worth is what the hold of that sum in a sandbox is worth. -/
noncomputable def Try.pinned : Pinned := { name := "ytadjojmeihhkhaa", sum := "61d3b5365df35bde103eb78df46bff7b680980381b132e61efef7b402624f5e4", checked := Try.checked }
namespace Rows
def none {H : Type} : Left H := { results := [], args := [] }

/-- 'laws.FnExactAcross': WHATEVER THE INPUT: true; the input reads as it did. -/
def fnExactAcrossSpec : ChangeSpec := { name := "fnExactAcross", fn := fun _ => fun
  | [d] => { results := [.lit (.bool true)], args := [d] }
  | _ => none }
def fnExactAcrossRow : OpenClaim := { program := "ytadjojmeihhkhaa", sum := "61d3b5365df35bde103eb78df46bff7b680980381b132e61efef7b402624f5e4", func := "loop.example/g00619/laws.FnExactAcross", spec := "fnExactAcross", apart := false }
def FnExactAcrossSaid : Prop := fnExactAcrossRow.holds Try.pinned (OpenSpec.ofChange fnExactAcrossSpec)

/-- ITS FALSE NEIGHBOUR: 'it returns false'. Refute it at one input. -/
def fnExactAcrossWrong : ChangeSpec := { name := "fnExactAcross", fn := fun _ => fun
  | [d] => { results := [.lit (.bool false)], args := [d] }
  | _ => none }
def FnExactAcrossWrongFalsely : Prop := fnExactAcrossRow.holds Try.pinned (OpenSpec.ofChange fnExactAcrossWrong)

/-- 'laws.FnExactStaysIn': WHATEVER THE INPUT: true; the input reads as it did. -/
def fnExactStaysInSpec : ChangeSpec := { name := "fnExactStaysIn", fn := fun _ => fun
  | [d] => { results := [.lit (.bool true)], args := [d] }
  | _ => none }
def fnExactStaysInRow : OpenClaim := { program := "ytadjojmeihhkhaa", sum := "61d3b5365df35bde103eb78df46bff7b680980381b132e61efef7b402624f5e4", func := "loop.example/g00619/laws.FnExactStaysIn", spec := "fnExactStaysIn", apart := false }
def FnExactStaysInSaid : Prop := fnExactStaysInRow.holds Try.pinned (OpenSpec.ofChange fnExactStaysInSpec)

/-- ITS FALSE NEIGHBOUR: 'it returns false'. Refute it at one input. -/
def fnExactStaysInWrong : ChangeSpec := { name := "fnExactStaysIn", fn := fun _ => fun
  | [d] => { results := [.lit (.bool false)], args := [d] }
  | _ => none }
def FnExactStaysInWrongFalsely : Prop := fnExactStaysInRow.holds Try.pinned (OpenSpec.ofChange fnExactStaysInWrong)

/-- 'laws.FnExactStaysOn': WHATEVER THE INPUT: true; the input reads as it did. -/
def fnExactStaysOnSpec : ChangeSpec := { name := "fnExactStaysOn", fn := fun _ => fun
  | [d1, d2] => { results := [.lit (.bool true)], args := [d1, d2] }
  | _ => none }
def fnExactStaysOnRow : OpenClaim := { program := "ytadjojmeihhkhaa", sum := "61d3b5365df35bde103eb78df46bff7b680980381b132e61efef7b402624f5e4", func := "loop.example/g00619/laws.FnExactStaysOn", spec := "fnExactStaysOn", apart := false }
def FnExactStaysOnSaid : Prop := fnExactStaysOnRow.holds Try.pinned (OpenSpec.ofChange fnExactStaysOnSpec)

/-- ITS FALSE NEIGHBOUR: 'it returns false'. Refute it at one input. -/
def fnExactStaysOnWrong : ChangeSpec := { name := "fnExactStaysOn", fn := fun _ => fun
  | [d1, d2] => { results := [.lit (.bool false)], args := [d1, d2] }
  | _ => none }
def FnExactStaysOnWrongFalsely : Prop := fnExactStaysOnRow.holds Try.pinned (OpenSpec.ofChange fnExactStaysOnWrong)

/-- 'laws.FnExactCaseOk': WHATEVER THE INPUT: true; the input reads as it did. -/
def fnExactCaseOkSpec : ChangeSpec := { name := "fnExactCaseOk", fn := fun _ => fun
  | [d] => { results := [.lit (.bool true)], args := [d] }
  | _ => none }
def fnExactCaseOkRow : OpenClaim := { program := "ytadjojmeihhkhaa", sum := "61d3b5365df35bde103eb78df46bff7b680980381b132e61efef7b402624f5e4", func := "loop.example/g00619/laws.FnExactCaseOk", spec := "fnExactCaseOk", apart := false }
def FnExactCaseOkSaid : Prop := fnExactCaseOkRow.holds Try.pinned (OpenSpec.ofChange fnExactCaseOkSpec)

/-- ITS FALSE NEIGHBOUR: 'it returns false'. Refute it at one input. -/
def fnExactCaseOkWrong : ChangeSpec := { name := "fnExactCaseOk", fn := fun _ => fun
  | [d] => { results := [.lit (.bool false)], args := [d] }
  | _ => none }
def FnExactCaseOkWrongFalsely : Prop := fnExactCaseOkRow.holds Try.pinned (OpenSpec.ofChange fnExactCaseOkWrong)

/- THE SECOND FORM. 'bulk': how many values and letters a reading holds, each counted each time it is reached (what is shared counts as often as it is met; a slice's spare places count too). A statement '..UptoSaid' is the law's where the arguments, and the package variables that the reading takes, are together of bulk at most 1048576: NARROWER than '..Said'. Prove '..Said' where nothing that the law and all that it calls make is longer than what came in: it says more and counts as full. Else prove '..UptoSaid'. A law counts once. -/
mutual
def uptoBulk {H : Type} : DataW H → Nat
  | .lit (.string bytes) => bytes.length + 1
  | .lit _ => 1
  | .nil => 1
  | .ptr d => uptoBulk d + 1
  | .slice elems spare => uptoBulkAll elems + uptoBulkAll spare + 1
  | .agg parts => uptoBulkAll parts + 1
  | .iface _ d => uptoBulk d + 1
  | .map entries => uptoBulkEntries entries + 1
  | .held _ => 1
def uptoBulkAll {H : Type} : List (DataW H) → Nat
  | [] => 0
  | d :: r => uptoBulk d + uptoBulkAll r
def uptoBulkEntries {H : Type} : List (Lit × DataW H) → Nat
  | [] => 0
  | x :: r => uptoBulkEntry x + uptoBulkEntries r
def uptoBulkEntry {H : Type} : Lit × DataW H → Nat
  | (.string bytes, d) => bytes.length + uptoBulk d + 1
  | (_, d) => uptoBulk d + 1
 end
def uptoSmall : (H : Type) → List (DataW H) → Bool := fun _ ds => decide (uptoBulkAll ds ≤ 1048576)
def OpenSpec.upto (s : _root_.Go.ChangeSpec) : _root_.Go.OpenSpec := { _root_.Go.OpenSpec.ofChange s with cond := some uptoSmall }

/-- 'laws.FnExactAcross', WHERE WHAT IT READS IS OF BULK AT MOST 1048576: true; the input reads as it did. -/
def fnExactAcrossUptoRow : OpenClaim := { program := "ytadjojmeihhkhaa", sum := "61d3b5365df35bde103eb78df46bff7b680980381b132e61efef7b402624f5e4", func := "loop.example/g00619/laws.FnExactAcross", spec := "fnExactAcross", apart := false, narrowed := true }
def FnExactAcrossUptoSaid : Prop := fnExactAcrossUptoRow.holds Try.pinned (OpenSpec.upto fnExactAcrossSpec)

/-- 'laws.FnExactStaysIn', WHERE WHAT IT READS IS OF BULK AT MOST 1048576: true; the input reads as it did. -/
def fnExactStaysInUptoRow : OpenClaim := { program := "ytadjojmeihhkhaa", sum := "61d3b5365df35bde103eb78df46bff7b680980381b132e61efef7b402624f5e4", func := "loop.example/g00619/laws.FnExactStaysIn", spec := "fnExactStaysIn", apart := false, narrowed := true }
def FnExactStaysInUptoSaid : Prop := fnExactStaysInUptoRow.holds Try.pinned (OpenSpec.upto fnExactStaysInSpec)

/-- 'laws.FnExactStaysOn', WHERE WHAT IT READS IS OF BULK AT MOST 1048576: true; the input reads as it did. -/
def fnExactStaysOnUptoRow : OpenClaim := { program := "ytadjojmeihhkhaa", sum := "61d3b5365df35bde103eb78df46bff7b680980381b132e61efef7b402624f5e4", func := "loop.example/g00619/laws.FnExactStaysOn", spec := "fnExactStaysOn", apart := false, narrowed := true }
def FnExactStaysOnUptoSaid : Prop := fnExactStaysOnUptoRow.holds Try.pinned (OpenSpec.upto fnExactStaysOnSpec)

/-- 'laws.FnExactCaseOk', WHERE WHAT IT READS IS OF BULK AT MOST 1048576: true; the input reads as it did. -/
def fnExactCaseOkUptoRow : OpenClaim := { program := "ytadjojmeihhkhaa", sum := "61d3b5365df35bde103eb78df46bff7b680980381b132e61efef7b402624f5e4", func := "loop.example/g00619/laws.FnExactCaseOk", spec := "fnExactCaseOk", apart := false, narrowed := true }
def FnExactCaseOkUptoSaid : Prop := fnExactCaseOkUptoRow.holds Try.pinned (OpenSpec.upto fnExactCaseOkSpec)

end Rows
end Go.Proofs.Ytadjojmeihhkhaa
