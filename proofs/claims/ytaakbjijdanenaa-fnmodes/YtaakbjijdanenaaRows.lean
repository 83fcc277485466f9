/-
  No cell of these rows narrows 'for every input' (looked for: loops, veiled, ifaces, maps, wideKeys, modest, calm, conditions, laid).
  DERIVED. THE GIVEN ROWS OF THIS SEAT. 5 by the template 'for every input the law returns true; each argument reads behind the call as it read before'; 0 by the template 'total and deterministic' (their statements: YtaakbjijdanenaaTotals.lean).
  GIVEN WITH THE SEED: the statements are not yours to turn. If you find one false, say at which input.
  Laid BY PROGRAM, IN A SANDBOX (cutbox-rows.mjs): the forced cells as the released guide's own fill.sh prints them over the translation eb17259200815fa4… (all of the seat's roots in one cut). By AI agents, Wed Nov 11 2026. No macro, syntax, notation, axiom, sorry.
-/
import Derived.Test.YtaakbjijdanenaaChecked
import GoSem.Claim
import GoSem.ClaimJoined
import GoSem.ClaimMapViews
import Derived.JoinedTies
import Derived.KernelRfl
namespace Go.Proofs.Ytaakbjijdanenaa
/- THE CELL 'sum', in the pinned program and in every row, IS THE sha256 OF THE DUMP (.gsa) THAT YtaakbjijdanenaaProg.lean LOADS. Nothing in Lean hashes anything: it is a label: what it is worth is what the hold of that sum in a sandbox is worth. -/
noncomputable def Try.pinned : Pinned := { name := "ytaakbjijdanenaa", sum := "eb17259200815fa40adad03acac28f622fe428530e0c5b1c30005f62564892f9", checked := Try.checked }
namespace Rows
def none {H : Type} : Left H := { results := [], args := [] }

/-- 'laws.FnModes': WHATEVER THE INPUT: true; the input reads as it did. -/
def fnModesSpec : ChangeSpec := { name := "fnModes", fn := fun _ => fun
  | [d] => { results := [.lit (.bool true)], args := [d] }
  | _ => none }
def fnModesRow : OpenClaim := { program := "ytaakbjijdanenaa", sum := "eb17259200815fa40adad03acac28f622fe428530e0c5b1c30005f62564892f9", func := "loop.example/g00619/laws.FnModes", spec := "fnModes", unfollowed := true, recurses := true, apart := false }
def FnModesSaid : Prop := fnModesRow.holds Try.pinned (OpenSpec.ofChange fnModesSpec)

/-- ITS FALSE NEIGHBOUR: 'it returns false'. Refute it at one input. -/
def fnModesWrong : ChangeSpec := { name := "fnModes", fn := fun _ => fun
  | [d] => { results := [.lit (.bool false)], args := [d] }
  | _ => none }
def FnModesWrongFalsely : Prop := fnModesRow.holds Try.pinned (OpenSpec.ofChange fnModesWrong)

/-- 'laws.FnExactFactsOk': WHATEVER THE INPUT: true; the input reads as it did. -/
def fnExactFactsOkSpec : ChangeSpec := { name := "fnExactFactsOk", fn := fun _ => fun
  | [d] => { results := [.lit (.bool true)], args := [d] }
  | _ => none }
def fnExactFactsOkRow : OpenClaim := { program := "ytaakbjijdanenaa", sum := "eb17259200815fa40adad03acac28f622fe428530e0c5b1c30005f62564892f9", func := "loop.example/g00619/laws.FnExactFactsOk", spec := "fnExactFactsOk", apart := false }
def FnExactFactsOkSaid : Prop := fnExactFactsOkRow.holds Try.pinned (OpenSpec.ofChange fnExactFactsOkSpec)

/-- ITS FALSE NEIGHBOUR: 'it returns false'. Refute it at one input. -/
def fnExactFactsOkWrong : ChangeSpec := { name := "fnExactFactsOk", fn := fun _ => fun
  | [d] => { results := [.lit (.bool false)], args := [d] }
  | _ => none }
def FnExactFactsOkWrongFalsely : Prop := fnExactFactsOkRow.holds Try.pinned (OpenSpec.ofChange fnExactFactsOkWrong)

/-- 'laws.FnExactNextMode': WHATEVER THE INPUT: true; the input reads as it did. -/
def fnExactNextModeSpec : ChangeSpec := { name := "fnExactNextMode", fn := fun _ => fun
  | [d1, d2] => { results := [.lit (.bool true)], args := [d1, d2] }
  | _ => none }
def fnExactNextModeRow : OpenClaim := { program := "ytaakbjijdanenaa", sum := "eb17259200815fa40adad03acac28f622fe428530e0c5b1c30005f62564892f9", func := "loop.example/g00619/laws.FnExactNextMode", spec := "fnExactNextMode", unfollowed := true, recurses := true, apart := false }
def FnExactNextModeSaid : Prop := fnExactNextModeRow.holds Try.pinned (OpenSpec.ofChange fnExactNextModeSpec)

/-- ITS FALSE NEIGHBOUR: 'it returns false'. Refute it at one input. -/
def fnExactNextModeWrong : ChangeSpec := { name := "fnExactNextMode", fn := fun _ => fun
  | [d1, d2] => { results := [.lit (.bool false)], args := [d1, d2] }
  | _ => none }
def FnExactNextModeWrongFalsely : Prop := fnExactNextModeRow.holds Try.pinned (OpenSpec.ofChange fnExactNextModeWrong)

/-- 'laws.FnExactInAir': WHATEVER THE INPUT: true; the input reads as it did. -/
def fnExactInAirSpec : ChangeSpec := { name := "fnExactInAir", fn := fun _ => fun
  | [d] => { results := [.lit (.bool true)], args := [d] }
  | _ => none }
def fnExactInAirRow : OpenClaim := { program := "ytaakbjijdanenaa", sum := "eb17259200815fa40adad03acac28f622fe428530e0c5b1c30005f62564892f9", func := "loop.example/g00619/laws.FnExactInAir", spec := "fnExactInAir", apart := false }
def FnExactInAirSaid : Prop := fnExactInAirRow.holds Try.pinned (OpenSpec.ofChange fnExactInAirSpec)

/-- ITS FALSE NEIGHBOUR: 'it returns false'. Refute it at one input. -/
def fnExactInAirWrong : ChangeSpec := { name := "fnExactInAir", fn := fun _ => fun
  | [d] => { results := [.lit (.bool false)], args := [d] }
  | _ => none }
def FnExactInAirWrongFalsely : Prop := fnExactInAirRow.holds Try.pinned (OpenSpec.ofChange fnExactInAirWrong)

/-- 'laws.FnExactMayFollow': WHATEVER THE INPUT: true; the input reads as it did. -/
def fnExactMayFollowSpec : ChangeSpec := { name := "fnExactMayFollow", fn := fun _ => fun
  | [d1, d2] => { results := [.lit (.bool true)], args := [d1, d2] }
  | _ => none }
def fnExactMayFollowRow : OpenClaim := { program := "ytaakbjijdanenaa", sum := "eb17259200815fa40adad03acac28f622fe428530e0c5b1c30005f62564892f9", func := "loop.example/g00619/laws.FnExactMayFollow", spec := "fnExactMayFollow", apart := false }
def FnExactMayFollowSaid : Prop := fnExactMayFollowRow.holds Try.pinned (OpenSpec.ofChange fnExactMayFollowSpec)

/-- ITS FALSE NEIGHBOUR: 'it returns false'. Refute it at one input. -/
def fnExactMayFollowWrong : ChangeSpec := { name := "fnExactMayFollow", fn := fun _ => fun
  | [d1, d2] => { results := [.lit (.bool false)], args := [d1, d2] }
  | _ => none }
def FnExactMayFollowWrongFalsely : Prop := fnExactMayFollowRow.holds Try.pinned (OpenSpec.ofChange fnExactMayFollowWrong)

/- THE SECOND FORM. 'bulk': how many values and letters a reading holds, each counted each time it is reached (what is shared counts as often as it is met; a slice's spare places count too). A statement '..UptoSaid' is the law's where the arguments, and the package variables that the reading takes, are together of bulk at most 1048576: NARROWER than '..Said'. Prove '..Said' where nothing that the law and all that it calls make is longer than what came in: it says more and counts as full. Else prove '..UptoSaid'. A law counts once. -/
mutual
def uptoBulk {H : Type} : DataW H → Nat
  | .lit (.string bytes) => bytes.length + 1
  | .lit _ => 1
  | .nil => 1
  | .ptr d => uptoBulk d + 1
  | .slice elems spare => uptoBulkAll elems + uptoBulkAll spare + 1
  | .agg parts => uptoBulkAll parts + 1
  | .iface _ d => uptoBulk d + 1
  | .map entries => uptoBulkEntries entries + 1
  | .held _ => 1
def uptoBulkAll {H : Type} : List (DataW H) → Nat
  | [] => 0
  | d :: r => uptoBulk d + uptoBulkAll r
def uptoBulkEntries {H : Type} : List (Lit × DataW H) → Nat
  | [] => 0
  | x :: r => uptoBulkEntry x + uptoBulkEntries r
def uptoBulkEntry {H : Type} : Lit × DataW H → Nat
  | (.string bytes, d) => bytes.length + uptoBulk d + 1
  | (_, d) => uptoBulk d + 1
 end
def uptoSmall : (H : Type) → List (DataW H) → Bool := fun _ ds => decide (uptoBulkAll ds ≤ 1048576)
def OpenSpec.upto (s : _root_.Go.ChangeSpec) : _root_.Go.OpenSpec := { _root_.Go.OpenSpec.ofChange s with cond := some uptoSmall }

/-- 'laws.FnModes', WHERE WHAT IT READS IS OF BULK AT MOST 1048576: true; the input reads as it did. -/
def fnModesUptoRow : OpenClaim := { program := "ytaakbjijdanenaa", sum := "eb17259200815fa40adad03acac28f622fe428530e0c5b1c30005f62564892f9", func := "loop.example/g00619/laws.FnModes", spec := "fnModes", unfollowed := true, recurses := true, apart := false, narrowed := true }
def FnModesUptoSaid : Prop := fnModesUptoRow.holds Try.pinned (OpenSpec.upto fnModesSpec)

/-- 'laws.FnExactFactsOk', WHERE WHAT IT READS IS OF BULK AT MOST 1048576: true; the input reads as it did. -/
def fnExactFactsOkUptoRow : OpenClaim := { program := "ytaakbjijdanenaa", sum := "eb17259200815fa40adad03acac28f622fe428530e0c5b1c30005f62564892f9", func := "loop.example/g00619/laws.FnExactFactsOk", spec := "fnExactFactsOk", apart := false, narrowed := true }
def FnExactFactsOkUptoSaid : Prop := fnExactFactsOkUptoRow.holds Try.pinned (OpenSpec.upto fnExactFactsOkSpec)

/-- 'laws.FnExactNextMode', WHERE WHAT IT READS IS OF BULK AT MOST 1048576: true; the input reads as it did. -/
def fnExactNextModeUptoRow : OpenClaim := { program := "ytaakbjijdanenaa", sum := "eb17259200815fa40adad03acac28f622fe428530e0c5b1c30005f62564892f9", func := "loop.example/g00619/laws.FnExactNextMode", spec := "fnExactNextMode", unfollowed := true, recurses := true, apart := false, narrowed := true }
def FnExactNextModeUptoSaid : Prop := fnExactNextModeUptoRow.holds Try.pinned (OpenSpec.upto fnExactNextModeSpec)

/-- 'laws.FnExactInAir', WHERE WHAT IT READS IS OF BULK AT MOST 1048576: true; the input reads as it did. -/
def fnExactInAirUptoRow : OpenClaim := { program := "ytaakbjijdanenaa", sum := "eb17259200815fa40adad03acac28f622fe428530e0c5b1c30005f62564892f9", func := "loop.example/g00619/laws.FnExactInAir", spec := "fnExactInAir", apart := false, narrowed := true }
def FnExactInAirUptoSaid : Prop := fnExactInAirUptoRow.holds Try.pinned (OpenSpec.upto fnExactInAirSpec)

/-- 'laws.FnExactMayFollow', WHERE WHAT IT READS IS OF BULK AT MOST 1048576: true; the input reads as it did. -/
def fnExactMayFollowUptoRow : OpenClaim := { program := "ytaakbjijdanenaa", sum := "eb17259200815fa40adad03acac28f622fe428530e0c5b1c30005f62564892f9", func := "loop.example/g00619/laws.FnExactMayFollow", spec := "fnExactMayFollow", apart := false, narrowed := true }
def FnExactMayFollowUptoSaid : Prop := fnExactMayFollowUptoRow.holds Try.pinned (OpenSpec.upto fnExactMayFollowSpec)

end Rows
end Go.Proofs.Ytaakbjijdanenaa
