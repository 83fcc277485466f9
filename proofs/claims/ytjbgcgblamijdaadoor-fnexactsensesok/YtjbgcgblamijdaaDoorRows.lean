/-
  NARROWER THAN 'FOR EVERY INPUT', by the rows' own cells (each row's printed sentence says how): FnExactSensesOk: laid · FnExactNewSenses: laid · FnExactFactsOf: laid.
  DERIVED. THE GIVEN ROWS OF THIS SEAT. 3 by the template 'for every input the law returns true; each argument reads behind the call as it read before'; 0 by the template 'total and deterministic' (their statements: YtjbgcgblamijdaaDoorTotals.lean).
  GIVEN WITH THE SEED: the statements are not yours to turn. If you find one false, say at which input.
  Laid BY PROGRAM, IN A SANDBOX (cutbox-rows.mjs): the forced cells as the released guide's own fill.sh prints them over the translation 18c829d296942b08… (all of the seat's roots in one cut). By AI agents, Wed Nov 11 2026. No macro, syntax, notation, axiom, sorry.
-/
import Derived.Test.YtjbgcgblamijdaaDoorChecked
import GoSem.Claim
import GoSem.ClaimJoined
import GoSem.ClaimMapViews
import Derived.JoinedTies
import Derived.KernelRfl
namespace Go.Proofs.YtjbgcgblamijdaaDoor
/- THE CELL 'sum', in the pinned program and in every row, IS THE sha256 OF THE DUMP (.gsa) THAT YtjbgcgblamijdaaDoorProg.lean LOADS. Nothing in Lean hashes anything: it is a label: what it is worth is what the hold of that sum in a sandbox is worth. -/
noncomputable def Tryd.pinned : Pinned := { name := "ytjbgcgblamijdaadoor", sum := "18c829d296942b0839bbee8678978963b72d8c43ddffb0a8f9c3b2fdabb1042e", checked := Tryd.checked }
namespace Rows
def none {H : Type} : Left H := { results := [], args := [] }

/- WHAT THE LISTED PACKAGE-LEVEL VARIABLES READ AS WHEN THE CALL BEGINS. Each datum BY PROGRAM (the guide's laid-datum.mjs) off the statement by which the dump's own 'gosem.cut.vars' lays the variable. In a bare row this is a premise. The card (YtjbgcgblamijdaaDoorCards.lean) ties it to the program's text. -/
def laid_loop_example_g00619_impl_valuesOf {H : Type} : DataW H := .agg [.lit (.int .i64 0), .lit (.int .i64 3), .lit (.int .i64 2), .lit (.int .i64 6), .lit (.int .i64 2)]

/-- 'laws.FnExactSensesOk': WHATEVER THE INPUT: true; the input reads as it did. -/
def fnExactSensesOkSpec : ChangeSpec := { name := "fnExactSensesOk", vars := ["loop.example/g00619/impl.valuesOf"], fn := fun _ => fun
  | [d, g1] => { results := [.lit (.bool true)], args := [d], vars := [g1] }
  | _ => none }
def fnExactSensesOkRow : OpenClaim := { program := "ytjbgcgblamijdaadoor", sum := "18c829d296942b0839bbee8678978963b72d8c43ddffb0a8f9c3b2fdabb1042e", func := "loop.example/g00619/laws.FnExactSensesOk", spec := "fnExactSensesOk", named := ["loop.example/g00619/impl.valuesOf"], apart := false, laid := [("loop.example/g00619/impl.valuesOf", laid_loop_example_g00619_impl_valuesOf)] }
def FnExactSensesOkSaid : Prop := fnExactSensesOkRow.holds Tryd.pinned (OpenSpec.ofChange fnExactSensesOkSpec)

/-- ITS FALSE NEIGHBOUR: 'it returns false'. Refute it at one input. -/
def fnExactSensesOkWrong : ChangeSpec := { name := "fnExactSensesOk", vars := ["loop.example/g00619/impl.valuesOf"], fn := fun _ => fun
  | [d, g1] => { results := [.lit (.bool false)], args := [d], vars := [g1] }
  | _ => none }
def FnExactSensesOkWrongFalsely : Prop := fnExactSensesOkRow.holds Tryd.pinned (OpenSpec.ofChange fnExactSensesOkWrong)

/-- 'laws.FnExactNewSenses': WHATEVER THE INPUT: true; the input reads as it did. -/
def fnExactNewSensesSpec : ChangeSpec := { name := "fnExactNewSenses", vars := ["loop.example/g00619/impl.valuesOf"], fn := fun _ => fun
  | [g1] => { results := [.lit (.bool true)], args := [], vars := [g1] }
  | _ => none }
def fnExactNewSensesRow : OpenClaim := { program := "ytjbgcgblamijdaadoor", sum := "18c829d296942b0839bbee8678978963b72d8c43ddffb0a8f9c3b2fdabb1042e", func := "loop.example/g00619/laws.FnExactNewSenses", spec := "fnExactNewSenses", named := ["loop.example/g00619/impl.valuesOf"], apart := false, laid := [("loop.example/g00619/impl.valuesOf", laid_loop_example_g00619_impl_valuesOf)] }
def FnExactNewSensesSaid : Prop := fnExactNewSensesRow.holds Tryd.pinned (OpenSpec.ofChange fnExactNewSensesSpec)

/-- ITS FALSE NEIGHBOUR: 'it returns false'. Refute it at one input. -/
def fnExactNewSensesWrong : ChangeSpec := { name := "fnExactNewSenses", vars := ["loop.example/g00619/impl.valuesOf"], fn := fun _ => fun
  | [g1] => { results := [.lit (.bool false)], args := [], vars := [g1] }
  | _ => none }
def FnExactNewSensesWrongFalsely : Prop := fnExactNewSensesRow.holds Tryd.pinned (OpenSpec.ofChange fnExactNewSensesWrong)

/-- 'laws.FnExactFactsOf': WHATEVER THE INPUT: true; the input reads as it did. -/
def fnExactFactsOfSpec : ChangeSpec := { name := "fnExactFactsOf", vars := ["loop.example/g00619/impl.valuesOf"], fn := fun _ => fun
  | [d1, d2, d3, g1] => { results := [.lit (.bool true)], args := [d1, d2, d3], vars := [g1] }
  | _ => none }
def fnExactFactsOfRow : OpenClaim := { program := "ytjbgcgblamijdaadoor", sum := "18c829d296942b0839bbee8678978963b72d8c43ddffb0a8f9c3b2fdabb1042e", func := "loop.example/g00619/laws.FnExactFactsOf", spec := "fnExactFactsOf", unfollowed := true, recurses := true, named := ["loop.example/g00619/impl.valuesOf"], apart := false, laid := [("loop.example/g00619/impl.valuesOf", laid_loop_example_g00619_impl_valuesOf)] }
def FnExactFactsOfSaid : Prop := fnExactFactsOfRow.holds Tryd.pinned (OpenSpec.ofChange fnExactFactsOfSpec)

/-- ITS FALSE NEIGHBOUR: 'it returns false'. Refute it at one input. -/
def fnExactFactsOfWrong : ChangeSpec := { name := "fnExactFactsOf", vars := ["loop.example/g00619/impl.valuesOf"], fn := fun _ => fun
  | [d1, d2, d3, g1] => { results := [.lit (.bool false)], args := [d1, d2, d3], vars := [g1] }
  | _ => none }
def FnExactFactsOfWrongFalsely : Prop := fnExactFactsOfRow.holds Tryd.pinned (OpenSpec.ofChange fnExactFactsOfWrong)

/- THE SECOND FORM. 'bulk': how many values and letters a reading holds, each counted each time it is reached (what is shared counts as often as it is met; a slice's spare places count too). A statement '..UptoSaid' is the law's where the arguments, and the package variables that the reading takes, are together of bulk at most 1048576: NARROWER than '..Said'. Prove '..Said' where nothing that the law and all that it calls make is longer than what came in: it says more and counts as full. Else prove '..UptoSaid'. A law counts once. -/
mutual
def uptoBulk {H : Type} : DataW H → Nat
  | .lit (.string bytes) => bytes.length + 1
  | .lit _ => 1
  | .nil => 1
  | .ptr d => uptoBulk d + 1
  | .slice elems spare => uptoBulkAll elems + uptoBulkAll spare + 1
  | .agg parts => uptoBulkAll parts + 1
  | .iface _ d => uptoBulk d + 1
  | .map entries => uptoBulkEntries entries + 1
  | .held _ => 1
def uptoBulkAll {H : Type} : List (DataW H) → Nat
  | [] => 0
  | d :: r => uptoBulk d + uptoBulkAll r
def uptoBulkEntries {H : Type} : List (Lit × DataW H) → Nat
  | [] => 0
  | x :: r => uptoBulkEntry x + uptoBulkEntries r
def uptoBulkEntry {H : Type} : Lit × DataW H → Nat
  | (.string bytes, d) => bytes.length + uptoBulk d + 1
  | (_, d) => uptoBulk d + 1
 end
def uptoSmall : (H : Type) → List (DataW H) → Bool := fun _ ds => decide (uptoBulkAll ds ≤ 1048576)
def OpenSpec.upto (s : _root_.Go.ChangeSpec) : _root_.Go.OpenSpec := { _root_.Go.OpenSpec.ofChange s with cond := some uptoSmall }

/-- 'laws.FnExactSensesOk', WHERE WHAT IT READS IS OF BULK AT MOST 1048576: true; the input reads as it did. -/
def fnExactSensesOkUptoRow : OpenClaim := { program := "ytjbgcgblamijdaadoor", sum := "18c829d296942b0839bbee8678978963b72d8c43ddffb0a8f9c3b2fdabb1042e", func := "loop.example/g00619/laws.FnExactSensesOk", spec := "fnExactSensesOk", named := ["loop.example/g00619/impl.valuesOf"], apart := false, laid := [("loop.example/g00619/impl.valuesOf", laid_loop_example_g00619_impl_valuesOf)], narrowed := true }
def FnExactSensesOkUptoSaid : Prop := fnExactSensesOkUptoRow.holds Tryd.pinned (OpenSpec.upto fnExactSensesOkSpec)

/-- 'laws.FnExactNewSenses', WHERE WHAT IT READS IS OF BULK AT MOST 1048576: true; the input reads as it did. -/
def fnExactNewSensesUptoRow : OpenClaim := { program := "ytjbgcgblamijdaadoor", sum := "18c829d296942b0839bbee8678978963b72d8c43ddffb0a8f9c3b2fdabb1042e", func := "loop.example/g00619/laws.FnExactNewSenses", spec := "fnExactNewSenses", named := ["loop.example/g00619/impl.valuesOf"], apart := false, laid := [("loop.example/g00619/impl.valuesOf", laid_loop_example_g00619_impl_valuesOf)], narrowed := true }
def FnExactNewSensesUptoSaid : Prop := fnExactNewSensesUptoRow.holds Tryd.pinned (OpenSpec.upto fnExactNewSensesSpec)

/-- 'laws.FnExactFactsOf', WHERE WHAT IT READS IS OF BULK AT MOST 1048576: true; the input reads as it did. -/
def fnExactFactsOfUptoRow : OpenClaim := { program := "ytjbgcgblamijdaadoor", sum := "18c829d296942b0839bbee8678978963b72d8c43ddffb0a8f9c3b2fdabb1042e", func := "loop.example/g00619/laws.FnExactFactsOf", spec := "fnExactFactsOf", unfollowed := true, recurses := true, named := ["loop.example/g00619/impl.valuesOf"], apart := false, laid := [("loop.example/g00619/impl.valuesOf", laid_loop_example_g00619_impl_valuesOf)], narrowed := true }
def FnExactFactsOfUptoSaid : Prop := fnExactFactsOfUptoRow.holds Tryd.pinned (OpenSpec.upto fnExactFactsOfSpec)

end Rows
end Go.Proofs.YtjbgcgblamijdaaDoor
