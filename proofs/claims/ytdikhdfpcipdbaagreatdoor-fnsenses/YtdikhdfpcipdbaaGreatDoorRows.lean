/-
  NARROWER THAN 'FOR EVERY INPUT', by the rows' own cells (each row's printed sentence says how): FnSenses: ifaces, laid · FnDeaf: ifaces, laid.
  DERIVED. THE GIVEN ROWS OF THIS SEAT. 2 by the template 'for every input the law returns true; each argument reads behind the call as it read before'; 0 by the template 'total and deterministic' (their statements: YtdikhdfpcipdbaaGreatDoorTotals.lean).
  GIVEN WITH THE SEED: the statements are not yours to turn. If you find one false, say at which input.
  Laid BY PROGRAM, IN A SANDBOX (cutbox-rows.mjs): the forced cells as the released guide's own fill.sh prints them over the translation f6c487677344871b… (all of the seat's roots in one cut). By AI agents, Wed Nov 11 2026. No macro, syntax, notation, axiom, sorry.
-/
import Derived.Test.YtdikhdfpcipdbaaGreatDoorChecked
import GoSem.Claim
import GoSem.ClaimJoined
import GoSem.ClaimMapViews
import Derived.JoinedTies
import Derived.KernelRfl
namespace Go.Proofs.YtdikhdfpcipdbaaGreatDoor
/- THE CELL 'sum', in the pinned program and in every row, IS THE sha256 OF THE DUMP (.gsa) THAT YtdikhdfpcipdbaaGreatDoorProg.lean LOADS. Nothing in Lean hashes anything: it is a label: what it is worth is what the hold of that sum in a sandbox is worth. -/
noncomputable def Tryz.pinned : Pinned := { name := "ytdikhdfpcipdbaagreatdoor", sum := "f6c487677344871ba01d2f369a22ffd8b840adf4bf8fbe49a441ec1bea54e962", checked := Tryz.checked }
namespace Rows
def none {H : Type} : Left H := { results := [], args := [] }

/- WHAT THE LISTED PACKAGE-LEVEL VARIABLES READ AS WHEN THE CALL BEGINS. Each datum BY PROGRAM (the guide's laid-datum.mjs) off the statement by which the dump's own 'gosem.cut.vars' lays the variable. In a bare row this is a premise. The card (YtdikhdfpcipdbaaGreatDoorCards.lean) ties it to the program's text. -/
def laid_errors_errorType {H : Type} : DataW H := .iface "internal/reflectlite.rtype" (.agg [.ptr (.lit (.string [101, 114, 114, 111, 114]))])
def laid_loop_example_g00619_impl_valuesOf {H : Type} : DataW H := .agg [.lit (.int .i64 0), .lit (.int .i64 3), .lit (.int .i64 2), .lit (.int .i64 6), .lit (.int .i64 2)]
def laid_loop_example_g00619_impl_errNotRight {H : Type} : DataW H := .iface "*errors.errorString" (.ptr (.agg [.lit (.string [116, 104, 101, 32, 114, 97, 110, 103, 101, 32, 111, 114, 32, 116, 104, 101, 32, 111, 108, 100, 32, 114, 101, 97, 100, 105, 110, 103, 32, 105, 115, 32, 110, 111, 116, 32, 114, 105, 103, 104, 116])]))
def laid_loop_example_g00619_impl_errTooFar {H : Type} : DataW H := .iface "*errors.errorString" (.ptr (.agg [.lit (.string [116, 111, 111, 32, 102, 97, 114, 58, 32, 110, 111, 116, 32, 102, 114, 111, 109, 32, 108, 111, 119, 32, 116, 111, 32, 104, 105, 103, 104])]))
def laid_loop_example_g00619_impl_errTooFast {H : Type} : DataW H := .iface "*errors.errorString" (.ptr (.agg [.lit (.string [116, 111, 111, 32, 102, 97, 115, 116, 58, 32, 116, 111, 111, 32, 102, 97, 114, 32, 102, 114, 111, 109, 32, 116, 104, 101, 32, 111, 108, 100, 32, 114, 101, 97, 100, 105, 110, 103])]))
def laid_loop_example_g00619_impl_speedRange {H : Type} : DataW H := .agg [.lit (.int .i64 0), .lit (.int .i64 400), .lit (.int .i64 20)]
def laid_loop_example_g00619_impl_heightRange {H : Type} : DataW H := .agg [.lit (.int .i64 0), .lit (.int .i64 2000), .lit (.int .i64 60)]

/-- 'laws.FnSenses': WHATEVER THE INPUT: true; the input reads as it did. -/
def fnSensesSpec : ChangeSpec := { name := "fnSenses", vars := ["loop.example/g00619/impl.valuesOf", "loop.example/g00619/impl.speedRange", "loop.example/g00619/impl.heightRange", "loop.example/g00619/impl.errNotRight", "loop.example/g00619/impl.errTooFar", "loop.example/g00619/impl.errTooFast"], fn := fun _ => fun
  | [d, g1, g2, g3, g4, g5, g6] => { results := [.lit (.bool true)], args := [d], vars := [g1, g2, g3, g4, g5, g6] }
  | _ => none }
def fnSensesRow : OpenClaim := { program := "ytdikhdfpcipdbaagreatdoor", sum := "f6c487677344871ba01d2f369a22ffd8b840adf4bf8fbe49a441ec1bea54e962", func := "loop.example/g00619/laws.FnSenses", spec := "fnSenses", inPlace := ["internal/reflectlite.TypeOf", "internal/reflectlite.ValueOf", "(internal/reflectlite.Value).Type", "(internal/reflectlite.Value).IsNil", "(internal/reflectlite.Value).Elem", "(internal/reflectlite.Value).Set"], unfollowed := true, recurses := true, named := ["loop.example/g00619/impl.valuesOf", "loop.example/g00619/impl.speedRange", "loop.example/g00619/impl.heightRange", "loop.example/g00619/impl.errNotRight", "loop.example/g00619/impl.errTooFar", "loop.example/g00619/impl.errTooFast", "errors.errorType"], ifaces := true, plainKeys := false, apart := false, laid := [("errors.errorType", laid_errors_errorType), ("loop.example/g00619/impl.valuesOf", laid_loop_example_g00619_impl_valuesOf), ("loop.example/g00619/impl.errNotRight", laid_loop_example_g00619_impl_errNotRight), ("loop.example/g00619/impl.errTooFar", laid_loop_example_g00619_impl_errTooFar), ("loop.example/g00619/impl.errTooFast", laid_loop_example_g00619_impl_errTooFast), ("loop.example/g00619/impl.speedRange", laid_loop_example_g00619_impl_speedRange), ("loop.example/g00619/impl.heightRange", laid_loop_example_g00619_impl_heightRange)] }
def FnSensesSaid : Prop := fnSensesRow.holds Tryz.pinned (OpenSpec.ofChange fnSensesSpec)

/-- ITS FALSE NEIGHBOUR: 'it returns false'. Refute it at one input. -/
def fnSensesWrong : ChangeSpec := { name := "fnSenses", vars := ["loop.example/g00619/impl.valuesOf", "loop.example/g00619/impl.speedRange", "loop.example/g00619/impl.heightRange", "loop.example/g00619/impl.errNotRight", "loop.example/g00619/impl.errTooFar", "loop.example/g00619/impl.errTooFast"], fn := fun _ => fun
  | [d, g1, g2, g3, g4, g5, g6] => { results := [.lit (.bool false)], args := [d], vars := [g1, g2, g3, g4, g5, g6] }
  | _ => none }
def FnSensesWrongFalsely : Prop := fnSensesRow.holds Tryz.pinned (OpenSpec.ofChange fnSensesWrong)

/-- 'laws.FnDeaf': WHATEVER THE INPUT: true; the input reads as it did. -/
def fnDeafSpec : ChangeSpec := { name := "fnDeaf", vars := ["loop.example/g00619/impl.valuesOf", "loop.example/g00619/impl.speedRange", "loop.example/g00619/impl.heightRange", "loop.example/g00619/impl.errNotRight", "loop.example/g00619/impl.errTooFar", "loop.example/g00619/impl.errTooFast"], fn := fun _ => fun
  | [d, g1, g2, g3, g4, g5, g6] => { results := [.lit (.bool true)], args := [d], vars := [g1, g2, g3, g4, g5, g6] }
  | _ => none }
def fnDeafRow : OpenClaim := { program := "ytdikhdfpcipdbaagreatdoor", sum := "f6c487677344871ba01d2f369a22ffd8b840adf4bf8fbe49a441ec1bea54e962", func := "loop.example/g00619/laws.FnDeaf", spec := "fnDeaf", inPlace := ["internal/reflectlite.TypeOf", "internal/reflectlite.ValueOf", "(internal/reflectlite.Value).Type", "(internal/reflectlite.Value).IsNil", "(internal/reflectlite.Value).Elem", "(internal/reflectlite.Value).Set"], unfollowed := true, recurses := true, named := ["loop.example/g00619/impl.valuesOf", "loop.example/g00619/impl.speedRange", "loop.example/g00619/impl.heightRange", "loop.example/g00619/impl.errNotRight", "loop.example/g00619/impl.errTooFar", "loop.example/g00619/impl.errTooFast", "errors.errorType"], ifaces := true, plainKeys := false, apart := false, laid := [("errors.errorType", laid_errors_errorType), ("loop.example/g00619/impl.valuesOf", laid_loop_example_g00619_impl_valuesOf), ("loop.example/g00619/impl.errNotRight", laid_loop_example_g00619_impl_errNotRight), ("loop.example/g00619/impl.errTooFar", laid_loop_example_g00619_impl_errTooFar), ("loop.example/g00619/impl.errTooFast", laid_loop_example_g00619_impl_errTooFast), ("loop.example/g00619/impl.speedRange", laid_loop_example_g00619_impl_speedRange), ("loop.example/g00619/impl.heightRange", laid_loop_example_g00619_impl_heightRange)] }
def FnDeafSaid : Prop := fnDeafRow.holds Tryz.pinned (OpenSpec.ofChange fnDeafSpec)

/-- ITS FALSE NEIGHBOUR: 'it returns false'. Refute it at one input. -/
def fnDeafWrong : ChangeSpec := { name := "fnDeaf", vars := ["loop.example/g00619/impl.valuesOf", "loop.example/g00619/impl.speedRange", "loop.example/g00619/impl.heightRange", "loop.example/g00619/impl.errNotRight", "loop.example/g00619/impl.errTooFar", "loop.example/g00619/impl.errTooFast"], fn := fun _ => fun
  | [d, g1, g2, g3, g4, g5, g6] => { results := [.lit (.bool false)], args := [d], vars := [g1, g2, g3, g4, g5, g6] }
  | _ => none }
def FnDeafWrongFalsely : Prop := fnDeafRow.holds Tryz.pinned (OpenSpec.ofChange fnDeafWrong)

/- THE SECOND FORM. 'bulk': how many values and letters a reading holds, each counted each time it is reached (what is shared counts as often as it is met; a slice's spare places count too). A statement '..UptoSaid' is the law's where the arguments, and the package variables that the reading takes, are together of bulk at most 1048576: NARROWER than '..Said'. Prove '..Said' where nothing that the law and all that it calls make is longer than what came in: it says more and counts as full. Else prove '..UptoSaid'. A law counts once. -/
mutual
def uptoBulk {H : Type} : DataW H → Nat
  | .lit (.string bytes) => bytes.length + 1
  | .lit _ => 1
  | .nil => 1
  | .ptr d => uptoBulk d + 1
  | .slice elems spare => uptoBulkAll elems + uptoBulkAll spare + 1
  | .agg parts => uptoBulkAll parts + 1
  | .iface _ d => uptoBulk d + 1
  | .map entries => uptoBulkEntries entries + 1
  | .held _ => 1
def uptoBulkAll {H : Type} : List (DataW H) → Nat
  | [] => 0
  | d :: r => uptoBulk d + uptoBulkAll r
def uptoBulkEntries {H : Type} : List (Lit × DataW H) → Nat
  | [] => 0
  | x :: r => uptoBulkEntry x + uptoBulkEntries r
def uptoBulkEntry {H : Type} : Lit × DataW H → Nat
  | (.string bytes, d) => bytes.length + uptoBulk d + 1
  | (_, d) => uptoBulk d + 1
 end
def uptoSmall : (H : Type) → List (DataW H) → Bool := fun _ ds => decide (uptoBulkAll ds ≤ 1048576)
def OpenSpec.upto (s : _root_.Go.ChangeSpec) : _root_.Go.OpenSpec := { _root_.Go.OpenSpec.ofChange s with cond := some uptoSmall }

/-- 'laws.FnSenses', WHERE WHAT IT READS IS OF BULK AT MOST 1048576: true; the input reads as it did. -/
def fnSensesUptoRow : OpenClaim := { program := "ytdikhdfpcipdbaagreatdoor", sum := "f6c487677344871ba01d2f369a22ffd8b840adf4bf8fbe49a441ec1bea54e962", func := "loop.example/g00619/laws.FnSenses", spec := "fnSenses", inPlace := ["internal/reflectlite.TypeOf", "internal/reflectlite.ValueOf", "(internal/reflectlite.Value).Type", "(internal/reflectlite.Value).IsNil", "(internal/reflectlite.Value).Elem", "(internal/reflectlite.Value).Set"], unfollowed := true, recurses := true, named := ["loop.example/g00619/impl.valuesOf", "loop.example/g00619/impl.speedRange", "loop.example/g00619/impl.heightRange", "loop.example/g00619/impl.errNotRight", "loop.example/g00619/impl.errTooFar", "loop.example/g00619/impl.errTooFast", "errors.errorType"], ifaces := true, plainKeys := false, apart := false, laid := [("errors.errorType", laid_errors_errorType), ("loop.example/g00619/impl.valuesOf", laid_loop_example_g00619_impl_valuesOf), ("loop.example/g00619/impl.errNotRight", laid_loop_example_g00619_impl_errNotRight), ("loop.example/g00619/impl.errTooFar", laid_loop_example_g00619_impl_errTooFar), ("loop.example/g00619/impl.errTooFast", laid_loop_example_g00619_impl_errTooFast), ("loop.example/g00619/impl.speedRange", laid_loop_example_g00619_impl_speedRange), ("loop.example/g00619/impl.heightRange", laid_loop_example_g00619_impl_heightRange)], narrowed := true }
def FnSensesUptoSaid : Prop := fnSensesUptoRow.holds Tryz.pinned (OpenSpec.upto fnSensesSpec)

/-- 'laws.FnDeaf', WHERE WHAT IT READS IS OF BULK AT MOST 1048576: true; the input reads as it did. -/
def fnDeafUptoRow : OpenClaim := { program := "ytdikhdfpcipdbaagreatdoor", sum := "f6c487677344871ba01d2f369a22ffd8b840adf4bf8fbe49a441ec1bea54e962", func := "loop.example/g00619/laws.FnDeaf", spec := "fnDeaf", inPlace := ["internal/reflectlite.TypeOf", "internal/reflectlite.ValueOf", "(internal/reflectlite.Value).Type", "(internal/reflectlite.Value).IsNil", "(internal/reflectlite.Value).Elem", "(internal/reflectlite.Value).Set"], unfollowed := true, recurses := true, named := ["loop.example/g00619/impl.valuesOf", "loop.example/g00619/impl.speedRange", "loop.example/g00619/impl.heightRange", "loop.example/g00619/impl.errNotRight", "loop.example/g00619/impl.errTooFar", "loop.example/g00619/impl.errTooFast", "errors.errorType"], ifaces := true, plainKeys := false, apart := false, laid := [("errors.errorType", laid_errors_errorType), ("loop.example/g00619/impl.valuesOf", laid_loop_example_g00619_impl_valuesOf), ("loop.example/g00619/impl.errNotRight", laid_loop_example_g00619_impl_errNotRight), ("loop.example/g00619/impl.errTooFar", laid_loop_example_g00619_impl_errTooFar), ("loop.example/g00619/impl.errTooFast", laid_loop_example_g00619_impl_errTooFast), ("loop.example/g00619/impl.speedRange", laid_loop_example_g00619_impl_speedRange), ("loop.example/g00619/impl.heightRange", laid_loop_example_g00619_impl_heightRange)], narrowed := true }
def FnDeafUptoSaid : Prop := fnDeafUptoRow.holds Tryz.pinned (OpenSpec.upto fnDeafSpec)

end Rows
end Go.Proofs.YtdikhdfpcipdbaaGreatDoor
