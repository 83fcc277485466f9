/-
  NARROWER THAN 'FOR EVERY INPUT', by the rows' own cells (each row's printed sentence says how): FnSane: ifaces, laid · FnExactIsSane: ifaces, laid · FnExactTaken: ifaces, laid.
  DERIVED. THE GIVEN ROWS OF THIS SEAT. 3 by the template 'for every input the law returns true; each argument reads behind the call as it read before'; 0 by the template 'total and deterministic' (their statements: YtdjaikjakdidcaaDoorTotals.lean).
  GIVEN WITH THE SEED: the statements are not yours to turn. If you find one false, say at which input.
  Laid BY PROGRAM, IN A SANDBOX (cutbox-rows.mjs): the forced cells as the released guide's own fill.sh prints them over the translation 0331182dc5f92d13… (all of the seat's roots in one cut). By AI agents, Wed Nov 11 2026. No macro, syntax, notation, axiom, sorry.
-/
import Derived.Test.YtdjaikjakdidcaaDoorChecked
import GoSem.Claim
import GoSem.ClaimJoined
import GoSem.ClaimMapViews
import Derived.JoinedTies
import Derived.KernelRfl
namespace Go.Proofs.YtdjaikjakdidcaaDoor
/- THE CELL 'sum', in the pinned program and in every row, IS THE sha256 OF THE DUMP (.gsa) THAT YtdjaikjakdidcaaDoorProg.lean LOADS. Nothing in Lean hashes anything: it is a label: what it is worth is what the hold of that sum in a sandbox is worth. -/
noncomputable def Tryd.pinned : Pinned := { name := "ytdjaikjakdidcaadoor", sum := "0331182dc5f92d137e2efefab00c85aab8dc63d53f6cdf8ea1819d290b337178", checked := Tryd.checked }
namespace Rows
def none {H : Type} : Left H := { results := [], args := [] }

/- WHAT THE LISTED PACKAGE-LEVEL VARIABLES READ AS WHEN THE CALL BEGINS. Each datum BY PROGRAM (the guide's laid-datum.mjs) off the statement by which the dump's own 'gosem.cut.vars' lays the variable. In a bare row this is a premise. The card (YtdjaikjakdidcaaDoorCards.lean) ties it to the program's text. -/
def laid_errors_errorType {H : Type} : DataW H := .iface "internal/reflectlite.rtype" (.agg [.ptr (.lit (.string [101, 114, 114, 111, 114]))])
def laid_loop_example_g00619_impl_errNotRight {H : Type} : DataW H := .iface "*errors.errorString" (.ptr (.agg [.lit (.string [116, 104, 101, 32, 114, 97, 110, 103, 101, 32, 111, 114, 32, 116, 104, 101, 32, 111, 108, 100, 32, 114, 101, 97, 100, 105, 110, 103, 32, 105, 115, 32, 110, 111, 116, 32, 114, 105, 103, 104, 116])]))
def laid_loop_example_g00619_impl_errTooFar {H : Type} : DataW H := .iface "*errors.errorString" (.ptr (.agg [.lit (.string [116, 111, 111, 32, 102, 97, 114, 58, 32, 110, 111, 116, 32, 102, 114, 111, 109, 32, 108, 111, 119, 32, 116, 111, 32, 104, 105, 103, 104])]))
def laid_loop_example_g00619_impl_errTooFast {H : Type} : DataW H := .iface "*errors.errorString" (.ptr (.agg [.lit (.string [116, 111, 111, 32, 102, 97, 115, 116, 58, 32, 116, 111, 111, 32, 102, 97, 114, 32, 102, 114, 111, 109, 32, 116, 104, 101, 32, 111, 108, 100, 32, 114, 101, 97, 100, 105, 110, 103])]))

/-- 'laws.FnSane': WHATEVER THE INPUT: true; the input reads as it did. -/
def fnSaneSpec : ChangeSpec := { name := "fnSane", vars := ["loop.example/g00619/impl.errNotRight", "loop.example/g00619/impl.errTooFar", "loop.example/g00619/impl.errTooFast"], fn := fun _ => fun
  | [d, g1, g2, g3] => { results := [.lit (.bool true)], args := [d], vars := [g1, g2, g3] }
  | _ => none }
def fnSaneRow : OpenClaim := { program := "ytdjaikjakdidcaadoor", sum := "0331182dc5f92d137e2efefab00c85aab8dc63d53f6cdf8ea1819d290b337178", func := "loop.example/g00619/laws.FnSane", spec := "fnSane", inPlace := ["internal/reflectlite.TypeOf", "internal/reflectlite.ValueOf", "(internal/reflectlite.Value).Type", "(internal/reflectlite.Value).IsNil", "(internal/reflectlite.Value).Elem", "(internal/reflectlite.Value).Set"], unfollowed := true, recurses := true, named := ["loop.example/g00619/impl.errNotRight", "loop.example/g00619/impl.errTooFar", "loop.example/g00619/impl.errTooFast", "errors.errorType"], ifaces := true, apart := false, laid := [("errors.errorType", laid_errors_errorType), ("loop.example/g00619/impl.errNotRight", laid_loop_example_g00619_impl_errNotRight), ("loop.example/g00619/impl.errTooFar", laid_loop_example_g00619_impl_errTooFar), ("loop.example/g00619/impl.errTooFast", laid_loop_example_g00619_impl_errTooFast)] }
def FnSaneSaid : Prop := fnSaneRow.holds Tryd.pinned (OpenSpec.ofChange fnSaneSpec)

/-- ITS FALSE NEIGHBOUR: 'it returns false'. Refute it at one input. -/
def fnSaneWrong : ChangeSpec := { name := "fnSane", vars := ["loop.example/g00619/impl.errNotRight", "loop.example/g00619/impl.errTooFar", "loop.example/g00619/impl.errTooFast"], fn := fun _ => fun
  | [d, g1, g2, g3] => { results := [.lit (.bool false)], args := [d], vars := [g1, g2, g3] }
  | _ => none }
def FnSaneWrongFalsely : Prop := fnSaneRow.holds Tryd.pinned (OpenSpec.ofChange fnSaneWrong)

/-- 'laws.FnExactIsSane': WHATEVER THE INPUT: true; the input reads as it did. -/
def fnExactIsSaneSpec : ChangeSpec := { name := "fnExactIsSane", vars := ["loop.example/g00619/impl.errNotRight", "loop.example/g00619/impl.errTooFar", "loop.example/g00619/impl.errTooFast"], fn := fun _ => fun
  | [d1, d2, d3, g1, g2, g3] => { results := [.lit (.bool true)], args := [d1, d2, d3], vars := [g1, g2, g3] }
  | _ => none }
def fnExactIsSaneRow : OpenClaim := { program := "ytdjaikjakdidcaadoor", sum := "0331182dc5f92d137e2efefab00c85aab8dc63d53f6cdf8ea1819d290b337178", func := "loop.example/g00619/laws.FnExactIsSane", spec := "fnExactIsSane", named := ["loop.example/g00619/impl.errNotRight", "loop.example/g00619/impl.errTooFar", "loop.example/g00619/impl.errTooFast"], ifaces := true, apart := false, laid := [("loop.example/g00619/impl.errNotRight", laid_loop_example_g00619_impl_errNotRight), ("loop.example/g00619/impl.errTooFar", laid_loop_example_g00619_impl_errTooFar), ("loop.example/g00619/impl.errTooFast", laid_loop_example_g00619_impl_errTooFast)] }
def FnExactIsSaneSaid : Prop := fnExactIsSaneRow.holds Tryd.pinned (OpenSpec.ofChange fnExactIsSaneSpec)

/-- ITS FALSE NEIGHBOUR: 'it returns false'. Refute it at one input. -/
def fnExactIsSaneWrong : ChangeSpec := { name := "fnExactIsSane", vars := ["loop.example/g00619/impl.errNotRight", "loop.example/g00619/impl.errTooFar", "loop.example/g00619/impl.errTooFast"], fn := fun _ => fun
  | [d1, d2, d3, g1, g2, g3] => { results := [.lit (.bool false)], args := [d1, d2, d3], vars := [g1, g2, g3] }
  | _ => none }
def FnExactIsSaneWrongFalsely : Prop := fnExactIsSaneRow.holds Tryd.pinned (OpenSpec.ofChange fnExactIsSaneWrong)

/-- 'laws.FnExactTaken': WHATEVER THE INPUT: true; the input reads as it did. -/
def fnExactTakenSpec : ChangeSpec := { name := "fnExactTaken", vars := ["loop.example/g00619/impl.errNotRight", "loop.example/g00619/impl.errTooFar", "loop.example/g00619/impl.errTooFast"], fn := fun _ => fun
  | [d1, d2, d3, g1, g2, g3] => { results := [.lit (.bool true)], args := [d1, d2, d3], vars := [g1, g2, g3] }
  | _ => none }
def fnExactTakenRow : OpenClaim := { program := "ytdjaikjakdidcaadoor", sum := "0331182dc5f92d137e2efefab00c85aab8dc63d53f6cdf8ea1819d290b337178", func := "loop.example/g00619/laws.FnExactTaken", spec := "fnExactTaken", inPlace := ["internal/reflectlite.TypeOf", "internal/reflectlite.ValueOf", "(internal/reflectlite.Value).Type", "(internal/reflectlite.Value).IsNil", "(internal/reflectlite.Value).Elem", "(internal/reflectlite.Value).Set"], unfollowed := true, recurses := true, named := ["loop.example/g00619/impl.errNotRight", "loop.example/g00619/impl.errTooFar", "loop.example/g00619/impl.errTooFast", "errors.errorType"], ifaces := true, apart := false, laid := [("errors.errorType", laid_errors_errorType), ("loop.example/g00619/impl.errNotRight", laid_loop_example_g00619_impl_errNotRight), ("loop.example/g00619/impl.errTooFar", laid_loop_example_g00619_impl_errTooFar), ("loop.example/g00619/impl.errTooFast", laid_loop_example_g00619_impl_errTooFast)] }
def FnExactTakenSaid : Prop := fnExactTakenRow.holds Tryd.pinned (OpenSpec.ofChange fnExactTakenSpec)

/-- ITS FALSE NEIGHBOUR: 'it returns false'. Refute it at one input. -/
def fnExactTakenWrong : ChangeSpec := { name := "fnExactTaken", vars := ["loop.example/g00619/impl.errNotRight", "loop.example/g00619/impl.errTooFar", "loop.example/g00619/impl.errTooFast"], fn := fun _ => fun
  | [d1, d2, d3, g1, g2, g3] => { results := [.lit (.bool false)], args := [d1, d2, d3], vars := [g1, g2, g3] }
  | _ => none }
def FnExactTakenWrongFalsely : Prop := fnExactTakenRow.holds Tryd.pinned (OpenSpec.ofChange fnExactTakenWrong)

/- THE SECOND FORM. 'bulk': how many values and letters a reading holds, each counted each time it is reached (what is shared counts as often as it is met; a slice's spare places count too). A statement '..UptoSaid' is the law's where the arguments, and the package variables that the reading takes, are together of bulk at most 1048576: NARROWER than '..Said'. Prove '..Said' where nothing that the law and all that it calls make is longer than what came in: it says more and counts as full. Else prove '..UptoSaid'. A law counts once. -/
mutual
def uptoBulk {H : Type} : DataW H → Nat
  | .lit (.string bytes) => bytes.length + 1
  | .lit _ => 1
  | .nil => 1
  | .ptr d => uptoBulk d + 1
  | .slice elems spare => uptoBulkAll elems + uptoBulkAll spare + 1
  | .agg parts => uptoBulkAll parts + 1
  | .iface _ d => uptoBulk d + 1
  | .map entries => uptoBulkEntries entries + 1
  | .held _ => 1
def uptoBulkAll {H : Type} : List (DataW H) → Nat
  | [] => 0
  | d :: r => uptoBulk d + uptoBulkAll r
def uptoBulkEntries {H : Type} : List (Lit × DataW H) → Nat
  | [] => 0
  | x :: r => uptoBulkEntry x + uptoBulkEntries r
def uptoBulkEntry {H : Type} : Lit × DataW H → Nat
  | (.string bytes, d) => bytes.length + uptoBulk d + 1
  | (_, d) => uptoBulk d + 1
 end
def uptoSmall : (H : Type) → List (DataW H) → Bool := fun _ ds => decide (uptoBulkAll ds ≤ 1048576)
def OpenSpec.upto (s : _root_.Go.ChangeSpec) : _root_.Go.OpenSpec := { _root_.Go.OpenSpec.ofChange s with cond := some uptoSmall }

/-- 'laws.FnSane', WHERE WHAT IT READS IS OF BULK AT MOST 1048576: true; the input reads as it did. -/
def fnSaneUptoRow : OpenClaim := { program := "ytdjaikjakdidcaadoor", sum := "0331182dc5f92d137e2efefab00c85aab8dc63d53f6cdf8ea1819d290b337178", func := "loop.example/g00619/laws.FnSane", spec := "fnSane", inPlace := ["internal/reflectlite.TypeOf", "internal/reflectlite.ValueOf", "(internal/reflectlite.Value).Type", "(internal/reflectlite.Value).IsNil", "(internal/reflectlite.Value).Elem", "(internal/reflectlite.Value).Set"], unfollowed := true, recurses := true, named := ["loop.example/g00619/impl.errNotRight", "loop.example/g00619/impl.errTooFar", "loop.example/g00619/impl.errTooFast", "errors.errorType"], ifaces := true, apart := false, laid := [("errors.errorType", laid_errors_errorType), ("loop.example/g00619/impl.errNotRight", laid_loop_example_g00619_impl_errNotRight), ("loop.example/g00619/impl.errTooFar", laid_loop_example_g00619_impl_errTooFar), ("loop.example/g00619/impl.errTooFast", laid_loop_example_g00619_impl_errTooFast)], narrowed := true }
def FnSaneUptoSaid : Prop := fnSaneUptoRow.holds Tryd.pinned (OpenSpec.upto fnSaneSpec)

/-- 'laws.FnExactIsSane', WHERE WHAT IT READS IS OF BULK AT MOST 1048576: true; the input reads as it did. -/
def fnExactIsSaneUptoRow : OpenClaim := { program := "ytdjaikjakdidcaadoor", sum := "0331182dc5f92d137e2efefab00c85aab8dc63d53f6cdf8ea1819d290b337178", func := "loop.example/g00619/laws.FnExactIsSane", spec := "fnExactIsSane", named := ["loop.example/g00619/impl.errNotRight", "loop.example/g00619/impl.errTooFar", "loop.example/g00619/impl.errTooFast"], ifaces := true, apart := false, laid := [("loop.example/g00619/impl.errNotRight", laid_loop_example_g00619_impl_errNotRight), ("loop.example/g00619/impl.errTooFar", laid_loop_example_g00619_impl_errTooFar), ("loop.example/g00619/impl.errTooFast", laid_loop_example_g00619_impl_errTooFast)], narrowed := true }
def FnExactIsSaneUptoSaid : Prop := fnExactIsSaneUptoRow.holds Tryd.pinned (OpenSpec.upto fnExactIsSaneSpec)

/-- 'laws.FnExactTaken', WHERE WHAT IT READS IS OF BULK AT MOST 1048576: true; the input reads as it did. -/
def fnExactTakenUptoRow : OpenClaim := { program := "ytdjaikjakdidcaadoor", sum := "0331182dc5f92d137e2efefab00c85aab8dc63d53f6cdf8ea1819d290b337178", func := "loop.example/g00619/laws.FnExactTaken", spec := "fnExactTaken", inPlace := ["internal/reflectlite.TypeOf", "internal/reflectlite.ValueOf", "(internal/reflectlite.Value).Type", "(internal/reflectlite.Value).IsNil", "(internal/reflectlite.Value).Elem", "(internal/reflectlite.Value).Set"], unfollowed := true, recurses := true, named := ["loop.example/g00619/impl.errNotRight", "loop.example/g00619/impl.errTooFar", "loop.example/g00619/impl.errTooFast", "errors.errorType"], ifaces := true, apart := false, laid := [("errors.errorType", laid_errors_errorType), ("loop.example/g00619/impl.errNotRight", laid_loop_example_g00619_impl_errNotRight), ("loop.example/g00619/impl.errTooFar", laid_loop_example_g00619_impl_errTooFar), ("loop.example/g00619/impl.errTooFast", laid_loop_example_g00619_impl_errTooFast)], narrowed := true }
def FnExactTakenUptoSaid : Prop := fnExactTakenUptoRow.holds Tryd.pinned (OpenSpec.upto fnExactTakenSpec)

end Rows
end Go.Proofs.YtdjaikjakdidcaaDoor
