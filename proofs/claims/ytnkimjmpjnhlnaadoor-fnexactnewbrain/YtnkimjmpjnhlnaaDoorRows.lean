/-
  NARROWER THAN 'FOR EVERY INPUT', by the rows' own cells (each row's printed sentence says how): FnExactBrainOk: ifaces, laid · FnExactNewBrain: laid.
  DERIVED. THE GIVEN ROWS OF THIS SEAT. 2 by the template 'for every input the law returns true; each argument reads behind the call as it read before'; 0 by the template 'total and deterministic' (their statements: YtnkimjmpjnhlnaaDoorTotals.lean).
  GIVEN WITH THE SEED: the statements are not yours to turn. If you find one false, say at which input.
  Laid BY PROGRAM, IN A SANDBOX (cutbox-rows.mjs): the forced cells as the released guide's own fill.sh prints them over the translation e1e35caf872be5f8… (all of the seat's roots in one cut). By AI agents, Wed Nov 11 2026. No macro, syntax, notation, axiom, sorry.
-/
import Derived.Test.YtnkimjmpjnhlnaaDoorChecked
import GoSem.Claim
import GoSem.ClaimJoined
import GoSem.ClaimMapViews
import Derived.JoinedTies
import Derived.KernelRfl
namespace Go.Proofs.YtnkimjmpjnhlnaaDoor
/- THE CELL 'sum', in the pinned program and in every row, IS THE sha256 OF THE DUMP (.gsa) THAT YtnkimjmpjnhlnaaDoorProg.lean LOADS. Nothing in Lean hashes anything: it is a label: what it is worth is what the hold of that sum in a sandbox is worth. -/
noncomputable def Tryd.pinned : Pinned := { name := "ytnkimjmpjnhlnaadoor", sum := "e1e35caf872be5f8f63f6a00165c1e831334bc84e7dcec7846ac1aa2a8b26bc2", checked := Tryd.checked }
namespace Rows
def none {H : Type} : Left H := { results := [], args := [] }

/- WHAT THE LISTED PACKAGE-LEVEL VARIABLES READ AS WHEN THE CALL BEGINS. Each datum BY PROGRAM (the guide's laid-datum.mjs) off the statement by which the dump's own 'gosem.cut.vars' lays the variable. In a bare row this is a premise. The card (YtnkimjmpjnhlnaaDoorCards.lean) ties it to the program's text. -/
def laid_loop_example_g00619_impl_valuesOf {H : Type} : DataW H := .agg [.lit (.int .i64 0), .lit (.int .i64 3), .lit (.int .i64 2), .lit (.int .i64 6), .lit (.int .i64 2)]
def laid_loop_example_g00619_impl_errCannotBe {H : Type} : DataW H := .iface "*errors.errorString" (.ptr (.agg [.lit (.string [97, 32, 98, 114, 97, 105, 110, 32, 116, 104, 97, 116, 32, 99, 97, 110, 39, 116, 32, 98, 101])]))

/-- 'laws.FnExactBrainOk': WHATEVER THE INPUT: true; the input reads as it did. -/
def fnExactBrainOkSpec : ChangeSpec := { name := "fnExactBrainOk", vars := ["loop.example/g00619/impl.errCannotBe", "loop.example/g00619/impl.valuesOf"], fn := fun _ => fun
  | [d, g1, g2] => { results := [.lit (.bool true)], args := [d], vars := [g1, g2] }
  | _ => none }
def fnExactBrainOkRow : OpenClaim := { program := "ytnkimjmpjnhlnaadoor", sum := "e1e35caf872be5f8f63f6a00165c1e831334bc84e7dcec7846ac1aa2a8b26bc2", func := "loop.example/g00619/laws.FnExactBrainOk", spec := "fnExactBrainOk", unfollowed := true, recurses := true, named := ["loop.example/g00619/impl.errCannotBe", "loop.example/g00619/impl.valuesOf"], ifaces := true, apart := false, laid := [("loop.example/g00619/impl.valuesOf", laid_loop_example_g00619_impl_valuesOf), ("loop.example/g00619/impl.errCannotBe", laid_loop_example_g00619_impl_errCannotBe)] }
def FnExactBrainOkSaid : Prop := fnExactBrainOkRow.holds Tryd.pinned (OpenSpec.ofChange fnExactBrainOkSpec)

/-- ITS FALSE NEIGHBOUR: 'it returns false'. Refute it at one input. -/
def fnExactBrainOkWrong : ChangeSpec := { name := "fnExactBrainOk", vars := ["loop.example/g00619/impl.errCannotBe", "loop.example/g00619/impl.valuesOf"], fn := fun _ => fun
  | [d, g1, g2] => { results := [.lit (.bool false)], args := [d], vars := [g1, g2] }
  | _ => none }
def FnExactBrainOkWrongFalsely : Prop := fnExactBrainOkRow.holds Tryd.pinned (OpenSpec.ofChange fnExactBrainOkWrong)

/-- 'laws.FnExactNewBrain': WHATEVER THE INPUT: true; the input reads as it did. -/
def fnExactNewBrainSpec : ChangeSpec := { name := "fnExactNewBrain", vars := ["loop.example/g00619/impl.valuesOf"], fn := fun _ => fun
  | [g1] => { results := [.lit (.bool true)], args := [], vars := [g1] }
  | _ => none }
def fnExactNewBrainRow : OpenClaim := { program := "ytnkimjmpjnhlnaadoor", sum := "e1e35caf872be5f8f63f6a00165c1e831334bc84e7dcec7846ac1aa2a8b26bc2", func := "loop.example/g00619/laws.FnExactNewBrain", spec := "fnExactNewBrain", named := ["loop.example/g00619/impl.valuesOf"], apart := false, laid := [("loop.example/g00619/impl.valuesOf", laid_loop_example_g00619_impl_valuesOf)] }
def FnExactNewBrainSaid : Prop := fnExactNewBrainRow.holds Tryd.pinned (OpenSpec.ofChange fnExactNewBrainSpec)

/-- ITS FALSE NEIGHBOUR: 'it returns false'. Refute it at one input. -/
def fnExactNewBrainWrong : ChangeSpec := { name := "fnExactNewBrain", vars := ["loop.example/g00619/impl.valuesOf"], fn := fun _ => fun
  | [g1] => { results := [.lit (.bool false)], args := [], vars := [g1] }
  | _ => none }
def FnExactNewBrainWrongFalsely : Prop := fnExactNewBrainRow.holds Tryd.pinned (OpenSpec.ofChange fnExactNewBrainWrong)

/- THE SECOND FORM. 'bulk': how many values and letters a reading holds, each counted each time it is reached (what is shared counts as often as it is met; a slice's spare places count too). A statement '..UptoSaid' is the law's where the arguments, and the package variables that the reading takes, are together of bulk at most 1048576: NARROWER than '..Said'. Prove '..Said' where nothing that the law and all that it calls make is longer than what came in: it says more and counts as full. Else prove '..UptoSaid'. A law counts once. -/
mutual
def uptoBulk {H : Type} : DataW H → Nat
  | .lit (.string bytes) => bytes.length + 1
  | .lit _ => 1
  | .nil => 1
  | .ptr d => uptoBulk d + 1
  | .slice elems spare => uptoBulkAll elems + uptoBulkAll spare + 1
  | .agg parts => uptoBulkAll parts + 1
  | .iface _ d => uptoBulk d + 1
  | .map entries => uptoBulkEntries entries + 1
  | .held _ => 1
def uptoBulkAll {H : Type} : List (DataW H) → Nat
  | [] => 0
  | d :: r => uptoBulk d + uptoBulkAll r
def uptoBulkEntries {H : Type} : List (Lit × DataW H) → Nat
  | [] => 0
  | x :: r => uptoBulkEntry x + uptoBulkEntries r
def uptoBulkEntry {H : Type} : Lit × DataW H → Nat
  | (.string bytes, d) => bytes.length + uptoBulk d + 1
  | (_, d) => uptoBulk d + 1
 end
def uptoSmall : (H : Type) → List (DataW H) → Bool := fun _ ds => decide (uptoBulkAll ds ≤ 1048576)
def OpenSpec.upto (s : _root_.Go.ChangeSpec) : _root_.Go.OpenSpec := { _root_.Go.OpenSpec.ofChange s with cond := some uptoSmall }

/-- 'laws.FnExactBrainOk', WHERE WHAT IT READS IS OF BULK AT MOST 1048576: true; the input reads as it did. -/
def fnExactBrainOkUptoRow : OpenClaim := { program := "ytnkimjmpjnhlnaadoor", sum := "e1e35caf872be5f8f63f6a00165c1e831334bc84e7dcec7846ac1aa2a8b26bc2", func := "loop.example/g00619/laws.FnExactBrainOk", spec := "fnExactBrainOk", unfollowed := true, recurses := true, named := ["loop.example/g00619/impl.errCannotBe", "loop.example/g00619/impl.valuesOf"], ifaces := true, apart := false, laid := [("loop.example/g00619/impl.valuesOf", laid_loop_example_g00619_impl_valuesOf), ("loop.example/g00619/impl.errCannotBe", laid_loop_example_g00619_impl_errCannotBe)], narrowed := true }
def FnExactBrainOkUptoSaid : Prop := fnExactBrainOkUptoRow.holds Tryd.pinned (OpenSpec.upto fnExactBrainOkSpec)

/-- 'laws.FnExactNewBrain', WHERE WHAT IT READS IS OF BULK AT MOST 1048576: true; the input reads as it did. -/
def fnExactNewBrainUptoRow : OpenClaim := { program := "ytnkimjmpjnhlnaadoor", sum := "e1e35caf872be5f8f63f6a00165c1e831334bc84e7dcec7846ac1aa2a8b26bc2", func := "loop.example/g00619/laws.FnExactNewBrain", spec := "fnExactNewBrain", named := ["loop.example/g00619/impl.valuesOf"], apart := false, laid := [("loop.example/g00619/impl.valuesOf", laid_loop_example_g00619_impl_valuesOf)], narrowed := true }
def FnExactNewBrainUptoSaid : Prop := fnExactNewBrainUptoRow.holds Tryd.pinned (OpenSpec.upto fnExactNewBrainSpec)

end Rows
end Go.Proofs.YtnkimjmpjnhlnaaDoor
