/- Two gates compared. -/
import Derived.Test.YtkmbfacgigpkmaaGt
import Derived.Test.YtkmbfacgigpkmaaRdEq
namespace Go.Proofs.Ytkmbfacgigpkmaa.gt
open Go.ChangeShapes Go.WideShapes Go.ChangeAt Go.RowKit
open Go.Proofs.Ytkmbfacgigpkmaa.nums Go.Proofs.Ytkmbfacgigpkmaa.mem
open Go.Proofs.Ytkmbfacgigpkmaa.rd (partI partB eqI eqB)
set_option linter.unusedVariables false

def eqG (b c : G) : Bool := b.1 == c.1 && b.2 == c.2
theorem eqG_same (b : G) : eqG b b = true := by simp [eqG]
theorem fieldsG : ∃ fs : List Field, Try.prog.underlying 25 = some (.struct fs.toArray) ∧ fs.map (fun f => (f.name, f.type, f.offset)) = [("Still", 2, 0), ("Fired", 4, 1)] :=
  ⟨_, Try.underlying25, rfl⟩
theorem equalG (w : World) (d : Nat) (N N' : Int) (on on' : Bool) : (Op.equalIn (d + 2) 25 (.agg #[.int .i64 N, .bool on]) (.agg #[.int .i64 N', .bool on'])).run Try.prog w = .ok (eqG (N, on) (N', on')) w := by
  obtain ⟨fs, hu, hf⟩ := fieldsG
  have hp : Try.prog.stoodInHeld 25 = false := by kernel_rfl
  unfold Op.equalIn
  simp only [Sem.run_bind, run_underlying hu, Result.andThen_ok, run_program, hp, Bool.false_eq_true, if_false]
  rw [← Array.forIn_toList]
  match fs, hf with
  | f0 :: f1 :: fs, hf =>
    simp only [List.map_cons, List.cons.injEq, Prod.mk.injEq, List.map_eq_nil_iff] at hf
    obtain ⟨⟨n0, t0, o0⟩, ⟨n1, t1, o1⟩, rfl⟩ := hf
    simp [n0, n1, t0, t1, o0, o1, partI, partB, eqI, eqB]
    unfold eqG
    by_cases h0 : N = N' <;> by_cases h1 : on = on' <;> simp [h0, h1]
  | [], hf => simp at hf
  | [_], hf => simp at hf
theorem eqlG (w : World) (N N' : Int) (on on' : Bool) : (binOp .eql 25 (.agg #[.int .i64 N, .bool on]) (.agg #[.int .i64 N', .bool on'])).run Try.prog w = .ok (.bool (eqG (N, on) (N', on'))) w := by
  simp only [binOp]
  simp [Op.equal, Op.maxDepth, equalG w 9998]
theorem neqG (w : World) (N N' : Int) (on on' : Bool) : (binOp .neq 25 (.agg #[.int .i64 N, .bool on]) (.agg #[.int .i64 N', .bool on'])).run Try.prog w = .ok (.bool (!eqG (N, on) (N', on'))) w := by
  simp only [binOp]
  simp [Op.equal, Op.maxDepth, equalG w 9998]
theorem guardG (w : World) (op : BinOp) (x y : Operand) (xs ys : Array Value) : (eqGuard op 25 x y (.agg xs) (.agg ys)).run Try.prog w = .ok () w := by
  have hm : Try.prog.eqGuardType Try.prog.depth 25 = false := by kernel_rfl
  cases op <;> simp [eqGuard, run_program, hm]
theorem eqlG_same (w : World) (N : Int) (on : Bool) : (binOp .eql 25 (.agg #[.int .i64 N, .bool on]) (.agg #[.int .i64 N, .bool on])).run Try.prog w = .ok (.bool true) w := by rw [eqlG, eqG_same]
theorem neqG_same (w : World) (N : Int) (on : Bool) : (binOp .neq 25 (.agg #[.int .i64 N, .bool on]) (.agg #[.int .i64 N, .bool on])).run Try.prog w = .ok (.bool false) w := by rw [neqG, eqG_same]; rfl
end Go.Proofs.Ytkmbfacgigpkmaa.gt
