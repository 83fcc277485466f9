/- Two demands compared. -/
import Derived.Test.YtgclhjfjoiiclaaShLaid
import Derived.Laws.Small
import Derived.Laws.Entries
namespace Go.Proofs.Ytgclhjfjoiiclaa.sh
open Go.ChangeShapes Go.WideShapes Go.ChangeAt Go.RowKit
open Go.Proofs.Ytgclhjfjoiiclaa.nums Go.Proofs.Ytgclhjfjoiiclaa.mem
set_option linter.unusedVariables false

def eqD (l r p l' r' p' : Int) : Bool := l == l' && (r == r' && p == p')
theorem fieldsD : ∃ fs : List Field, Try.prog.underlying 25 = some (.struct fs.toArray) ∧ fs.map (fun f => (f.name, f.type, f.offset)) = [("Lift", 2, 0), ("Roll", 2, 1), ("Pitch", 2, 2)] :=
  ⟨_, Try.underlying25, rfl⟩
theorem partI (w : World) (xs : Array Value) (k : Nat) (v : Int) (h : xs[k]? = some (.int .i64 v)) : (part 2 xs k).run Try.prog w = .ok (.int .i64 v) w := by
  simp [part, go_sem, h]
theorem eqI (w : World) (d : Nat) (a b : Int) : (Op.equalIn (d + 1) 2 (.int .i64 a) (.int .i64 b)).run Try.prog w = .ok (a == b) w := by
  simp [Op.equalIn, run_underlying Try.underlying2]
theorem equalD (w : World) (d : Nat) (l r p l' r' p' : Int) : (Op.equalIn (d + 2) 25 (dem l r p) (dem l' r' p')).run Try.prog w = .ok (eqD l r p l' r' p') w := by
  obtain ⟨fs, hu, hf⟩ := fieldsD
  have hp : Try.prog.stoodInHeld 25 = false := by kernel_rfl
  unfold Op.equalIn
  simp only [Sem.run_bind, run_underlying hu, Result.andThen_ok, run_program, hp, Bool.false_eq_true, if_false]
  rw [← Array.forIn_toList]
  match fs, hf with
  | f0 :: f1 :: f2 :: fs, hf =>
    simp only [List.map_cons, List.cons.injEq, Prod.mk.injEq, List.map_eq_nil_iff] at hf
    obtain ⟨⟨n0, t0, o0⟩, ⟨n1, t1, o1⟩, ⟨n2, t2, o2⟩, rfl⟩ := hf
    simp [n0, n1, n2, t0, t1, t2, o0, o1, o2, partI, eqI]
    unfold eqD
    by_cases h0 : l = l' <;> by_cases h1 : r = r' <;> by_cases h2 : p = p' <;> simp [h0, h1, h2]
  | [], hf => simp at hf
  | [_], hf => simp at hf
  | [_, _], hf => simp at hf
theorem eqD_same (l r p : Int) : eqD l r p l r p = true := by simp [eqD]
theorem eqlD_same (w : World) (l r p : Int) : (binOp .eql 25 (.agg #[.int .i64 l, .int .i64 r, .int .i64 p]) (.agg #[.int .i64 l, .int .i64 r, .int .i64 p])).run Try.prog w = .ok (.bool true) w := by
  have := equalD w 9998 l r p l r p
  rw [eqD_same] at this
  simp only [binOp]
  simp [Op.equal, Op.maxDepth, this]
theorem neqD_same (w : World) (l r p : Int) : (binOp .neq 25 (.agg #[.int .i64 l, .int .i64 r, .int .i64 p]) (.agg #[.int .i64 l, .int .i64 r, .int .i64 p])).run Try.prog w = .ok (.bool false) w := by
  have := equalD w 9998 l r p l r p
  rw [eqD_same] at this
  simp only [binOp]
  simp [Op.equal, Op.maxDepth, this]
theorem guardD (w : World) (op : BinOp) (x y : Operand) (xs ys : Array Value) : (eqGuard op 25 x y (.agg xs) (.agg ys)).run Try.prog w = .ok () w := by
  have hm : Try.prog.eqGuardType Try.prog.depth 25 = false := by kernel_rfl
  cases op <;> simp [eqGuard, run_program, hm]
end Go.Proofs.Ytgclhjfjoiiclaa.sh
