/- Two readings compared. -/
import Derived.Test.YtdikhdfpcipdbaaGreatDoorTabArg
import Derived.Laws.Small
import Derived.Laws.Entries
namespace Go.Proofs.YtdikhdfpcipdbaaGreatDoor.rd
open Go.ChangeShapes Go.WideShapes Go.ChangeAt Go.RowKit
open Go.Proofs.YtdikhdfpcipdbaaGreatDoor.nums Go.Proofs.YtdikhdfpcipdbaaGreatDoor.mem
set_option linter.unusedVariables false

/-- A reading: its value, its age, whether it was. -/
abbrev R := Int × Int × Bool
def eqR (r s : R) : Bool := r.1 == s.1 && (r.2.1 == s.2.1 && r.2.2 == s.2.2)

theorem fieldsR : ∃ fs : List Field, Tryz.prog.underlying 42 = some (.struct fs.toArray) ∧ fs.map (fun f => (f.name, f.type, f.offset)) = [("Value", 2, 0), ("Age", 2, 1), ("Was", 4, 2)] :=
  ⟨_, Tryz.underlying42, rfl⟩
theorem partI (w : World) (xs : Array Value) (k : Nat) (v : Int) (h : xs[k]? = some (.int .i64 v)) : (part 2 xs k).run Tryz.prog w = .ok (.int .i64 v) w := by
  simp [part, go_sem, h]
theorem partB (w : World) (xs : Array Value) (k : Nat) (v : Bool) (h : xs[k]? = some (.bool v)) : (part 4 xs k).run Tryz.prog w = .ok (.bool v) w := by
  simp [part, go_sem, h]
theorem eqI (w : World) (d : Nat) (a b : Int) : (Op.equalIn (d + 1) 2 (.int .i64 a) (.int .i64 b)).run Tryz.prog w = .ok (a == b) w := by
  simp [Op.equalIn, run_underlying Tryz.underlying2]
theorem eqB (w : World) (d : Nat) (a b : Bool) : (Op.equalIn (d + 1) 4 (.bool a) (.bool b)).run Tryz.prog w = .ok (a == b) w := run_equalIn_bool w d _ a b Tryz.underlying4
theorem equalR (w : World) (d : Nat) (v a v' a' : Int) (o o' : Bool) : (Op.equalIn (d + 2) 42 (.agg #[.int .i64 v, .int .i64 a, .bool o]) (.agg #[.int .i64 v', .int .i64 a', .bool o'])).run Tryz.prog w = .ok (eqR (v, a, o) (v', a', o')) w := by
  obtain ⟨fs, hu, hf⟩ := fieldsR
  have hp : Tryz.prog.stoodInHeld 42 = false := by kernel_rfl
  unfold Op.equalIn
  simp only [Sem.run_bind, run_underlying hu, Result.andThen_ok, run_program, hp, Bool.false_eq_true, if_false]
  rw [← Array.forIn_toList]
  match fs, hf with
  | f0 :: f1 :: f2 :: fs, hf =>
    simp only [List.map_cons, List.cons.injEq, Prod.mk.injEq, List.map_eq_nil_iff] at hf
    obtain ⟨⟨n0, t0, o0⟩, ⟨n1, t1, o1⟩, ⟨n2, t2, o2⟩, rfl⟩ := hf
    simp [n0, n1, n2, t0, t1, t2, o0, o1, o2, partI, partB, eqI, eqB]
    unfold eqR
    by_cases h0 : v = v' <;> by_cases h1 : a = a' <;> by_cases h2 : o = o' <;> simp [h0, h1, h2]
  | [], hf => simp at hf
  | [_], hf => simp at hf
  | [_, _], hf => simp at hf
theorem eqlR (w : World) (v a v' a' : Int) (o o' : Bool) : (binOp .eql 42 (.agg #[.int .i64 v, .int .i64 a, .bool o]) (.agg #[.int .i64 v', .int .i64 a', .bool o'])).run Tryz.prog w = .ok (.bool (eqR (v, a, o) (v', a', o'))) w := by
  simp only [binOp]
  simp [Op.equal, Op.maxDepth, equalR w 9998]
theorem neqR (w : World) (v a v' a' : Int) (o o' : Bool) : (binOp .neq 42 (.agg #[.int .i64 v, .int .i64 a, .bool o]) (.agg #[.int .i64 v', .int .i64 a', .bool o'])).run Tryz.prog w = .ok (.bool (!eqR (v, a, o) (v', a', o'))) w := by
  simp only [binOp]
  simp [Op.equal, Op.maxDepth, equalR w 9998]
theorem guardR (w : World) (op : BinOp) (x y : Operand) (xs ys : Array Value) : (eqGuard op 42 x y (.agg xs) (.agg ys)).run Tryz.prog w = .ok () w := by
  have hm : Tryz.prog.eqGuardType Tryz.prog.depth 42 = false := by kernel_rfl
  cases op <;> simp [eqGuard, run_program, hm]
end Go.Proofs.YtdikhdfpcipdbaaGreatDoor.rd
