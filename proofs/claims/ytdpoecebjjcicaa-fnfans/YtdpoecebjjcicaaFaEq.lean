/- Two fans compared, two bounces compared. -/
import Derived.Test.YtdpoecebjjcicaaFa
import Derived.Test.YtdpoecebjjcicaaRdEq
namespace Go.Proofs.Ytdpoecebjjcicaa.fan
open Go.ChangeShapes Go.WideShapes Go.ChangeAt Go.RowKit
open Go.Proofs.Ytdpoecebjjcicaa.nums Go.Proofs.Ytdpoecebjjcicaa.mem
open Go.Proofs.Ytdpoecebjjcicaa.rd (partI partB eqI eqB)
set_option linter.unusedVariables false

def eqO (b c : Int × Bool) : Bool := b.1 == c.1 && b.2 == c.2
def eqF (f g : F) : Bool := eqO (f.1, f.2.1) (g.1, g.2.1) && f.2.2 == g.2.2
theorem eqO_same (b : Int × Bool) : eqO b b = true := by simp [eqO]
theorem eqF_same (f : F) : eqF f f = true := by simp [eqF, eqO]
theorem fieldsO : ∃ fs : List Field, Try.prog.underlying 25 = some (.struct fs.toArray) ∧ fs.map (fun f => (f.name, f.type, f.offset)) = [("N", 2, 0), ("On", 4, 1)] :=
  ⟨_, Try.underlying25, rfl⟩
theorem fieldsF : ∃ fs : List Field, Try.prog.underlying 27 = some (.struct fs.toArray) ∧ fs.map (fun f => (f.name, f.type, f.offset)) = [("Low", 25, 0), ("Out", 4, 2)] :=
  ⟨_, Try.underlying27, rfl⟩
theorem infoO : (Try.prog.info? 25).map (fun i => i.size) = some 2 := by kernel_rfl
theorem partO (w : World) (a b c : Value) : (part 25 #[a, b, c] 0).run Try.prog w = .ok (.agg #[a, b]) w := by
  have hi := infoO
  have hu : Try.prog.underlying 25 = _ := Try.underlying25
  simp [part, go_sem]
theorem equalO (w : World) (d : Nat) (N N' : Int) (on on' : Bool) : (Op.equalIn (d + 2) 25 (.agg #[.int .i64 N, .bool on]) (.agg #[.int .i64 N', .bool on'])).run Try.prog w = .ok (eqO (N, on) (N', on')) w := by
  obtain ⟨fs, hu, hf⟩ := fieldsO
  have hp : Try.prog.stoodInHeld 25 = false := by kernel_rfl
  unfold Op.equalIn
  simp only [Sem.run_bind, run_underlying hu, Result.andThen_ok, run_program, hp, Bool.false_eq_true, if_false]
  rw [← Array.forIn_toList]
  match fs, hf with
  | f0 :: f1 :: fs, hf =>
    simp only [List.map_cons, List.cons.injEq, Prod.mk.injEq, List.map_eq_nil_iff] at hf
    obtain ⟨⟨n0, t0, o0⟩, ⟨n1, t1, o1⟩, rfl⟩ := hf
    simp [n0, n1, t0, t1, o0, o1, partI, partB, eqI, eqB]
    unfold eqO
    by_cases h0 : N = N' <;> by_cases h1 : on = on' <;> simp [h0, h1]
  | [], hf => simp at hf
  | [_], hf => simp at hf
theorem equalF (w : World) (d : Nat) (N N' : Int) (on on' out out' : Bool) : (Op.equalIn (d + 3) 27 (.agg #[.int .i64 N, .bool on, .bool out]) (.agg #[.int .i64 N', .bool on', .bool out'])).run Try.prog w = .ok (eqF (N, on, out) (N', on', out')) w := by
  obtain ⟨fs, hu, hf⟩ := fieldsF
  have hp : Try.prog.stoodInHeld 27 = false := by kernel_rfl
  unfold Op.equalIn
  simp only [Sem.run_bind, run_underlying hu, Result.andThen_ok, run_program, hp, Bool.false_eq_true, if_false]
  rw [← Array.forIn_toList]
  match fs, hf with
  | f0 :: f1 :: fs, hf =>
    simp only [List.map_cons, List.cons.injEq, Prod.mk.injEq, List.map_eq_nil_iff] at hf
    obtain ⟨⟨n0, t0, o0⟩, ⟨n1, t1, o1⟩, rfl⟩ := hf
    simp [n0, n1, t0, t1, o0, o1, partO, partB, equalO, eqB]
    unfold eqF
    by_cases h0 : eqO (N, on) (N', on') = true <;> by_cases h1 : out = out' <;> simp [h0, h1]
  | [], hf => simp at hf
  | [_], hf => simp at hf
theorem eqlO (w : World) (N N' : Int) (on on' : Bool) : (binOp .eql 25 (.agg #[.int .i64 N, .bool on]) (.agg #[.int .i64 N', .bool on'])).run Try.prog w = .ok (.bool (eqO (N, on) (N', on'))) w := by
  simp only [binOp]
  simp [Op.equal, Op.maxDepth, equalO w 9998]
theorem eqlF (w : World) (N N' : Int) (on on' out out' : Bool) : (binOp .eql 27 (.agg #[.int .i64 N, .bool on, .bool out]) (.agg #[.int .i64 N', .bool on', .bool out'])).run Try.prog w = .ok (.bool (eqF (N, on, out) (N', on', out'))) w := by
  simp only [binOp]
  simp [Op.equal, Op.maxDepth, equalF w 9997]
theorem neqF (w : World) (N N' : Int) (on on' out out' : Bool) : (binOp .neq 27 (.agg #[.int .i64 N, .bool on, .bool out]) (.agg #[.int .i64 N', .bool on', .bool out'])).run Try.prog w = .ok (.bool (!eqF (N, on, out) (N', on', out'))) w := by
  simp only [binOp]
  simp [Op.equal, Op.maxDepth, equalF w 9997]
theorem guardO (w : World) (op : BinOp) (x y : Operand) (xs ys : Array Value) : (eqGuard op 25 x y (.agg xs) (.agg ys)).run Try.prog w = .ok () w := by
  have hm : Try.prog.eqGuardType Try.prog.depth 25 = false := by kernel_rfl
  cases op <;> simp [eqGuard, run_program, hm]
theorem guardF (w : World) (op : BinOp) (x y : Operand) (xs ys : Array Value) : (eqGuard op 27 x y (.agg xs) (.agg ys)).run Try.prog w = .ok () w := by
  have hm : Try.prog.eqGuardType Try.prog.depth 27 = false := by kernel_rfl
  cases op <;> simp [eqGuard, run_program, hm]
theorem eqlO_same (w : World) (N : Int) (on : Bool) : (binOp .eql 25 (.agg #[.int .i64 N, .bool on]) (.agg #[.int .i64 N, .bool on])).run Try.prog w = .ok (.bool true) w := by rw [eqlO, eqO_same]
theorem eqlF_same (w : World) (N : Int) (on out : Bool) : (binOp .eql 27 (.agg #[.int .i64 N, .bool on, .bool out]) (.agg #[.int .i64 N, .bool on, .bool out])).run Try.prog w = .ok (.bool true) w := by rw [eqlF, eqF_same]
theorem neqF_same (w : World) (N : Int) (on out : Bool) : (binOp .neq 27 (.agg #[.int .i64 N, .bool on, .bool out]) (.agg #[.int .i64 N, .bool on, .bool out])).run Try.prog w = .ok (.bool false) w := by rw [neqF, eqF_same]; rfl
end Go.Proofs.Ytdpoecebjjcicaa.fan
