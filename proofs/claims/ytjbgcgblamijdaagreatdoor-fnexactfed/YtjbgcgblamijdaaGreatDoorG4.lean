/- A list of points that came in: read, copied into new memory, compared; its bulk. Two readings compared. -/
import Derived.Test.YtjbgcgblamijdaaGreatDoorG3
import Derived.OwnWalk
import Derived.Deep.SlicePairs
import Derived.Laws.MakeOwn
import Derived.Laws.Small
import Derived.Laws.Entries
/- A list of points that came in: read, copied into new memory, compared; its bulk. -/
namespace Go.Proofs.YtjbgcgblamijdaaGreatDoor.tab
open Go.ChangeShapes Go.WideShapes Go.ChangeAt Go.RowKit
open Go.Proofs.YtjbgcgblamijdaaGreatDoor.nums Go.Proofs.YtjbgcgblamijdaaGreatDoor.mem
set_option linter.unusedVariables false

/-- The slice that came in holds these points, each of its two numbers in a cell, in a block of the world. -/
def Arg (w : World) (a : Option Addr) (ps : Pts) : Prop :=
  ∀ k, k < ps.length → ∃ x : Addr, a = some x ∧ x.block < w.heap.size ∧ w.cell? (x.add (k * 2)) = some (.int .i64 (px ps k)) ∧ w.cell? ⟨(x.add (k * 2)).block, (x.add (k * 2)).off + 1, none⟩ = some (.int .i64 (py ps k))
theorem add_off (x : Addr) (m j : Nat) : x.add (m + (j + 1)) = ⟨(x.add m).block, (x.add m).off + (j + 1), none⟩ := by
  unfold Addr.add
  by_cases hm : m = 0 <;> simp [hm, Nat.add_assoc]
theorem block_add (a : Addr) (n : Nat) : (a.add n).block = a.block := by unfold Addr.add; split <;> rfl
theorem Arg.kept {w w' : World} {a : Option Addr} {ps : Pts} (h : Arg w a ps) (hg : w.grownBy w' none) : Arg w' a ps := by
  intro k hk
  obtain ⟨x, e, hb, h1, h2⟩ := h k hk
  refine ⟨x, e, Nat.lt_of_lt_of_le hb hg.size, ?_, ?_⟩
  · rw [← h1]; exact World.cell?_of_block (hg.block _ (by rw [block_add]; omega) (by simp))
  · rw [← h2]; exact World.cell?_of_block (hg.block _ (by show (x.add (k * 2)).block < _; rw [block_add]; omega) (by simp))

theorem wpList_make_has {P : Program} (w : World) {ops : Array Oper} {rest : List Oper} {o : Oper} {a : Act} {Q : Exit → Act → World → Prop}
    (hg : o.guard = none) (l c : Operand) (t : TypeId) (hop : o.op = Op.makeSlice t l c)
    (e : TypeId) (i : TypeInfo) (z : Value) (size : Nat) (h1 : P.underlying t = some (.slice e)) (h2 : P.info? e = some i) (h3 : i.zero = some z) (h4 : i.size = size)
    (kl kc : IntKind) (L C : Int) (n : Nat) (hl : a.eval l = .int kl L) (hc : a.eval c = .int kc C) (hL : L = (n : Int)) (hC : C = (n : Int)) (b2 : i.bytes * n ≤ 281474976710656) (b3 : n ≤ maxLen)
    (hK : wpList P ops Q rest (a.put o.dst (.slice (some ⟨w.heap.size, 0, none⟩) n n)) (w.alloc (.cells (madeCells z.cells (n * size)) e))) :
    wpList P ops Q (o :: rest) a w := by
  refine wpList_plain hg fun K hK' => ?_
  subst hL
  subst hC
  subst h4
  have b2' : (i.bytes : Int) * (n : Int) ≤ 281474976710656 := by
    have h : ((i.bytes * n : Nat) : Int) ≤ 281474976710656 := by omega
    rwa [Int.natCast_mul] at h
  unfold maxLen at b3
  have hr := run_make (P := P) w t e i z h1 h2 h3 kl kc n n (by omega) (Int.le_refl _) b2' (by omega)
  simp only [Int.toNat_natCast] at hr
  unfold Oper.wp
  simp [execOp, hop, hl, hc, hr, Result.andThen]
  exact hK' _ _ hK

theorem infoPoint : (Tryz.prog.info? 273).map (fun i => (i.zero, i.size, i.bytes)) = some (some (.agg #[.int .i64 0, .int .i64 0]), 2, 16) := by kernel_rfl

/-- A copy: a new block that holds the points; of what was there nothing is another. -/
def Copied (ps : Pts) (w : World) (e : Ending) (w' : World) : Prop := ∃ g, e = .returned (.slice (some ⟨g, 0, none⟩) ps.length ps.length) ∧ w.heap.size ≤ g ∧ w.grownBy w' none ∧ Tab w' g ps

end Go.Proofs.YtjbgcgblamijdaaGreatDoor.tab

/- Two readings compared. -/
namespace Go.Proofs.YtjbgcgblamijdaaGreatDoor.rd
open Go.ChangeShapes Go.WideShapes Go.ChangeAt Go.RowKit
open Go.Proofs.YtjbgcgblamijdaaGreatDoor.nums Go.Proofs.YtjbgcgblamijdaaGreatDoor.mem
set_option linter.unusedVariables false

/-- A reading: its value, its age, whether it was. -/
abbrev R := Int × Int × Bool
def eqR (r s : R) : Bool := r.1 == s.1 && (r.2.1 == s.2.1 && r.2.2 == s.2.2)

theorem fieldsR : ∃ fs : List Field, Tryz.prog.underlying 42 = some (.struct fs.toArray) ∧ fs.map (fun f => (f.name, f.type, f.offset)) = [("Value", 2, 0), ("Age", 2, 1), ("Was", 4, 2)] :=
  ⟨_, Tryz.underlying42, rfl⟩
theorem partI (w : World) (xs : Array Value) (k : Nat) (v : Int) (h : xs[k]? = some (.int .i64 v)) : (part 2 xs k).run Tryz.prog w = .ok (.int .i64 v) w := by
  simp [part, go_sem, h]
theorem partB (w : World) (xs : Array Value) (k : Nat) (v : Bool) (h : xs[k]? = some (.bool v)) : (part 4 xs k).run Tryz.prog w = .ok (.bool v) w := by
  simp [part, go_sem, h]
theorem eqI (w : World) (d : Nat) (a b : Int) : (Op.equalIn (d + 1) 2 (.int .i64 a) (.int .i64 b)).run Tryz.prog w = .ok (a == b) w := by
  simp [Op.equalIn, run_underlying Tryz.underlying2]
theorem eqB (w : World) (d : Nat) (a b : Bool) : (Op.equalIn (d + 1) 4 (.bool a) (.bool b)).run Tryz.prog w = .ok (a == b) w := run_equalIn_bool w d _ a b Tryz.underlying4
theorem equalR (w : World) (d : Nat) (v a v' a' : Int) (o o' : Bool) : (Op.equalIn (d + 2) 42 (.agg #[.int .i64 v, .int .i64 a, .bool o]) (.agg #[.int .i64 v', .int .i64 a', .bool o'])).run Tryz.prog w = .ok (eqR (v, a, o) (v', a', o')) w := by
  obtain ⟨fs, hu, hf⟩ := fieldsR
  have hp : Tryz.prog.stoodInHeld 42 = false := by kernel_rfl
  unfold Op.equalIn
  simp only [Sem.run_bind, run_underlying hu, Result.andThen_ok, run_program, hp, Bool.false_eq_true, if_false]
  rw [← Array.forIn_toList]
  match fs, hf with
  | f0 :: f1 :: f2 :: fs, hf =>
    simp only [List.map_cons, List.cons.injEq, Prod.mk.injEq, List.map_eq_nil_iff] at hf
    obtain ⟨⟨n0, t0, o0⟩, ⟨n1, t1, o1⟩, ⟨n2, t2, o2⟩, rfl⟩ := hf
    simp [n0, n1, n2, t0, t1, t2, o0, o1, o2, partI, partB, eqI, eqB]
    unfold eqR
    by_cases h0 : v = v' <;> by_cases h1 : a = a' <;> by_cases h2 : o = o' <;> simp [h0, h1, h2]
  | [], hf => simp at hf
  | [_], hf => simp at hf
  | [_, _], hf => simp at hf
theorem eqlR (w : World) (v a v' a' : Int) (o o' : Bool) : (binOp .eql 42 (.agg #[.int .i64 v, .int .i64 a, .bool o]) (.agg #[.int .i64 v', .int .i64 a', .bool o'])).run Tryz.prog w = .ok (.bool (eqR (v, a, o) (v', a', o'))) w := by
  simp only [binOp]
  simp [Op.equal, Op.maxDepth, equalR w 9998]
theorem neqR (w : World) (v a v' a' : Int) (o o' : Bool) : (binOp .neq 42 (.agg #[.int .i64 v, .int .i64 a, .bool o]) (.agg #[.int .i64 v', .int .i64 a', .bool o'])).run Tryz.prog w = .ok (.bool (!eqR (v, a, o) (v', a', o'))) w := by
  simp only [binOp]
  simp [Op.equal, Op.maxDepth, equalR w 9998]
theorem guardR (w : World) (op : BinOp) (x y : Operand) (xs ys : Array Value) : (eqGuard op 42 x y (.agg xs) (.agg ys)).run Tryz.prog w = .ok () w := by
  have hm : Tryz.prog.eqGuardType Tryz.prog.depth 42 = false := by kernel_rfl
  cases op <;> simp [eqGuard, run_program, hm]
end Go.Proofs.YtjbgcgblamijdaaGreatDoor.rd

