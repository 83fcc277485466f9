/- A list of points that came in: read, copied into new memory, compared; its bulk. -/
import Derived.Test.YtdikhdfpcipdbaaGreatDoorTabMem
import Derived.OwnWalk
import Derived.Deep.SlicePairs
import Derived.Laws.MakeOwn
namespace Go.Proofs.YtdikhdfpcipdbaaGreatDoor.tab
open Go.ChangeShapes Go.WideShapes Go.ChangeAt Go.RowKit
open Go.Proofs.YtdikhdfpcipdbaaGreatDoor.nums Go.Proofs.YtdikhdfpcipdbaaGreatDoor.mem
set_option linter.unusedVariables false

/-- The slice that came in holds these points, each of its two numbers in a cell, in a block of the world. -/
def Arg (w : World) (a : Option Addr) (ps : Pts) : Prop :=
  ∀ k, k < ps.length → ∃ x : Addr, a = some x ∧ x.block < w.heap.size ∧ w.cell? (x.add (k * 2)) = some (.int .i64 (px ps k)) ∧ w.cell? ⟨(x.add (k * 2)).block, (x.add (k * 2)).off + 1, none⟩ = some (.int .i64 (py ps k))
theorem add_off (x : Addr) (m j : Nat) : x.add (m + (j + 1)) = ⟨(x.add m).block, (x.add m).off + (j + 1), none⟩ := by
  unfold Addr.add
  by_cases hm : m = 0 <;> simp [hm, Nat.add_assoc]
theorem block_add (a : Addr) (n : Nat) : (a.add n).block = a.block := by unfold Addr.add; split <;> rfl
theorem Arg.kept {w w' : World} {a : Option Addr} {ps : Pts} (h : Arg w a ps) (hg : w.grownBy w' none) : Arg w' a ps := by
  intro k hk
  obtain ⟨x, e, hb, h1, h2⟩ := h k hk
  refine ⟨x, e, Nat.lt_of_lt_of_le hb hg.size, ?_, ?_⟩
  · rw [← h1]; exact World.cell?_of_block (hg.block _ (by rw [block_add]; omega) (by simp))
  · rw [← h2]; exact World.cell?_of_block (hg.block _ (by show (x.add (k * 2)).block < _; rw [block_add]; omega) (by simp))

theorem wpList_make_has {P : Program} (w : World) {ops : Array Oper} {rest : List Oper} {o : Oper} {a : Act} {Q : Exit → Act → World → Prop}
    (hg : o.guard = none) (l c : Operand) (t : TypeId) (hop : o.op = Op.makeSlice t l c)
    (e : TypeId) (i : TypeInfo) (z : Value) (size : Nat) (h1 : P.underlying t = some (.slice e)) (h2 : P.info? e = some i) (h3 : i.zero = some z) (h4 : i.size = size)
    (kl kc : IntKind) (L C : Int) (n : Nat) (hl : a.eval l = .int kl L) (hc : a.eval c = .int kc C) (hL : L = (n : Int)) (hC : C = (n : Int)) (b2 : i.bytes * n ≤ 281474976710656) (b3 : n ≤ maxLen)
    (hK : wpList P ops Q rest (a.put o.dst (.slice (some ⟨w.heap.size, 0, none⟩) n n)) (w.alloc (.cells (madeCells z.cells (n * size)) e))) :
    wpList P ops Q (o :: rest) a w := by
  refine wpList_plain hg fun K hK' => ?_
  subst hL
  subst hC
  subst h4
  have b2' : (i.bytes : Int) * (n : Int) ≤ 281474976710656 := by
    have h : ((i.bytes * n : Nat) : Int) ≤ 281474976710656 := by omega
    rwa [Int.natCast_mul] at h
  unfold maxLen at b3
  have hr := run_make (P := P) w t e i z h1 h2 h3 kl kc n n (by omega) (Int.le_refl _) b2' (by omega)
  simp only [Int.toNat_natCast] at hr
  unfold Oper.wp
  simp [execOp, hop, hl, hc, hr, Result.andThen]
  exact hK' _ _ hK

theorem infoPoint : (Tryz.prog.info? 250).map (fun i => (i.zero, i.size, i.bytes)) = some (some (.agg #[.int .i64 0, .int .i64 0]), 2, 16) := by kernel_rfl

/-- A copy: a new block that holds the points; of what was there nothing is another. -/
def Copied (ps : Pts) (w : World) (e : Ending) (w' : World) : Prop := ∃ g, e = .returned (.slice (some ⟨g, 0, none⟩) ps.length ps.length) ∧ w.heap.size ≤ g ∧ w.grownBy w' none ∧ Tab w' g ps

end Go.Proofs.YtdikhdfpcipdbaaGreatDoor.tab
