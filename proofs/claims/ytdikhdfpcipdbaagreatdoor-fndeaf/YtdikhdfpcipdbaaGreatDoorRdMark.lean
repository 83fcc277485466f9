/- Marks in the memory of a list of readings. -/
import Derived.Test.YtdikhdfpcipdbaaGreatDoorRdLst
namespace Go.Proofs.YtdikhdfpcipdbaaGreatDoor.rd
open Go.ChangeShapes Go.WideShapes Go.ChangeAt Go.RowKit
open Go.Proofs.YtdikhdfpcipdbaaGreatDoor.nums Go.Proofs.YtdikhdfpcipdbaaGreatDoor.mem
open Go.Proofs.YtdikhdfpcipdbaaGreatDoor.tab (Ret quiet_w wpList_make_has add_off)
set_option linter.unusedVariables false

/-- The marks that lie from m on. -/
def mkR (m n : Nat) : List R := (List.range n).map fun j => (((m + 3 * j : Nat) : Int), ((m + 3 * j + 1 : Nat) : Int), decide ((m + 2) % 3 = 0))
theorem mkR_len (m n : Nat) : (mkR m n).length = n := by simp [mkR]
theorem mkR_at {m n k : Nat} (h : k < n) : (mkR m n).getD k zR = (((m + 3 * k : Nat) : Int), ((m + 3 * k + 1 : Nat) : Int), decide ((m + 2) % 3 = 0)) := by simp [mkR, List.getD, h]
theorem mod3 (m k : Nat) : ((((m : Int) + 3 * (k : Int) + 1 + 1) % 3) == 0) = decide ((m + 2) % 3 = 0) := by
  by_cases h : (m + 2) % 3 = 0
  · rw [decide_eq_true h]; simp; omega
  · rw [decide_eq_false h]; simp; omega

theorem gr_blk {a b c : World} {p : Option Addr} (h : a.grownBy b none) (k : b.grownBy c (blk p)) (hp : ∀ x : Addr, p = some x → a.heap.size ≤ x.block) : a.grownBy c none := by
  cases p with
  | none => exact gr_trans h k
  | some x => exact gr_past h k (hp x rfl)
theorem ne_blk {p : Option Addr} {B : Nat} (hp : ∀ y : Addr, p = some y → y.block < B) {x : Addr} (hx : B ≤ x.block) : some x.block ≠ blk p := by
  cases p with
  | none => simp [blk]
  | some y => have := hp y rfl; simp [blk]; omega
/-- The marks are laid. -/
def Marked (m n : Nat) (a : Option Addr) (w : World) (e : Ending) (w' : World) : Prop := e = .returned (.int .i64 ((m : Int) + 3 * (n : Int))) ∧ w.grownBy w' (blk a) ∧ OwnR w' a (mkR m n)

theorem mk_cells {w : World} {a : Option Addr} {m n : Nat} (h : Arg w a (mkR m n)) {k : Nat} (hk : k < n) : ∃ x : Addr, a = some x ∧ x.block < w.heap.size ∧ w.cell? (x.add (k * 3)) = some (.int .i64 ((m : Int) + 3 * (k : Int))) ∧ w.cell? ⟨(x.add (k * 3)).block, (x.add (k * 3)).off + 1, none⟩ = some (.int .i64 ((m : Int) + 3 * (k : Int) + 1)) ∧ w.cell? ⟨(x.add (k * 3)).block, (x.add (k * 3)).off + 2, none⟩ = some (.bool (decide ((m + 2) % 3 = 0))) := by
  obtain ⟨x, e, hb, h0, h1, h2⟩ := h k (by rw [mkR_len]; exact hk)
  unfold rx at h0; unfold ra at h1; unfold ro at h2
  rw [mkR_at hk] at h0 h1 h2
  exact ⟨x, e, hb, by rw [h0]; simp, by rw [h1]; simp, h2⟩

end Go.Proofs.YtdikhdfpcipdbaaGreatDoor.rd
