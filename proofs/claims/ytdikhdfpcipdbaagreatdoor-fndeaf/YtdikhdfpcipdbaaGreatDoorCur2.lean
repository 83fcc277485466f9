/- The cursor, continued: a new one; the draw of a size; the draws of chapter 1. -/
import Derived.Test.YtdikhdfpcipdbaaGreatDoorCur
namespace Go.Proofs.YtdikhdfpcipdbaaGreatDoor.cur
open Go.ChangeShapes Go.WideShapes Go.ChangeAt Go.RowKit
open Go.Proofs.YtdikhdfpcipdbaaGreatDoor.nums Go.Proofs.YtdikhdfpcipdbaaGreatDoor.mem
set_option linter.unusedVariables false

theorem Bytes.below {w w' : World} {q n B : Nat} {b : Option Addr} (h : Bytes w q b n) (hq : q ≤ B) (hg : Below B w w') : Bytes w' q b n := by
  intro k hk
  obtain ⟨x, z, e, hx, hc, hz⟩ := h k hk
  refine ⟨x, z, e, hx, ?_, hz⟩
  rw [← hc]
  exact World.cell?_of_block (hg.block _ (by rw [block_add]; omega))
theorem Bytes.more {w : World} {q q' n : Nat} {b : Option Addr} (h : Bytes w q b n) (hq : q ≤ q') : Bytes w q' b n := by
  intro k hk
  obtain ⟨x, z, e, hx, hc⟩ := h k hk
  exact ⟨x, z, e, by omega, hc⟩
/-- What turns other blocks alone keeps a cursor. -/
theorem Cur.kept {b : Option Addr} {n c q : Nat} {w w' : World} {row : Option Nat} (h : Cur b n c w q) (hg : w.grownBy w' row) (hr : ∀ r, row = some r → q < r) : Cur b n c w' q := by
  obtain ⟨hb, i, v, hi, hh⟩ := h
  refine ⟨fun k hk => ?_, i, v, hi, hh.grown hg (fun e => by have := hr _ e.symm; omega)⟩
  obtain ⟨x, z, e, hx, hc, hz⟩ := hb k hk
  refine ⟨x, z, e, hx, ?_, hz⟩
  rw [← hc]
  have := hh.lt
  refine World.cell?_of_block (hg.block _ ?_ (fun e => ?_))
  · rw [block_add]; omega
  · have := hr _ e.symm; rw [block_add] at this; omega
theorem Cur.alloc {b : Option Addr} {n c q : Nat} {w : World} (h : Cur b n c w q) (o : Obj) : Cur b n c (w.alloc o) q := h.kept (World.grownBy_alloc w o none) (by simp)
theorem Cur.lt {b : Option Addr} {n c q : Nat} {w : World} (h : Cur b n c w q) : q < w.heap.size := by obtain ⟨_, _, _, _, hh⟩ := h; exact hh.lt

def tab7 (k : Nat) : Int := [0, 1000000, 1000001, -1000000, -1000001, 4611686018427387904, -4611686018427387904].getD k 0
theorem tab7_in (k : Nat) (hk : k < 7) : In64 (tab7 k) := by
  obtain rfl | rfl | rfl | rfl | rfl | rfl | rfl : k = 0 ∨ k = 1 ∨ k = 2 ∨ k = 3 ∨ k = 4 ∨ k = 5 ∨ k = 6 := by omega
  all_goals exact ⟨by decide, by decide⟩
theorem tab7_cell (k : Nat) (hk : k < 7) : #[Value.int .i64 0, .int .i64 1000000, .int .i64 1000001, .int .i64 (-1000000), .int .i64 (-1000001), .int .i64 4611686018427387904, .int .i64 (-4611686018427387904)][k]? = some (.int .i64 (tab7 k)) := by
  obtain rfl | rfl | rfl | rfl | rfl | rfl | rfl : k = 0 ∨ k = 1 ∨ k = 2 ∨ k = 3 ∨ k = 4 ∨ k = 5 ∨ k = 6 := by omega
  all_goals rfl

set_option maxHeartbeats 400000 in
theorem size (b : Option Addr) (n c q : Nat) (w : World) (hn : n ≤ 4096) (h : Cur b n c w q) :
    Calls Tryz.prog 32 #[.pointer (some ⟨q, 0, none⟩)] w (Drawn In64 b n c w q) := by
  go_enter Tryz.func32, Tryz.ntmps32
  go_wp2_with fail
  refine (once b n c q _ 8 hn h (by omega)).mono ?_
  rintro e w1 ⟨v, rfl, g1, h1⟩
  cases v
  · go_wp2_with fail
    refine (below b n c q _ 600 hn h1 (by omega)).mono ?_
    rintro e w2 ⟨x, ⟨x0, x1⟩, rfl, g2, h2⟩
    go_wp2_with fail
    go_ret
    exact ⟨_, ⟨by omega, by omega⟩, rfl, gr_trans g1 g2, h2⟩
  · go_wp2_with fail
    have hf := Has.fresh w1 2 #[Value.int .i64 0, .int .i64 1000000, .int .i64 1000001, .int .i64 (-1000000), .int .i64 (-1000001), .int .i64 4611686018427387904, .int .i64 (-4611686018427387904)]
    refine (below b n c q _ 7 hn (h1.alloc _) (by omega)).mono ?_
    rintro e w2 ⟨x, ⟨x0, x1⟩, rfl, g2, h2⟩
    have hf2 := hf.grown g2 (fun e => by have := h1.lt; injection e with e; omega)
    obtain ⟨k, rfl⟩ := Int.eq_ofNat_of_zero_le x0
    have hk : k < 7 := by omega
    have hc := hf2.cell k
    rw [tab7_cell k hk] at hc
    go_wp2_with fail
    go_ret
    exact ⟨_, tab7_in k hk, rfl, gr_trans g1 (gr_trans (World.grownBy_alloc _ _ _) g2), h2⟩

/-- A new cursor: it lies in a new block. -/
def Newly (b : Option Addr) (n c : Nat) (w : World) (e : Ending) (w' : World) : Prop :=
  ∃ q : Nat, e = .returned (.pointer (some ⟨q, 0, none⟩)) ∧ w.heap.size ≤ q ∧ w.grownBy w' none ∧ Cur b n c w' q

set_option maxHeartbeats 400000 in
theorem new (b : Option Addr) (n c : Nat) (w : World) (hn : n ≤ 4096) (hb : Bytes w w.heap.size b n) :
    Calls Tryz.prog 20 #[.slice b n c] w (Newly b n c w) := by
  go_enter Tryz.func20, Tryz.ntmps20
  go_wp2
  go_loop [3, 4] (fun h i => ∃ (k : Nat) (v : Int), k ≤ n ∧ h = .int .i64 v ∧ i = .int .i64 k) (fun _ i => n - (intOf i).toNat)
  case atStart => exact ⟨0, _, Nat.zero_le _, rfl, rfl⟩
  case round =>
    obtain ⟨k, v, hk, rfl, rfl⟩ := hrel
    by_cases hlt : k < n
    · obtain ⟨x, z, rfl, hx, hz, hz0, hz1⟩ := hb k hlt
      go_wp2
      go_round
      case rel => exact ⟨k + 1, _, by omega, rfl, by go_num⟩
      case measure => simp [intOf]; omega
    · go_wp2
      go_ret
      exact ⟨_, rfl, Nat.le_refl _, World.grownBy_alloc _ _ _, hb.below (Nat.le_refl _) ((Below.refl _ _).alloc (Nat.le_refl _) _), 0, v, Nat.zero_le _, Has.fresh _ _ _⟩

def Three (w : World) (e : Ending) (w' : World) : Prop :=
  ∃ x y z : Int, In64 x ∧ In64 y ∧ In64 z ∧ e = .returned (.tuple #[.int .i64 x, .int .i64 y, .int .i64 z]) ∧ w.grownBy w' none
def Two (w : World) (e : Ending) (w' : World) : Prop :=
  ∃ x y : Int, In64 x ∧ In64 y ∧ e = .returned (.tuple #[.int .i64 x, .int .i64 y]) ∧ w.grownBy w' none
def One (w : World) (e : Ending) (w' : World) : Prop :=
  ∃ x : Int, In64 x ∧ e = .returned (.int .i64 x) ∧ w.grownBy w' none

def tab6 (k : Nat) : Int := [-1, 0, 1, 999999999999, 1000000000000, 1000000000001].getD k 0
theorem tab6_in (k : Nat) (hk : k < 6) : In64 (tab6 k) := by
  obtain rfl | rfl | rfl | rfl | rfl | rfl : k = 0 ∨ k = 1 ∨ k = 2 ∨ k = 3 ∨ k = 4 ∨ k = 5 := by omega
  all_goals exact ⟨by decide, by decide⟩
theorem tab6_cell (k : Nat) (hk : k < 6) : #[Value.int .i64 (-1), .int .i64 0, .int .i64 1, .int .i64 999999999999, .int .i64 1000000000000, .int .i64 1000000000001][k]? = some (.int .i64 (tab6 k)) := by
  obtain rfl | rfl | rfl | rfl | rfl | rfl : k = 0 ∨ k = 1 ∨ k = 2 ∨ k = 3 ∨ k = 4 ∨ k = 5 := by omega
  all_goals rfl

theorem bytes_of {w : World} {a : Option Addr} {len cap : Nat} {zs : List Int}
    (h : (a = none ∧ len = 0 ∧ cap = 0 ∧ zs = []) ∨ ∃ x, a = some x ∧ len ≤ cap ∧ cap ≤ maxLen ∧ zs.length = cap ∧ (∀ i, i < zs.length → w.cell? (x.add i) = some (.int .u8 (zs.getD i 0))) ∧ ∀ n ∈ zs, (Lit.int .u8 n).wf = true) :
    Bytes w w.heap.size a len := by
  intro k hk
  rcases h with ⟨_, h0, _⟩ | ⟨x, rfl, hl, hm, hz, hc, hw⟩
  · omega
  · have hcell := hc k (by omega)
    refine ⟨x, zs.getD k 0, rfl, ?_, hcell, ?_⟩
    · by_cases hb : x.block < w.heap.size
      · exact hb
      · have hn : w.heap[(x.add k).block]? = none := by rw [block_add]; exact Array.getElem?_eq_none (by omega)
        simp [World.cell?, hn] at hcell
    · have hmem : zs.getD k 0 ∈ zs := by
        have : zs.getD k 0 = zs[k]'(by omega) := by simp [List.getD, List.getElem?_eq_getElem (by omega : k < zs.length)]
        rw [this]; exact List.getElem_mem _
      have := hw _ hmem
      simpa [Lit.wf, IntKind.min, IntKind.max, IntKind.signed, IntKind.bits] using this

theorem big (a : Option Addr) (n c : Nat) (w : World) : Calls Tryz.prog 5 #[.slice a n c] w fun e w' => e = .returned (.bool (decide (4096 < n))) ∧ w = w' := by
  go_enter Tryz.func5, Tryz.ntmps5
  go_wp2
  go_ret
  exact ⟨congrArg (fun b => Ending.returned (.bool b)) (by simp; omega), rfl⟩
end Go.Proofs.YtdikhdfpcipdbaaGreatDoor.cur
