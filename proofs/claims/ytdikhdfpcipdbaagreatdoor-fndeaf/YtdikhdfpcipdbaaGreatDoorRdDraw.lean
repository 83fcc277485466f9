/- The draws of chapter 6: whatever the bytes, readings; and nothing that was there is another. -/
import Derived.Test.YtdikhdfpcipdbaaGreatDoorRdLst
import Derived.Test.YtdikhdfpcipdbaaGreatDoorCur2
namespace Go.Proofs.YtdikhdfpcipdbaaGreatDoor.rd
open Go.ChangeShapes Go.WideShapes Go.ChangeAt Go.RowKit
open Go.Proofs.YtdikhdfpcipdbaaGreatDoor.nums Go.Proofs.YtdikhdfpcipdbaaGreatDoor.mem Go.Proofs.YtdikhdfpcipdbaaGreatDoor.cur
open Go.Proofs.YtdikhdfpcipdbaaGreatDoor.tab (Ret quiet_w wpList_make_has add_off)
set_option linter.unusedVariables false

def pick3 (a b c : Int) (k : Nat) : Int := [a, b, c].getD k 0
theorem pick3_in (a b c lo hi : Int) (k : Nat) (hk : k < 3) (ha : lo ≤ a ∧ a ≤ hi) (hb : lo ≤ b ∧ b ≤ hi) (hc : lo ≤ c ∧ c ≤ hi) : lo ≤ pick3 a b c k ∧ pick3 a b c k ≤ hi := by
  obtain rfl | rfl | rfl : k = 0 ∨ k = 1 ∨ k = 2 := by omega
  · exact ha
  · exact hb
  · exact hc
theorem pick3_cell (a b c : Int) (k : Nat) (hk : k < 3) : #[Value.int .i64 a, .int .i64 b, .int .i64 c][k]? = some (.int .i64 (pick3 a b c k)) := by
  obtain rfl | rfl | rfl : k = 0 ∨ k = 1 ∨ k = 2 := by omega
  all_goals rfl

/-- A draw of a reading from the cursor in block q. -/
def DrawnR (b : Option Addr) (n c : Nat) (w : World) (q : Nat) (e : Ending) (w' : World) : Prop :=
  ∃ (v a : Int) (o : Bool), (In64 v ∧ -1 ≤ a ∧ a ≤ 1001) ∧ e = .returned (.agg #[.int .i64 v, .int .i64 a, .bool o]) ∧ w.grownBy w' (some q) ∧ Cur b n c w' q

set_option maxHeartbeats 1000000 in
theorem draw (b : Option Addr) (n c q : Nat) (w : World) (hn : n ≤ 4096) (h : Cur b n c w q) :
    Calls Tryz.prog 114 #[.pointer (some ⟨q, 0, none⟩)] w (DrawnR b n c w q) := by
  have hq := h.lt
  have a0 := Has.fresh w 42 #[.int .i64 0, .int .i64 0, .bool false]
  have g0 : w.grownBy (w.alloc (Obj.cells #[.int .i64 0, .int .i64 0, .bool false] 42)) (some q) := World.grownBy_alloc _ _ _
  go_enter Tryz.func114, Tryz.ntmps114
  go_wp2_with fail
  refine (below b n c q _ 400 hn (h.alloc _) (by omega)).mono ?_
  rintro e w1 ⟨v, ⟨x0, x1⟩, rfl, g1, h1⟩
  replace a0 := a0.grown g1 (fun e => by injection e with e; omega)
  replace g0 := gr_trans g0 g1
  go_wp2_with fail
  refine (below b n c q _ 6 hn h1 (by omega)).mono ?_
  rintro e w2 ⟨a, ⟨y0, y1⟩, rfl, g2, h2⟩
  replace a0 := a0.grown g2 (fun e => by injection e with e; omega)
  replace g0 := gr_trans g0 g2
  go_wp2_with fail
  refine (once b n c q _ 5 hn h2 (by omega)).mono ?_
  rintro e w3 ⟨o, rfl, g3, h3⟩
  replace a0 := a0.grown g3 (fun e => by injection e with e; omega)
  replace g0 := gr_trans g0 g3
  obtain ⟨c0, c1, c2, f0, f1, f2⟩ := three a0
  go_wp2_with fail
  obtain ⟨k0, k1, k2, _, _, _⟩ := three (set3 a0 (.int .i64 v) (.int .i64 a) (.bool !o))
  exact bodyPost_ret (v := .agg #[.int .i64 v, .int .i64 a, .bool !o]) (by simp [results, Tryz.results114, go_sem, k0, k1, k2]) rfl ⟨v, a, !o, ⟨⟨by omega, by omega⟩, by omega, by omega⟩, rfl, gr_new (gr_new (gr_new g0 (by omega) _ _) (by omega) _ _) (by omega) _ _, h3.kept (row := some w.heap.size) (gr_set (gr_set (gr_set (gr_refl _ _) _ _) _ _) _ _) (fun r e => by injection e with e; omega)⟩

set_option maxHeartbeats 2000000 in
theorem drawAny (b : Option Addr) (n c q : Nat) (w : World) (hn : n ≤ 4096) (h : Cur b n c w q) :
    Calls Tryz.prog 89 #[.pointer (some ⟨q, 0, none⟩)] w (DrawnR b n c w q) := by
  have hq := h.lt
  have a0 := Has.fresh w 42 #[.int .i64 0, .int .i64 0, .bool false]
  have g0 : w.grownBy (w.alloc (Obj.cells #[.int .i64 0, .int .i64 0, .bool false] 42)) (some q) := World.grownBy_alloc _ _ _
  go_enter Tryz.func89, Tryz.ntmps89
  go_wp2_with fail
  refine (draw b n c q _ hn (h.alloc _)).mono ?_
  rintro e w2 ⟨v, a, o, ⟨hv, hA⟩, rfl, g2, h2⟩
  have hlt : w.heap.size < w2.heap.size := by have := g2.size; simp at this; omega
  replace a0 := (a0.grown g2 (fun e => by injection e with e; omega)).alloc (Obj.cells #[.int .i64 v, .int .i64 a, .bool o] 42)
  have a1 := Has.fresh w2 42 #[.int .i64 v, .int .i64 a, .bool o]
  replace g0 := gr_alloc (gr_trans g0 g2) (Obj.cells #[.int .i64 v, .int .i64 a, .bool o] 42)
  have hq2 := h2.lt
  clear g2
  go_wp2_with fail
  refine (once b n c q _ 10 hn (h2.alloc _) (by omega)).mono ?_
  rintro e w3 ⟨u, rfl, g3, h3⟩
  replace a0 := a0.grown g3 (fun e => by injection e with e; omega)
  replace a1 := a1.grown g3 (fun e => by injection e with e; omega)
  replace g0 := gr_trans g0 g3
  clear g3 h2
  cases u
  · go_wp2_with fail
    have HC := h3
    refine (once b n c q _ 14 hn HC (by omega)).mono ?_
    rintro e w5 ⟨u2, rfl, g5, h5⟩
    replace a0 := a0.grown g5 (fun e => by injection e with e; omega)
    replace a1 := a1.grown g5 (fun e => by injection e with e; omega)
    replace g0 := gr_trans g0 g5
    clear g5
    cases u2
    · obtain ⟨c0, c1, c2, f0, f1, f2⟩ := three a0
      obtain ⟨d0, d1, d2, e0, e1, e2⟩ := three a1
      go_wp2_with fail
      obtain ⟨k0, k1, k2, _, _, _⟩ := three (set3 a0 (.int .i64 v) (.int .i64 a) (.bool o))
      exact bodyPost_ret (v := .agg #[.int .i64 v, .int .i64 a, .bool o]) (by simp [results, Tryz.results89, go_sem, k0, k1, k2]) rfl ⟨v, a, o, ⟨hv, hA.1, hA.2⟩, rfl, gr_new (gr_new (gr_new g0 (by omega) _ _) (by omega) _ _) (by omega) _ _, h5.kept (row := some w.heap.size) (gr_set (gr_set (gr_set (gr_refl _ _) _ _) _ _) _ _) (fun r e => by injection e with e; omega)⟩
    · go_wp2_with fail
      refine (cur.size b n c q _ hn h5).mono ?_
      rintro e w6 ⟨x, hx, rfl, g6, h6⟩
      replace a0 := (a0.grown g6 (fun e => by injection e with e; omega)).set_other (g' := w2.heap.size) (by omega) 0 (.int .i64 x)
      replace a1 := a1.grown g6 (fun e => by injection e with e; omega)
      replace g0 := gr_new (gr_trans g0 g6) (g := w2.heap.size) (by omega) 0 (.int .i64 x)
      obtain ⟨d0, d1, d2, e0, e1, e2⟩ := three a1
      obtain ⟨c0, c1, c2, f0, f1, f2⟩ := three a0
      have b1 := a1.put 0 (.int .i64 x) rfl
      obtain ⟨m0, m1, m2, p0, p1, p2⟩ := three b1
      have hcur : Cur b n c (w6.setCell ⟨w2.heap.size, 0, none⟩ (.int .i64 x)) q := h6.kept (row := some w2.heap.size) (gr_set (gr_refl _ _) _ _) (fun r e => by injection e with e; omega)
      go_wp2_with fail
      obtain ⟨k0, k1, k2, _, _, _⟩ := three (set3 a0 (.int .i64 x) (.int .i64 a) (.bool o))
      exact bodyPost_ret (v := .agg #[.int .i64 x, .int .i64 a, .bool o]) (by simp [results, Tryz.results89, go_sem, k0, k1, k2]) rfl ⟨x, a, o, ⟨hx, hA.1, hA.2⟩, rfl, gr_new (gr_new (gr_new g0 (by omega) _ _) (by omega) _ _) (by omega) _ _, hcur.kept (row := some w.heap.size) (gr_set (gr_set (gr_set (gr_refl _ _) _ _) _ _) _ _) (fun r e => by injection e with e; omega)⟩
  · have hf := Has.fresh w3 2 #[Value.int .i64 (-1), .int .i64 1000, .int .i64 1001]
    have hz := h3.lt
    have hz1 := a1.lt
    go_wp2_with fail
    refine (below b n c q _ 3 hn (h3.alloc _) (by omega)).mono ?_
    rintro e w4 ⟨x, ⟨y0, y1⟩, rfl, g4, h4⟩
    replace hf := hf.grown g4 (fun e => by injection e with e; omega)
    replace a0 := (a0.alloc _).grown g4 (fun e => by injection e with e; omega)
    replace a1 := (a1.alloc _).grown g4 (fun e => by injection e with e; omega)
    replace g0 := gr_trans (gr_alloc g0 _) g4
    obtain ⟨k, rfl⟩ := Int.eq_ofNat_of_zero_le y0
    have hk : k < 3 := by omega
    have hc := hf.cell k
    rw [pick3_cell _ _ _ k hk] at hc
    obtain ⟨d0, d1, d2, e0, e1, e2⟩ := three a1
    have hP := pick3_in (-1) 1000 1001 (-1) 1001 k hk ⟨by omega, by omega⟩ ⟨by omega, by omega⟩ ⟨by omega, by omega⟩
    generalize pick3 (-1) 1000 1001 k = P at hc hP
    clear hA g4 h3
    have hA := hP
    go_wp2_with fail
    have HC : Cur b n c (w4.setCell ⟨w2.heap.size, 1, none⟩ (.int .i64 P)) q := h4.kept (row := some w2.heap.size) (gr_set (gr_refl _ _) _ _) (fun r e => by injection e with e; omega)
    replace a0 := a0.set_other (g' := w2.heap.size) (by omega) 1 (.int .i64 P)
    replace a1 := a1.put 1 (.int .i64 P) rfl
    replace g0 := gr_new g0 (g := w2.heap.size) (by omega) 1 (.int .i64 P)
    clear hf hc d0 d1 d2 e0 e1 e2 h4
    refine (once b n c q _ 14 hn HC (by omega)).mono ?_
    rintro e w5 ⟨u2, rfl, g5, h5⟩
    replace a0 := a0.grown g5 (fun e => by injection e with e; omega)
    replace a1 := a1.grown g5 (fun e => by injection e with e; omega)
    replace g0 := gr_trans g0 g5
    clear g5
    cases u2
    · obtain ⟨c0, c1, c2, f0, f1, f2⟩ := three a0
      obtain ⟨d0, d1, d2, e0, e1, e2⟩ := three a1
      go_wp2_with fail
      obtain ⟨k0, k1, k2, _, _, _⟩ := three (set3 a0 (.int .i64 v) (.int .i64 P) (.bool o))
      exact bodyPost_ret (v := .agg #[.int .i64 v, .int .i64 P, .bool o]) (by simp [results, Tryz.results89, go_sem, k0, k1, k2]) rfl ⟨v, P, o, ⟨hv, hA.1, hA.2⟩, rfl, gr_new (gr_new (gr_new g0 (by omega) _ _) (by omega) _ _) (by omega) _ _, h5.kept (row := some w.heap.size) (gr_set (gr_set (gr_set (gr_refl _ _) _ _) _ _) _ _) (fun r e => by injection e with e; omega)⟩
    · go_wp2_with fail
      refine (cur.size b n c q _ hn h5).mono ?_
      rintro e w6 ⟨x, hx, rfl, g6, h6⟩
      replace a0 := (a0.grown g6 (fun e => by injection e with e; omega)).set_other (g' := w2.heap.size) (by omega) 0 (.int .i64 x)
      replace a1 := a1.grown g6 (fun e => by injection e with e; omega)
      replace g0 := gr_new (gr_trans g0 g6) (g := w2.heap.size) (by omega) 0 (.int .i64 x)
      obtain ⟨d0, d1, d2, e0, e1, e2⟩ := three a1
      obtain ⟨c0, c1, c2, f0, f1, f2⟩ := three a0
      have b1 := a1.put 0 (.int .i64 x) rfl
      obtain ⟨m0, m1, m2, p0, p1, p2⟩ := three b1
      have hcur : Cur b n c (w6.setCell ⟨w2.heap.size, 0, none⟩ (.int .i64 x)) q := h6.kept (row := some w2.heap.size) (gr_set (gr_refl _ _) _ _) (fun r e => by injection e with e; omega)
      go_wp2_with fail
      obtain ⟨k0, k1, k2, _, _, _⟩ := three (set3 a0 (.int .i64 x) (.int .i64 P) (.bool o))
      exact bodyPost_ret (v := .agg #[.int .i64 x, .int .i64 P, .bool o]) (by simp [results, Tryz.results89, go_sem, k0, k1, k2]) rfl ⟨x, P, o, ⟨hx, hA.1, hA.2⟩, rfl, gr_new (gr_new (gr_new g0 (by omega) _ _) (by omega) _ _) (by omega) _ _, hcur.kept (row := some w.heap.size) (gr_set (gr_set (gr_set (gr_refl _ _) _ _) _ _) _ _) (fun r e => by injection e with e; omega)⟩
end Go.Proofs.YtdikhdfpcipdbaaGreatDoor.rd
