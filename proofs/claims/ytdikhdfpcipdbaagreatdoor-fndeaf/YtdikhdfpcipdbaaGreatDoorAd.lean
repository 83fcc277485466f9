/- Chapter 19 of the model: an act is drawn. -/
import Derived.Test.YtdikhdfpcipdbaaGreatDoorHp2
import Derived.Test.YtdikhdfpcipdbaaGreatDoorCur2
namespace Go.Proofs.YtdikhdfpcipdbaaGreatDoor.wd
open Go.ChangeShapes Go.WideShapes Go.ChangeAt Go.RowKit
open Go.Proofs.YtdikhdfpcipdbaaGreatDoor.nums Go.Proofs.YtdikhdfpcipdbaaGreatDoor.mem Go.Proofs.YtdikhdfpcipdbaaGreatDoor.cur
open Go.Proofs.YtdikhdfpcipdbaaGreatDoor.tab (Ret)
open Go.Proofs.YtdikhdfpcipdbaaGreatDoor.il (nth)
set_option linter.unusedVariables false

/-- An act comes back, drawn from the cursor in block q. -/
def DrawnAct (b : Option Addr) (n c : Nat) (w : World) (q : Nat) (e : Ending) (w' : World) : Prop :=
  ∃ k N : Int, e = .returned (.agg #[.int .i64 k, .int .i64 N]) ∧ w.grownBy w' (some q) ∧ Cur b n c w' q
theorem four_at {m : Nat} (h : m < 4) : (#[Value.int .i64 1, .int .i64 1, .int .i64 0, .int .i64 2] : Array Value)[m]? = some (.int .i64 (nth [1, 1, 0, 2] m)) := by
  rcases (show m = 0 ∨ m = 1 ∨ m = 2 ∨ m = 3 by omega) with rfl | rfl | rfl | rfl <;> rfl

set_option maxRecDepth 100000 in
set_option maxHeartbeats 4000000 in
theorem drawAct (b : Option Addr) (n c q : Nat) (w : World) (hn : n ≤ 4096) (h : Cur b n c w q) :
    Calls Tryz.prog 88 #[.pointer (some ⟨q, 0, none⟩)] w (DrawnAct b n c w q) := by
  have hq := h.lt
  have K := Has.fresh w 118 #[.int .i64 0, .int .i64 0]
  have G : w.grownBy (w.alloc (Obj.cells #[.int .i64 0, .int .i64 0] 118)) (some q) := World.grownBy_alloc _ _ _
  have nq : w.heap.size ≠ q := by omega
  go_enter Tryz.func88, Tryz.ntmps88
  go_wp2_with fail
  refine (below b n c q _ 14 hn (h.alloc _) (by omega)).mono ?_
  rintro e w1 ⟨d, hd, rfl, g1, h1⟩
  replace K := K.grown g1 (fun e => by injection e with e; omega)
  replace G := gr_trans G g1
  clear g1 h
  rcases (show d = 0 ∨ d = 1 ∨ d = 2 ∨ d = 3 ∨ d = 4 ∨ d = 5 ∨ d = 6 ∨ d = 7 ∨ d = 8 ∨ d = 9 ∨ d = 10 ∨ d = 11 ∨ d = 12 ∨ d = 13 by omega) with rfl | rfl | rfl | rfl | rfl | rfl | rfl | rfl | rfl | rfl | rfl | rfl | rfl | rfl
  · go_wp2_with fail
    refine (below b n c q _ 5 hn h1 (by omega)).mono ?_
    rintro e w2 ⟨v, hv, rfl, g2, h2⟩
    replace K := K.grown g2 (fun e => by injection e with e; omega)
    replace G := gr_trans G g2
    obtain ⟨c0, c1, f0, f1⟩ := gt.two K
    go_wp2_with fail
    obtain ⟨u0, u1, _, _⟩ := gt.two (gt.set2 K (.int .i64 1) (.int .i64 (v / 4)))
    exact bodyPost_ret (v := .agg #[.int .i64 1, .int .i64 (v / 4)]) (by simp [results, Tryz.results88, go_sem, u0, u1]) rfl ⟨1, (v / 4), rfl, gr_new (gr_new G (Nat.le_refl w.heap.size) _ _) (Nat.le_refl w.heap.size) _ _, h2.kept (row := some w.heap.size) (gr_set (gr_set (gr_refl _ _) _ _) _ _) (fun r e => by injection e with e; omega)⟩
  · have D := Has.fresh w1 2 #[.int .i64 1, .int .i64 1, .int .i64 0, .int .i64 2]
    replace G := gr_alloc G (Obj.cells #[.int .i64 1, .int .i64 1, .int .i64 0, .int .i64 2] 2)
    replace K := K.alloc (Obj.cells #[.int .i64 1, .int .i64 1, .int .i64 0, .int .i64 2] 2)
    have lq1 := h1.lt
    go_wp2_with fail
    refine (below b n c q _ 4 hn (h1.alloc _) (by omega)).mono ?_
    rintro e w2 ⟨v, hv, rfl, g2, h2⟩
    replace K := K.grown g2 (fun e => by injection e with e; omega)
    replace D := D.grown g2 (fun e => by injection e with e; omega)
    replace G := gr_trans G g2
    obtain ⟨m, rfl⟩ := nat_of hv.1
    have hm : m < 4 := by omega
    have cd := (D.cell m).trans (four_at hm)
    generalize nth [1, 1, 0, 2] m = N at *
    obtain ⟨c0, c1, f0, f1⟩ := gt.two K
    go_wp2_with fail
    obtain ⟨u0, u1, _, _⟩ := gt.two (gt.set2 K (.int .i64 2) (.int .i64 N))
    exact bodyPost_ret (v := .agg #[.int .i64 2, .int .i64 N]) (by simp [results, Tryz.results88, go_sem, u0, u1]) rfl ⟨2, N, rfl, gr_new (gr_new G (Nat.le_refl w.heap.size) _ _) (Nat.le_refl w.heap.size) _ _, h2.kept (row := some w.heap.size) (gr_set (gr_set (gr_refl _ _) _ _) _ _) (fun r e => by injection e with e; omega)⟩
  · have D := Has.fresh w1 2 #[.int .i64 1, .int .i64 1, .int .i64 0, .int .i64 2]
    replace G := gr_alloc G (Obj.cells #[.int .i64 1, .int .i64 1, .int .i64 0, .int .i64 2] 2)
    replace K := K.alloc (Obj.cells #[.int .i64 1, .int .i64 1, .int .i64 0, .int .i64 2] 2)
    have lq1 := h1.lt
    go_wp2_with fail
    refine (below b n c q _ 4 hn (h1.alloc _) (by omega)).mono ?_
    rintro e w2 ⟨v, hv, rfl, g2, h2⟩
    replace K := K.grown g2 (fun e => by injection e with e; omega)
    replace D := D.grown g2 (fun e => by injection e with e; omega)
    replace G := gr_trans G g2
    obtain ⟨m, rfl⟩ := nat_of hv.1
    have hm : m < 4 := by omega
    have cd := (D.cell m).trans (four_at hm)
    generalize nth [1, 1, 0, 2] m = N at *
    obtain ⟨c0, c1, f0, f1⟩ := gt.two K
    go_wp2_with fail
    obtain ⟨u0, u1, _, _⟩ := gt.two (gt.set2 K (.int .i64 2) (.int .i64 N))
    exact bodyPost_ret (v := .agg #[.int .i64 2, .int .i64 N]) (by simp [results, Tryz.results88, go_sem, u0, u1]) rfl ⟨2, N, rfl, gr_new (gr_new G (Nat.le_refl w.heap.size) _ _) (Nat.le_refl w.heap.size) _ _, h2.kept (row := some w.heap.size) (gr_set (gr_set (gr_refl _ _) _ _) _ _) (fun r e => by injection e with e; omega)⟩
  · go_wp2_with fail
    refine (below b n c q _ 6 hn h1 (by omega)).mono ?_
    rintro e w2 ⟨v, hv, rfl, g2, h2⟩
    replace K := K.grown g2 (fun e => by injection e with e; omega)
    replace G := gr_trans G g2
    obtain ⟨c0, c1, f0, f1⟩ := gt.two K
    go_wp2_with fail
    obtain ⟨u0, u1, _, _⟩ := gt.two (gt.set2 K (.int .i64 3) (.int .i64 v))
    exact bodyPost_ret (v := .agg #[.int .i64 3, .int .i64 v]) (by simp [results, Tryz.results88, go_sem, u0, u1]) rfl ⟨3, v, rfl, gr_new (gr_new G (Nat.le_refl w.heap.size) _ _) (Nat.le_refl w.heap.size) _ _, h2.kept (row := some w.heap.size) (gr_set (gr_set (gr_refl _ _) _ _) _ _) (fun r e => by injection e with e; omega)⟩
  · go_wp2_with fail
    refine (from_ b n c q _ (-1) 2 hn h1 (by omega) (by omega) (by omega) (by omega)).mono ?_
    rintro e w2 ⟨v, hv, rfl, g2, h2⟩
    replace K := K.grown g2 (fun e => by injection e with e; omega)
    replace G := gr_trans G g2
    obtain ⟨c0, c1, f0, f1⟩ := gt.two K
    go_wp2_with fail
    obtain ⟨u0, u1, _, _⟩ := gt.two (gt.set2 K (.int .i64 4) (.int .i64 v))
    exact bodyPost_ret (v := .agg #[.int .i64 4, .int .i64 v]) (by simp [results, Tryz.results88, go_sem, u0, u1]) rfl ⟨4, v, rfl, gr_new (gr_new G (Nat.le_refl w.heap.size) _ _) (Nat.le_refl w.heap.size) _ _, h2.kept (row := some w.heap.size) (gr_set (gr_set (gr_refl _ _) _ _) _ _) (fun r e => by injection e with e; omega)⟩
  · go_wp2_with fail
    refine (below b n c q _ 12 hn h1 (by omega)).mono ?_
    rintro e w2 ⟨v, hv, rfl, g2, h2⟩
    replace K := K.grown g2 (fun e => by injection e with e; omega)
    replace G := gr_trans G g2
    obtain ⟨c0, c1, f0, f1⟩ := gt.two K
    go_wp2_with fail
    obtain ⟨u0, u1, _, _⟩ := gt.two (gt.set2 K (.int .i64 5) (.int .i64 v))
    exact bodyPost_ret (v := .agg #[.int .i64 5, .int .i64 v]) (by simp [results, Tryz.results88, go_sem, u0, u1]) rfl ⟨5, v, rfl, gr_new (gr_new G (Nat.le_refl w.heap.size) _ _) (Nat.le_refl w.heap.size) _ _, h2.kept (row := some w.heap.size) (gr_set (gr_set (gr_refl _ _) _ _) _ _) (fun r e => by injection e with e; omega)⟩
  · go_wp2_with fail
    refine (from_ b n c q _ (-3) 3 hn h1 (by omega) (by omega) (by omega) (by omega)).mono ?_
    rintro e w2 ⟨v, hv, rfl, g2, h2⟩
    replace K := K.grown g2 (fun e => by injection e with e; omega)
    replace G := gr_trans G g2
    obtain ⟨c0, c1, f0, f1⟩ := gt.two K
    go_wp2_with fail
    obtain ⟨u0, u1, _, _⟩ := gt.two (gt.set2 K (.int .i64 7) (.int .i64 v))
    exact bodyPost_ret (v := .agg #[.int .i64 7, .int .i64 v]) (by simp [results, Tryz.results88, go_sem, u0, u1]) rfl ⟨7, v, rfl, gr_new (gr_new G (Nat.le_refl w.heap.size) _ _) (Nat.le_refl w.heap.size) _ _, h2.kept (row := some w.heap.size) (gr_set (gr_set (gr_refl _ _) _ _) _ _) (fun r e => by injection e with e; omega)⟩
  · go_wp2_with fail
    refine (below b n c q _ 500 hn h1 (by omega)).mono ?_
    rintro e w2 ⟨v, hv, rfl, g2, h2⟩
    replace K := K.grown g2 (fun e => by injection e with e; omega)
    replace G := gr_trans G g2
    obtain ⟨c0, c1, f0, f1⟩ := gt.two K
    go_wp2_with fail
    obtain ⟨u0, u1, _, _⟩ := gt.two (gt.set2 K (.int .i64 8) (.int .i64 v))
    exact bodyPost_ret (v := .agg #[.int .i64 8, .int .i64 v]) (by simp [results, Tryz.results88, go_sem, u0, u1]) rfl ⟨8, v, rfl, gr_new (gr_new G (Nat.le_refl w.heap.size) _ _) (Nat.le_refl w.heap.size) _ _, h2.kept (row := some w.heap.size) (gr_set (gr_set (gr_refl _ _) _ _) _ _) (fun r e => by injection e with e; omega)⟩
  · go_wp2_with fail
    refine (from_ b n c q _ (0) 9 hn h1 (by omega) (by omega) (by omega) (by omega)).mono ?_
    rintro e w2 ⟨k, hk, rfl, g2, h2⟩
    replace K := K.grown g2 (fun e => by injection e with e; omega)
    replace G := gr_trans G g2
    clear g2
    have h3 := h2
    clear h2
    go_wp2_with fail
    refine (size b n c q _ hn h3).mono ?_
    rintro e w3 ⟨v, hv, rfl, g2, h2⟩
    replace K := K.grown g2 (fun e => by injection e with e; omega)
    replace G := gr_trans G g2
    obtain ⟨c0, c1, f0, f1⟩ := gt.two K
    go_wp2_with fail
    obtain ⟨u0, u1, _, _⟩ := gt.two (gt.set2 K (.int .i64 k) (.int .i64 v))
    exact bodyPost_ret (v := .agg #[.int .i64 k, .int .i64 v]) (by simp [results, Tryz.results88, go_sem, u0, u1]) rfl ⟨k, v, rfl, gr_new (gr_new G (Nat.le_refl w.heap.size) _ _) (Nat.le_refl w.heap.size) _ _, h2.kept (row := some w.heap.size) (gr_set (gr_set (gr_refl _ _) _ _) _ _) (fun r e => by injection e with e; omega)⟩
  · go_wp2_with fail
    refine (below b n c q _ 25 hn h1 (by omega)).mono ?_
    rintro e w2 ⟨v, hv, rfl, g2, h2⟩
    replace K := K.grown g2 (fun e => by injection e with e; omega)
    replace G := gr_trans G g2
    obtain ⟨c0, c1, f0, f1⟩ := gt.two K
    go_wp2_with fail
    obtain ⟨u0, u1, _, _⟩ := gt.two (gt.set2 K (.int .i64 6) (.int .i64 (1 + v)))
    exact bodyPost_ret (v := .agg #[.int .i64 6, .int .i64 (1 + v)]) (by simp [results, Tryz.results88, go_sem, u0, u1]) rfl ⟨6, (1 + v), rfl, gr_new (gr_new G (Nat.le_refl w.heap.size) _ _) (Nat.le_refl w.heap.size) _ _, h2.kept (row := some w.heap.size) (gr_set (gr_set (gr_refl _ _) _ _) _ _) (fun r e => by injection e with e; omega)⟩
  · go_wp2_with fail
    refine (below b n c q _ 25 hn h1 (by omega)).mono ?_
    rintro e w2 ⟨v, hv, rfl, g2, h2⟩
    replace K := K.grown g2 (fun e => by injection e with e; omega)
    replace G := gr_trans G g2
    obtain ⟨c0, c1, f0, f1⟩ := gt.two K
    go_wp2_with fail
    obtain ⟨u0, u1, _, _⟩ := gt.two (gt.set2 K (.int .i64 6) (.int .i64 (1 + v)))
    exact bodyPost_ret (v := .agg #[.int .i64 6, .int .i64 (1 + v)]) (by simp [results, Tryz.results88, go_sem, u0, u1]) rfl ⟨6, (1 + v), rfl, gr_new (gr_new G (Nat.le_refl w.heap.size) _ _) (Nat.le_refl w.heap.size) _ _, h2.kept (row := some w.heap.size) (gr_set (gr_set (gr_refl _ _) _ _) _ _) (fun r e => by injection e with e; omega)⟩
  · go_wp2_with fail
    refine (below b n c q _ 25 hn h1 (by omega)).mono ?_
    rintro e w2 ⟨v, hv, rfl, g2, h2⟩
    replace K := K.grown g2 (fun e => by injection e with e; omega)
    replace G := gr_trans G g2
    obtain ⟨c0, c1, f0, f1⟩ := gt.two K
    go_wp2_with fail
    obtain ⟨u0, u1, _, _⟩ := gt.two (gt.set2 K (.int .i64 6) (.int .i64 (1 + v)))
    exact bodyPost_ret (v := .agg #[.int .i64 6, .int .i64 (1 + v)]) (by simp [results, Tryz.results88, go_sem, u0, u1]) rfl ⟨6, (1 + v), rfl, gr_new (gr_new G (Nat.le_refl w.heap.size) _ _) (Nat.le_refl w.heap.size) _ _, h2.kept (row := some w.heap.size) (gr_set (gr_set (gr_refl _ _) _ _) _ _) (fun r e => by injection e with e; omega)⟩
  · go_wp2_with fail
    refine (below b n c q _ 25 hn h1 (by omega)).mono ?_
    rintro e w2 ⟨v, hv, rfl, g2, h2⟩
    replace K := K.grown g2 (fun e => by injection e with e; omega)
    replace G := gr_trans G g2
    obtain ⟨c0, c1, f0, f1⟩ := gt.two K
    go_wp2_with fail
    obtain ⟨u0, u1, _, _⟩ := gt.two (gt.set2 K (.int .i64 6) (.int .i64 (1 + v)))
    exact bodyPost_ret (v := .agg #[.int .i64 6, .int .i64 (1 + v)]) (by simp [results, Tryz.results88, go_sem, u0, u1]) rfl ⟨6, (1 + v), rfl, gr_new (gr_new G (Nat.le_refl w.heap.size) _ _) (Nat.le_refl w.heap.size) _ _, h2.kept (row := some w.heap.size) (gr_set (gr_set (gr_refl _ _) _ _) _ _) (fun r e => by injection e with e; omega)⟩
  · go_wp2_with fail
    refine (below b n c q _ 25 hn h1 (by omega)).mono ?_
    rintro e w2 ⟨v, hv, rfl, g2, h2⟩
    replace K := K.grown g2 (fun e => by injection e with e; omega)
    replace G := gr_trans G g2
    obtain ⟨c0, c1, f0, f1⟩ := gt.two K
    go_wp2_with fail
    obtain ⟨u0, u1, _, _⟩ := gt.two (gt.set2 K (.int .i64 6) (.int .i64 (1 + v)))
    exact bodyPost_ret (v := .agg #[.int .i64 6, .int .i64 (1 + v)]) (by simp [results, Tryz.results88, go_sem, u0, u1]) rfl ⟨6, (1 + v), rfl, gr_new (gr_new G (Nat.le_refl w.heap.size) _ _) (Nat.le_refl w.heap.size) _ _, h2.kept (row := some w.heap.size) (gr_set (gr_set (gr_refl _ _) _ _) _ _) (fun r e => by injection e with e; omega)⟩
end Go.Proofs.YtdikhdfpcipdbaaGreatDoor.wd
