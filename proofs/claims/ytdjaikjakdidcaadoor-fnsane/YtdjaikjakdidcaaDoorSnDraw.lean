/- The draws of chapter 8: whatever the bytes, a range, a reading, a value; and nothing that was there is another. -/
import Derived.Test.YtdjaikjakdidcaaDoorRdDraw
import Derived.Test.YtdjaikjakdidcaaDoorSn
import Derived.Deep.DeepCutAuto
namespace Go.Proofs.YtdjaikjakdidcaaDoor.sane
open Go.ChangeShapes Go.WideShapes Go.ChangeAt Go.RowKit
open Go.Proofs.YtdjaikjakdidcaaDoor.nums Go.Proofs.YtdjaikjakdidcaaDoor.mem Go.Proofs.YtdjaikjakdidcaaDoor.cur
open Go.Proofs.YtdjaikjakdidcaaDoor.tab (Ret quiet_w wpList_make_has add_off)
set_option linter.unusedVariables false

/-- A draw of a range from the cursor in block q. -/
def DrawnG (b : Option Addr) (n c : Nat) (w : World) (q : Nat) (e : Ending) (w' : World) : Prop :=
  ∃ (lo hi ra : Int), e = .returned (.agg #[.int .i64 lo, .int .i64 hi, .int .i64 ra]) ∧ w.grownBy w' (some q) ∧ Cur b n c w' q

set_option maxHeartbeats 2000000 in
theorem drawG (b : Option Addr) (n c q : Nat) (w : World) (hn : n ≤ 4096) (h : Cur b n c w q) :
    Calls Tryd.prog 33 #[.pointer (some ⟨q, 0, none⟩)] w (DrawnG b n c w q) := by
  have hq := h.lt
  have a0 := (Has.fresh w 25 #[.int .i64 0, .int .i64 0, .int .i64 0]).alloc (Obj.cells #[.int .i64 0, .int .i64 400, .int .i64 20] 25)
  have a1 := rd.fresh1 w (Obj.cells #[.int .i64 0, .int .i64 0, .int .i64 0] 25) 25 #[.int .i64 0, .int .i64 400, .int .i64 20]
  have g0 : w.grownBy ((w.alloc (Obj.cells #[.int .i64 0, .int .i64 0, .int .i64 0] 25)).alloc (Obj.cells #[.int .i64 0, .int .i64 400, .int .i64 20] 25)) (some q) := gr_alloc (World.grownBy_alloc _ _ _) _
  go_enter Tryd.func33, Tryd.ntmps33
  go_wp2_with fail
  refine (once b n c q _ 3 hn ((h.alloc _).alloc _) (by omega)).mono ?_
  rintro e w3 ⟨u, rfl, g3, h3⟩
  replace a0 := a0.grown g3 (fun e => by injection e with e; omega)
  replace a1 := a1.grown g3 (fun e => by injection e with e; omega)
  replace g0 := gr_trans g0 g3
  clear g3
  cases u
  · go_wp2_with fail
    refine (once b n c q _ 10 hn h3 (by omega)).mono ?_
    rintro e w5 ⟨u2, rfl, g5, h5⟩
    replace a0 := a0.grown g5 (fun e => by injection e with e; omega)
    replace a1 := a1.grown g5 (fun e => by injection e with e; omega)
    replace g0 := gr_trans g0 g5
    clear g5
    cases u2
    · obtain ⟨c0, c1, c2, f0, f1, f2⟩ := rd.three a0
      obtain ⟨d0, d1, d2, e0, e1, e2⟩ := rd.three a1
      go_wp2_with fail
      obtain ⟨k0, k1, k2, _, _, _⟩ := rd.three (rd.set3 a0 (.int .i64 (0)) (.int .i64 (400)) (.int .i64 (20)))
      exact bodyPost_ret (v := .agg #[.int .i64 (0), .int .i64 (400), .int .i64 (20)]) (by simp [results, Tryd.results33, go_sem, k0, k1, k2]) rfl ⟨0, 400, 20, rfl, gr_new (gr_new (gr_new g0 (by omega) _ _) (by omega) _ _) (by omega) _ _, h5.kept (row := some w.heap.size) (gr_set (gr_set (gr_set (gr_refl _ _) _ _) _ _) _ _) (fun r e => by injection e with e; omega)⟩
    · go_wp2_with fail
      refine (below b n c q _ 2 hn h5 (by omega)).mono ?_
      rintro e w6 ⟨k, ⟨y0, y1⟩, rfl, g6, h6⟩
      replace a0 := a0.grown g6 (fun e => by injection e with e; omega)
      replace a1 := a1.grown g6 (fun e => by injection e with e; omega)
      replace g0 := gr_trans g0 g6
      clear g6
      obtain rfl | rfl : k = 0 ∨ k = 1 := by omega
      · go_wp2_with fail
        refine (cur.size b n c q _ hn h6).mono ?_
        rintro e w7 ⟨x, hx, rfl, g7, h7⟩
        have hl1 := a1.lt
        replace a0 := (a0.grown g7 (fun e => by injection e with e; omega)).set_other (g' := w.heap.size + 1) (by omega) 0 (.int .i64 x)
        replace a1 := a1.grown g7 (fun e => by injection e with e; omega)
        replace g0 := gr_new (gr_trans g0 g7) (g := w.heap.size + 1) (by omega) 0 (.int .i64 x)
        obtain ⟨d0, d1, d2, e0, e1, e2⟩ := rd.three a1
        obtain ⟨c0, c1, c2, f0, f1, f2⟩ := rd.three a0
        have b1 := a1.put 0 (.int .i64 x) rfl
        obtain ⟨m0, m1, m2, p0, p1, p2⟩ := rd.three b1
        have hcur : Cur b n c (w7.setCell ⟨w.heap.size + 1, 0, none⟩ (.int .i64 x)) q := h7.kept (row := some (w.heap.size + 1)) (gr_set (gr_refl _ _) _ _) (fun r e => by injection e with e; omega)
        go_wp2_with fail
        obtain ⟨k0, k1, k2, _, _, _⟩ := rd.three (rd.set3 a0 (.int .i64 (x)) (.int .i64 (400)) (.int .i64 (20)))
        exact bodyPost_ret (v := .agg #[.int .i64 (x), .int .i64 (400), .int .i64 (20)]) (by simp [results, Tryd.results33, go_sem, k0, k1, k2]) rfl ⟨x, 400, 20, rfl, gr_new (gr_new (gr_new g0 (by omega) _ _) (by omega) _ _) (by omega) _ _, hcur.kept (row := some w.heap.size) (gr_set (gr_set (gr_set (gr_refl _ _) _ _) _ _) _ _) (fun r e => by injection e with e; omega)⟩
      · have hf := Has.fresh w6 2 #[Value.int .i64 0, .int .i64 1000000, .int .i64 1000001]
        have hz := h6.lt
        have hz1 := a1.lt
        go_wp2_with fail
        refine (below b n c q _ 3 hn (h6.alloc _) (by omega)).mono ?_
        rintro e w7 ⟨x, ⟨z0, z1⟩, rfl, g7, h7⟩
        replace hf := hf.grown g7 (fun e => by injection e with e; omega)
        replace a0 := (a0.alloc _).grown g7 (fun e => by injection e with e; omega)
        replace a1 := (a1.alloc _).grown g7 (fun e => by injection e with e; omega)
        replace g0 := gr_trans (gr_alloc g0 _) g7
        obtain ⟨k, rfl⟩ := Int.eq_ofNat_of_zero_le z0
        have hk : k < 3 := by omega
        have hc := hf.cell k
        rw [rd.pick3_cell _ _ _ k hk] at hc
        generalize rd.pick3 0 1000000 1000001 k = P at hc
        obtain ⟨d0, d1, d2, e0, e1, e2⟩ := rd.three a1
        have hcur : Cur b n c (w7.setCell ⟨w.heap.size + 1, 2, none⟩ (.int .i64 P)) q := h7.kept (row := some (w.heap.size + 1)) (gr_set (gr_refl _ _) _ _) (fun r e => by injection e with e; omega)
        replace a0 := a0.set_other (g' := w.heap.size + 1) (by omega) 2 (.int .i64 P)
        have b1 := a1.put 2 (.int .i64 P) rfl
        obtain ⟨m0, m1, m2, p0, p1, p2⟩ := rd.three b1
        obtain ⟨c0, c1, c2, f0, f1, f2⟩ := rd.three a0
        replace g0 := gr_new g0 (g := w.heap.size + 1) (by omega) 2 (.int .i64 P)
        go_wp2_with fail
        obtain ⟨k0, k1, k2, _, _, _⟩ := rd.three (rd.set3 a0 (.int .i64 (0)) (.int .i64 (400)) (.int .i64 (P)))
        exact bodyPost_ret (v := .agg #[.int .i64 (0), .int .i64 (400), .int .i64 (P)]) (by simp [results, Tryd.results33, go_sem, k0, k1, k2]) rfl ⟨0, 400, P, rfl, gr_new (gr_new (gr_new g0 (by omega) _ _) (by omega) _ _) (by omega) _ _, hcur.kept (row := some w.heap.size) (gr_set (gr_set (gr_set (gr_refl _ _) _ _) _ _) _ _) (fun r e => by injection e with e; omega)⟩
  · go_wp2_with fail
    refine (below b n c q _ 90 hn h3 (by omega)).mono ?_
    rintro e w31 ⟨x1, ⟨p0, p1⟩, rfl, g31, h31⟩
    go_wp2_with fail
    refine (below b n c q _ 90 hn h31 (by omega)).mono ?_
    rintro e w32 ⟨x2, ⟨p2, p3⟩, rfl, g32, h32⟩
    go_wp2_with fail
    refine (below b n c q _ 30 hn h32 (by omega)).mono ?_
    rintro e w33 ⟨x3, ⟨p4, p5⟩, rfl, g33, h33⟩
    have g34 := gr_trans (gr_trans g31 g32) g33
    replace a0 := a0.grown g34 (fun e => by injection e with e; omega)
    replace a1 := a1.grown g34 (fun e => by injection e with e; omega)
    replace g0 := gr_trans g0 g34
    clear g31 g32 g33 g34 h31 h32
    obtain ⟨d0, d1, d2, e0, e1, e2⟩ := rd.three a1
    go_upto_region 4 with fail
    obtain ⟨lo, hlo⟩ : ∃ y, y = x1 - 40 := ⟨_, rfl⟩
    obtain ⟨hi, hhi⟩ : ∃ y, y = 50 + x2 := ⟨_, rfl⟩
    obtain ⟨ra, hra⟩ : ∃ y, y = 1 + x3 := ⟨_, rfl⟩
    rw [← hlo, ← hhi, ← hra]
    have hcu : Cur b n c (((w33.setCell ⟨w.heap.size + 1, 0, none⟩ (.int .i64 lo)).setCell ⟨w.heap.size + 1, 1, none⟩ (.int .i64 hi)).setCell ⟨w.heap.size + 1, 2, none⟩ (.int .i64 ra)) q := h33.kept (row := some (w.heap.size + 1)) (gr_set (gr_set (gr_set (gr_refl _ _) _ _) _ _) _ _) (fun r e => by injection e with e; omega)
    replace a0 := ((a0.set_other (g' := w.heap.size + 1) (by omega) 0 (.int .i64 lo)).set_other (g' := w.heap.size + 1) (by omega) 1 (.int .i64 hi)).set_other (g' := w.heap.size + 1) (by omega) 2 (.int .i64 ra)
    replace a1 := rd.set3 a1 (.int .i64 lo) (.int .i64 hi) (.int .i64 ra)
    replace g0 := gr_new (gr_new (gr_new g0 (g := w.heap.size + 1) (by omega) 0 (.int .i64 lo)) (g := w.heap.size + 1) (by omega) 1 (.int .i64 hi)) (g := w.heap.size + 1) (by omega) 2 (.int .i64 ra)
    generalize (((w33.setCell ⟨w.heap.size + 1, 0, none⟩ (.int .i64 lo)).setCell ⟨w.heap.size + 1, 1, none⟩ (.int .i64 hi)).setCell ⟨w.heap.size + 1, 2, none⟩ (.int .i64 ra)) = w4 at *
    clear d0 d1 d2 e0 e1 e2 hlo hhi hra
    go_wp2_with fail
    refine (once b n c q _ 10 hn hcu (by omega)).mono ?_
    rintro e w5 ⟨u2, rfl, g5, h5⟩
    replace a0 := a0.grown g5 (fun e => by injection e with e; omega)
    replace a1 := a1.grown g5 (fun e => by injection e with e; omega)
    replace g0 := gr_trans g0 g5
    clear g5
    cases u2
    · obtain ⟨c0, c1, c2, f0, f1, f2⟩ := rd.three a0
      obtain ⟨d0, d1, d2, e0, e1, e2⟩ := rd.three a1
      go_wp2_with fail
      obtain ⟨k0, k1, k2, _, _, _⟩ := rd.three (rd.set3 a0 (.int .i64 (lo)) (.int .i64 (hi)) (.int .i64 (ra)))
      exact bodyPost_ret (v := .agg #[.int .i64 (lo), .int .i64 (hi), .int .i64 (ra)]) (by simp [results, Tryd.results33, go_sem, k0, k1, k2]) rfl ⟨lo, hi, ra, rfl, gr_new (gr_new (gr_new g0 (by omega) _ _) (by omega) _ _) (by omega) _ _, h5.kept (row := some w.heap.size) (gr_set (gr_set (gr_set (gr_refl _ _) _ _) _ _) _ _) (fun r e => by injection e with e; omega)⟩
    · go_wp2_with fail
      refine (below b n c q _ 2 hn h5 (by omega)).mono ?_
      rintro e w6 ⟨k, ⟨y0, y1⟩, rfl, g6, h6⟩
      replace a0 := a0.grown g6 (fun e => by injection e with e; omega)
      replace a1 := a1.grown g6 (fun e => by injection e with e; omega)
      replace g0 := gr_trans g0 g6
      clear g6
      obtain rfl | rfl : k = 0 ∨ k = 1 := by omega
      · go_wp2_with fail
        refine (cur.size b n c q _ hn h6).mono ?_
        rintro e w7 ⟨x, hx, rfl, g7, h7⟩
        have hl1 := a1.lt
        replace a0 := (a0.grown g7 (fun e => by injection e with e; omega)).set_other (g' := w.heap.size + 1) (by omega) 0 (.int .i64 x)
        replace a1 := a1.grown g7 (fun e => by injection e with e; omega)
        replace g0 := gr_new (gr_trans g0 g7) (g := w.heap.size + 1) (by omega) 0 (.int .i64 x)
        obtain ⟨d0, d1, d2, e0, e1, e2⟩ := rd.three a1
        obtain ⟨c0, c1, c2, f0, f1, f2⟩ := rd.three a0
        have b1 := a1.put 0 (.int .i64 x) rfl
        obtain ⟨m0, m1, m2, p0, p1, p2⟩ := rd.three b1
        have hcur : Cur b n c (w7.setCell ⟨w.heap.size + 1, 0, none⟩ (.int .i64 x)) q := h7.kept (row := some (w.heap.size + 1)) (gr_set (gr_refl _ _) _ _) (fun r e => by injection e with e; omega)
        go_wp2_with fail
        obtain ⟨k0, k1, k2, _, _, _⟩ := rd.three (rd.set3 a0 (.int .i64 (x)) (.int .i64 (hi)) (.int .i64 (ra)))
        exact bodyPost_ret (v := .agg #[.int .i64 (x), .int .i64 (hi), .int .i64 (ra)]) (by simp [results, Tryd.results33, go_sem, k0, k1, k2]) rfl ⟨x, hi, ra, rfl, gr_new (gr_new (gr_new g0 (by omega) _ _) (by omega) _ _) (by omega) _ _, hcur.kept (row := some w.heap.size) (gr_set (gr_set (gr_set (gr_refl _ _) _ _) _ _) _ _) (fun r e => by injection e with e; omega)⟩
      · have hf := Has.fresh w6 2 #[Value.int .i64 0, .int .i64 1000000, .int .i64 1000001]
        have hz := h6.lt
        have hz1 := a1.lt
        go_wp2_with fail
        refine (below b n c q _ 3 hn (h6.alloc _) (by omega)).mono ?_
        rintro e w7 ⟨x, ⟨z0, z1⟩, rfl, g7, h7⟩
        replace hf := hf.grown g7 (fun e => by injection e with e; omega)
        replace a0 := (a0.alloc _).grown g7 (fun e => by injection e with e; omega)
        replace a1 := (a1.alloc _).grown g7 (fun e => by injection e with e; omega)
        replace g0 := gr_trans (gr_alloc g0 _) g7
        obtain ⟨k, rfl⟩ := Int.eq_ofNat_of_zero_le z0
        have hk : k < 3 := by omega
        have hc := hf.cell k
        rw [rd.pick3_cell _ _ _ k hk] at hc
        generalize rd.pick3 0 1000000 1000001 k = P at hc
        obtain ⟨d0, d1, d2, e0, e1, e2⟩ := rd.three a1
        have hcur : Cur b n c (w7.setCell ⟨w.heap.size + 1, 2, none⟩ (.int .i64 P)) q := h7.kept (row := some (w.heap.size + 1)) (gr_set (gr_refl _ _) _ _) (fun r e => by injection e with e; omega)
        replace a0 := a0.set_other (g' := w.heap.size + 1) (by omega) 2 (.int .i64 P)
        have b1 := a1.put 2 (.int .i64 P) rfl
        obtain ⟨m0, m1, m2, p0, p1, p2⟩ := rd.three b1
        obtain ⟨c0, c1, c2, f0, f1, f2⟩ := rd.three a0
        replace g0 := gr_new g0 (g := w.heap.size + 1) (by omega) 2 (.int .i64 P)
        go_wp2_with fail
        obtain ⟨k0, k1, k2, _, _, _⟩ := rd.three (rd.set3 a0 (.int .i64 (lo)) (.int .i64 (hi)) (.int .i64 (P)))
        exact bodyPost_ret (v := .agg #[.int .i64 (lo), .int .i64 (hi), .int .i64 (P)]) (by simp [results, Tryd.results33, go_sem, k0, k1, k2]) rfl ⟨lo, hi, P, rfl, gr_new (gr_new (gr_new g0 (by omega) _ _) (by omega) _ _) (by omega) _ _, hcur.kept (row := some w.heap.size) (gr_set (gr_set (gr_set (gr_refl _ _) _ _) _ _) _ _) (fun r e => by injection e with e; omega)⟩
end Go.Proofs.YtdjaikjakdidcaaDoor.sane
