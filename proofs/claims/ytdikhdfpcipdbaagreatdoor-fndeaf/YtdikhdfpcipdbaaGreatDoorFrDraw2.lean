/- Frames drawn: l4DrawAny, DrawFrameOk, DrawShowFrame; pick. -/
import Derived.Test.YtdikhdfpcipdbaaGreatDoorFrDraw
namespace Go.Proofs.YtdikhdfpcipdbaaGreatDoor.frm
open Go.ChangeShapes Go.WideShapes Go.ChangeAt Go.RowKit
open Go.Proofs.YtdikhdfpcipdbaaGreatDoor.nums Go.Proofs.YtdikhdfpcipdbaaGreatDoor.mem Go.Proofs.YtdikhdfpcipdbaaGreatDoor.txt Go.Proofs.YtdikhdfpcipdbaaGreatDoor.fix Go.Proofs.YtdikhdfpcipdbaaGreatDoor.cur
open Go.Proofs.YtdikhdfpcipdbaaGreatDoor.tab (Ret quiet_w wpList_make_has)
set_option linter.unusedVariables false

/-- Some frame is drawn. -/
def AnyF (b : Option Addr) (n c q : Nat) (w : World) (e : Ending) (w' : World) : Prop :=
  ∃ (k sq : Int) (vs : List Int) (a : Option Addr) (cap : Nat), e = .returned (fr k sq a vs.length cap) ∧ Ints w' a vs ∧ vs.length ≤ 6 ∧ (∀ x : Addr, a = some x → w.heap.size ≤ x.block) ∧ w.grownBy w' (some q) ∧ Cur b n c w' q
theorem Ints.set3 {w : World} {a : Option Addr} {vs : List Int} {r : Nat} (h : Ints w a vs) (hn : ∀ x : Addr, a = some x → x.block ≠ r) (u0 u1 u2 : Value) : Ints (((w.setCell ⟨r, 0, none⟩ u0).setCell ⟨r, 1, none⟩ u1).setCell ⟨r, 2, none⟩ u2) a vs :=
  ((h.set r 0 u0 hn).set r 1 u1 hn).set r 2 u2 hn
theorem Cur.set {b : Option Addr} {n c q r : Nat} {w : World} (h : Cur b n c w q) (hr : q < r) (i : Nat) (u : Value) : Cur b n c (w.setCell ⟨r, i, none⟩ u) q :=
  h.kept (gr_set (gr_refl _ (some r)) _ _) (fun r' e => by injection e with e; omega)
theorem ints_head {w : World} {g o : Nat} {cs : Array Value} {vs : List Int} (hc : Has w g 2 cs) (hj : ∀ j, j < vs.length → cs[o + j]? = some (.int .i64 (nth vs j))) (hne : vs ≠ []) (v : Int) :
    Ints (w.setCell ⟨g, o, none⟩ (.int .i64 v)) (some ⟨g, o, none⟩) (v :: vs.drop 1) := by
  intro j hjl
  have hl : (v :: vs.drop 1).length = vs.length := by
    have := List.length_pos_iff.2 hne
    simp; omega
  rw [hl] at hjl
  have h2 := hc.set o (.int .i64 v)
  refine ⟨_, rfl, h2.lt, ?_⟩
  rw [addo, h2.cell]
  have hs : o < cs.size := by
    have h0 := hj 0 (List.length_pos_iff.2 hne)
    have := (Array.getElem?_eq_some_iff.1 h0).1
    omega
  cases j with
  | zero => rw [Nat.add_zero, Array.getElem?_setIfInBounds_self_of_lt hs]; rfl
  | succ j =>
    rw [Array.getElem?_setIfInBounds_ne (by omega), hj (j + 1) hjl]
    congr 2
    rw [nth_lt hjl, nth_lt (by rw [hl]; exact hjl)]
    simp

set_option maxRecDepth 100000 in
set_option maxHeartbeats 4000000 in
theorem drawAny (b : Option Addr) (n c q : Nat) (w : World) (hn : n ≤ 4096) (h : Cur b n c w q) : Calls Tryz.prog 23 #[.pointer (some ⟨q, 0, none⟩)] w (AnyF b n c q w) := by
  have hq := h.lt
  have H0 := Has.fresh w 50 #[.int .i64 0, .int .i64 0, .slice none 0 0]
  have g0 := gr_none (World.grownBy_alloc w (Obj.cells #[.int .i64 0, .int .i64 0, .slice none 0 0] 50) none) (some q)
  have hsz : (w.alloc (Obj.cells #[.int .i64 0, .int .i64 0, .slice none 0 0] 50)).heap.size = w.heap.size + 1 := by simp
  go_enter Tryz.func23, Tryz.ntmps23
  go_wp2_with fail
  refine (drawF b n c q _ hn (h.alloc _)).mono ?_
  rintro e w1 ⟨k, sq, vs, a, cap, rfl, hO, hne, hl6, g1, h1⟩
  rw [hsz] at hO
  have hs1 : w.heap.size + 1 ≤ w1.heap.size := by have := g1.size; rw [hsz] at this; exact this
  replace g0 := gr_alloc (gr_trans g0 g1) (Obj.cells #[.int .i64 k, .int .i64 sq, .slice a vs.length cap] 50)
  replace H0 := (H0.grown g1 (fun e => by injection e with e; omega)).alloc (Obj.cells #[.int .i64 k, .int .i64 sq, .slice a vs.length cap] 50)
  have HX := Has.fresh w1 50 #[.int .i64 k, .int .i64 sq, .slice a vs.length cap]
  replace h1 := h1.alloc (Obj.cells #[.int .i64 k, .int .i64 sq, .slice a vs.length cap] 50)
  replace hO := hO.kept (World.grownBy_alloc w1 (Obj.cells #[.int .i64 k, .int .i64 sq, .slice a vs.length cap] 50) none)
  clear g1 hsz h
  go_wp2_with fail
  refine (once b n c q _ 8 hn h1 (by omega)).mono ?_
  rintro e w2 ⟨v, rfl, g2, h2⟩
  replace g0 := gr_trans g0 g2
  replace H0 := H0.grown g2 (fun e => by injection e with e; omega)
  replace HX := HX.grown g2 (fun e => by injection e with e; omega)
  replace hO := hO.grown g2 (fun g hg e => by injection e with e; omega)
  have hs2 := HX.lt
  clear g2 h1
  obtain ⟨g, o, cs, ha, hbg, hcs, hj⟩ := hO
  have ha' := ha hne
  subst ha'
  clear ha
  have hgb := hcs.lt
  generalize hbx : w1.heap.size = bx at *
  have hgx : g ≠ bx := fun e => by subst e; have := hcs.symm.trans HX; simp at this
  have hI : Ints w2 (some ⟨g, o, none⟩) vs := fun j hj' => ⟨_, rfl, hcs.lt, by rw [addo, hcs.cell]; exact hj j hj'⟩
  have hgr : ∀ x : Addr, some (⟨g, o, none⟩ : Addr) = some x → x.block ≠ w.heap.size := fun x e => by injection e with e; subst e; show g ≠ _; omega
  have hgg : ∀ x : Addr, some (⟨g, o, none⟩ : Addr) = some x → w.heap.size ≤ x.block := fun x e => by injection e with e; subst e; show _ ≤ g; omega
  cases v
  · obtain ⟨b0, b1, b2, f0, f1, f2⟩ := three HX
    obtain ⟨p0, p1, p2, q0, q1, q2⟩ := three H0
    go_wp2_with fail
    obtain ⟨r0, r1, r2, _, _, _⟩ := three (frm.set3 H0 (.int .i64 k) (.int .i64 sq) (.slice (some ⟨g, o, none⟩) vs.length cap))
    exact bodyPost_ret (v := fr k sq (some ⟨g, o, none⟩) vs.length cap) (by simp [results, Tryz.results23, go_sem, r0, r1, r2]) rfl ⟨k, sq, vs, _, cap, rfl, hI.set3 hgr _ _ _, hl6, hgg, gr_new (gr_new (gr_new g0 (Nat.le_refl _) _ _) (Nat.le_refl _) _ _) (Nat.le_refl _) _ _, Cur.set (Cur.set (Cur.set h2 hq _ _) hq _ _) hq _ _⟩
  · go_wp2_with fail
    refine (below b n c q _ 3 hn h2 (by omega)).mono ?_
    rintro e w3 ⟨y, ⟨y0, y1⟩, rfl, g3, h3⟩
    replace g0 := gr_trans g0 g3
    replace H0 := H0.grown g3 (fun e => by injection e with e; omega)
    replace HX := HX.grown g3 (fun e => by injection e with e; omega)
    replace hcs := hcs.grown g3 (fun e => by injection e with e; omega)
    replace hI := hI.grown g3 (fun x e er => by injection e with e; subst e; injection er with er; change g = q at er; omega)
    have hs3 := HX.lt
    clear g3 h2 hgb hs2
    obtain ⟨b0, b1, b2, f0, f1, f2⟩ := three HX
    have hbR : w.heap.size ≠ bx := by omega
    have hy : y = 0 ∨ y = 1 ∨ y = 2 := by omega
    rcases hy with rfl | rfl | rfl
    · go_wp2_with fail
      refine (from_ b n c q _ 0 5 hn h3 (by omega) (by omega) (by omega) (by omega)).mono ?_
      rintro e w4 ⟨z, _, rfl, g4, h4⟩
      replace g0 := gr_trans g0 g4
      replace H0 := H0.grown g4 (fun e => by injection e with e; omega)
      replace HX := HX.grown g4 (fun e => by injection e with e; omega)
      replace hI := hI.grown g4 (fun x e er => by injection e with e; subst e; injection er with er; change g = q at er; omega)
      clear g4 h3 b0 b1 b2 f0 f1 f2 hcs
      obtain ⟨b0, b1, b2, f0, f1, f2⟩ := three HX
      obtain ⟨p0, p1, p2, q0, q1, q2⟩ := three H0
      go_wp2_with fail
      obtain ⟨r0, r1, r2, _, _, _⟩ := three (frm.set3 (has_other H0 hbR 0 (.int .i64 z)) (.int .i64 z) (.int .i64 sq) (.slice (some ⟨g, o, none⟩) vs.length cap))
      exact bodyPost_ret (v := fr z sq (some ⟨g, o, none⟩) vs.length cap) (by simp [results, Tryz.results23, go_sem, r0, r1, r2]) rfl ⟨z, sq, vs, _, cap, rfl, (hI.set bx 0 _ (fun x e => by injection e with e; subst e; exact hgx)).set3 hgr _ _ _, hl6, hgg, gr_new (gr_new (gr_new (gr_new g0 (by omega) _ _) (Nat.le_refl _) _ _) (Nat.le_refl _) _ _) (Nat.le_refl _) _ _, Cur.set (Cur.set (Cur.set (Cur.set h4 (by omega) _ _) hq _ _) hq _ _) hq _ _⟩
    · replace g0 := gr_alloc g0 (Obj.cells #[.int .i64 (-1), .int .i64 100] 2)
      have HT := Has.fresh w3 2 #[.int .i64 (-1), .int .i64 100]
      go_wp2_with fail
      refine (below b n c q _ 2 hn (h3.alloc _) (by omega)).mono ?_
      rintro e w4 ⟨y, ⟨y0, y1⟩, rfl, g4, h4⟩
      replace H0 := H0.alloc (Obj.cells #[.int .i64 (-1), .int .i64 100] 2)
      replace HX := HX.alloc (Obj.cells #[.int .i64 (-1), .int .i64 100] 2)
      replace hI := hI.kept (World.grownBy_alloc w3 (Obj.cells #[.int .i64 (-1), .int .i64 100] 2) none)
      replace HT := HT.grown g4 (fun e => by injection e with e; omega)
      obtain ⟨z, t, rfl, ht⟩ : ∃ (z : Int) (t : Nat), y = (t : Int) ∧ w4.cell? ⟨w3.heap.size, t, none⟩ = some (.int .i64 z) := by
        have hy : y = 0 ∨ y = 1 := by omega
        rcases hy with rfl | rfl
        · exact ⟨-1, 0, rfl, HT.cell 0⟩
        · exact ⟨100, 1, rfl, HT.cell 1⟩
      have htl : t < 2 := by omega
      replace g0 := gr_trans g0 g4
      replace H0 := H0.grown g4 (fun e => by injection e with e; omega)
      replace HX := HX.grown g4 (fun e => by injection e with e; omega)
      replace hI := hI.grown g4 (fun x e er => by injection e with e; subst e; injection er with er; change g = q at er; omega)
      clear g4 h3 b0 b1 b2 f0 f1 f2 hcs
      obtain ⟨b0, b1, b2, f0, f1, f2⟩ := three HX
      obtain ⟨p0, p1, p2, q0, q1, q2⟩ := three H0
      go_wp2_with fail
      obtain ⟨r0, r1, r2, _, _, _⟩ := three (frm.set3 (has_other H0 hbR 1 (.int .i64 z)) (.int .i64 k) (.int .i64 z) (.slice (some ⟨g, o, none⟩) vs.length cap))
      exact bodyPost_ret (v := fr k z (some ⟨g, o, none⟩) vs.length cap) (by simp [results, Tryz.results23, go_sem, r0, r1, r2]) rfl ⟨k, z, vs, _, cap, rfl, (hI.set bx 1 _ (fun x e => by injection e with e; subst e; exact hgx)).set3 hgr _ _ _, hl6, hgg, gr_new (gr_new (gr_new (gr_new g0 (by omega) _ _) (Nat.le_refl _) _ _) (Nat.le_refl _) _ _) (Nat.le_refl _) _ _, Cur.set (Cur.set (Cur.set (Cur.set h4 (by omega) _ _) hq _ _) hq _ _) hq _ _⟩
    · have hxd : Has w3.drew bx _ _ := HX
      have h3d : Cur b n c w3.drew q := h3
      have hcd : Has w3.drew g _ _ := hcs
      have hcall : Calls Tryz.prog 32 #[.pointer (some ⟨q, 0, none⟩)] w3.drew fun e w' => ∃ v, e = .returned v ∧ ∃ x : Int, v = .int .i64 x ∧ w3.drew.grownBy w' (some q) ∧ Cur b n c w' q :=
        (size b n c q _ hn h3d).mono fun e w' ⟨x, _, he, hg, hc⟩ => ⟨_, he, x, rfl, hg, hc⟩
      have hpos := List.length_pos_iff.2 hne
      have hpos2 : (0 : Int) < vs.length := by omega
      go_wp2_with fail
      go_region_law (refine step_call (by rfl) 32 _ (by go_simp) _ hcall ?_; rintro _ w4 ⟨v, rfl, g4, h4⟩; have HX4 := hxd.grown g4 (fun e => by injection e with e; omega); obtain ⟨c0, c1, c2, _, _, _⟩ := three HX4; have hc4 := hcd.grown g4 (fun e => by injection e with e; omega); have d0 := (hc4.cell o).trans (hj 0 hpos); have e0 := hc4.frozen o)
      all_goals have hI4 := ints_head hc4 hj hne v
      all_goals have hl4 : Hid (vs.length = (v :: vs.drop 1).length) := Lib.hid (by simp; omega)
      all_goals have H4 := has_other ((H0.drewN 1).grown g4 (fun e => by injection e with e; omega)) (show w.heap.size ≠ g by omega) o (.int .i64 v)
      all_goals have HX5 := has_other HX4 (fun e => hgx e.symm) o (.int .i64 v)
      all_goals have g5 := gr_new (gr_trans (gr_drewN g0 1) g4) (show w.heap.size ≤ g by omega) o (.int .i64 v)
      all_goals have h5 := Cur.set h4 (show q < g by omega) o (.int .i64 v)
      all_goals clear hxd h3d hcd hcall HX4 c0 c1 c2 hc4 d0 e0 g4 h4 b0 b1 b2 f0 f1 f2 HX hcs hI h3 g0 H0 hj
      all_goals generalize w4.setCell ⟨g, o, none⟩ (.int .i64 v) = w6 at *
      all_goals obtain ⟨b0, b1, b2, f0, f1, f2⟩ := three HX5
      all_goals obtain ⟨p0, p1, p2, q0, q1, q2⟩ := three H4
      all_goals go_wp2_with fail
      all_goals obtain ⟨r0, r1, r2, _, _, _⟩ := three (frm.set3 H4 (.int .i64 k) (.int .i64 sq) (.slice (some ⟨g, o, none⟩) vs.length cap))
      all_goals exact bodyPost_ret (v := fr k sq (some ⟨g, o, none⟩) vs.length cap) (by simp [results, Tryz.results23, go_sem, r0, r1, r2]) rfl ⟨k, sq, v :: vs.drop 1, _, cap, by rw [← hl4.out], hI4.set3 hgr _ _ _, by have := hl4.out; omega, hgg, gr_new (gr_new (gr_new g5 (Nat.le_refl _) _ _) (Nat.le_refl _) _ _) (Nat.le_refl _) _ _, Cur.set (Cur.set (Cur.set h5 hq _ _) hq _ _) hq _ _⟩

/-- Some frame, of new memory. -/
def NewF (w : World) (e : Ending) (w' : World) : Prop := ∃ (k sq : Int) (vs : List Int) (a : Option Addr) (cap : Nat), e = .returned (fr k sq a vs.length cap) ∧ Ints w' a vs ∧ vs.length ≤ 6 ∧ (∀ x : Addr, a = some x → w.heap.size ≤ x.block) ∧ w.grownBy w' none

set_option maxHeartbeats 1000000 in
theorem pick (b : Option Addr) (n c q : Nat) (s m : Int) (w : World) (hn : n ≤ 4096) (hb : Bytes w q b n) (hs0 : 0 ≤ s) (hs1 : s ≤ 100) (hm : 1 ≤ m) (hm2 : m ≤ 1000000) :
    Calls Tryz.prog 19 #[.slice b n c, .int .i64 s, .int .i64 m] w fun e w' => ∃ r : Int, 0 ≤ r ∧ r < m ∧ e = .returned (.int .i64 r) ∧ w = w' := by
  go_enter Tryz.func19, Tryz.ntmps19
  go_wp2_with fail
  go_loopw [7, 8] (fun k i wr => w = wr ∧ ∃ (j : Nat) (v : Int), j ≤ n ∧ i = .int .i64 j ∧ k = .int .i64 v ∧ 0 ≤ v ∧ v ≤ 2000000) (fun k i _ => n - (intOf i).toNat)
  case atStart => exact ⟨rfl, 0, _, Nat.zero_le _, rfl, rfl, by omega, by omega⟩
  case round =>
    obtain ⟨rfl, j, v, hj, rfl, rfl, hv0, hv1⟩ := hrel
    by_cases hlt : j < n
    · obtain ⟨x, z, rfl, hx, hz, hz0, hz1⟩ := hb j hlt
      go_wp2_with fail
      go_roundw
      case rel => exact ⟨trivial, j + 1, _, by omega, by go_num, rfl, by omega, by omega⟩
      case measure => simp [intOf]; omega
    · obtain rfl : j = n := by omega
      go_wp2_with fail
      go_ret
      exact ⟨v % m, Int.emod_nonneg _ (by omega), Int.emod_lt_of_pos _ (by omega), rfl, rfl⟩
end Go.Proofs.YtdikhdfpcipdbaaGreatDoor.frm
