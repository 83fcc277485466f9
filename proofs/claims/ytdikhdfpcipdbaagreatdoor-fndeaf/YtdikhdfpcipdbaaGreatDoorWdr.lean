/- Chapter 18 of the model: a world is drawn. -/
import Derived.Test.YtdikhdfpcipdbaaGreatDoorAd
import Derived.Test.YtdikhdfpcipdbaaGreatDoorInvG
namespace Go.Proofs.YtdikhdfpcipdbaaGreatDoor.wd
open Go.ChangeShapes Go.WideShapes Go.ChangeAt Go.RowKit
open Go.Proofs.YtdikhdfpcipdbaaGreatDoor.nums Go.Proofs.YtdikhdfpcipdbaaGreatDoor.mem Go.Proofs.YtdikhdfpcipdbaaGreatDoor.cur
open Go.Proofs.YtdikhdfpcipdbaaGreatDoor.tab (Ret)
open Go.Proofs.YtdikhdfpcipdbaaGreatDoor.br (B P OkB Arg OwnB str bv Seven)
open Go.Proofs.YtdikhdfpcipdbaaGreatDoor.se (cons_of)
set_option linter.unusedVariables false

theorem litD21 (tl : List Value) (h : tl.length = 21) : ∃ x0 x1 x2 x3 x4 x5 x6 x7 x8 x9 x10 x11 x12 x13 x14 x15 x16 x17 x18 x19 x20 : Value, tl = [x0, x1, x2, x3, x4, x5, x6, x7, x8, x9, x10, x11, x12, x13, x14, x15, x16, x17, x18, x19, x20] := by
  obtain ⟨x0, t0, e0, h0⟩ := cons_of h
  obtain ⟨x1, t1, e1, h1⟩ := cons_of h0
  obtain ⟨x2, t2, e2, h2⟩ := cons_of h1
  obtain ⟨x3, t3, e3, h3⟩ := cons_of h2
  obtain ⟨x4, t4, e4, h4⟩ := cons_of h3
  obtain ⟨x5, t5, e5, h5⟩ := cons_of h4
  obtain ⟨x6, t6, e6, h6⟩ := cons_of h5
  obtain ⟨x7, t7, e7, h7⟩ := cons_of h6
  obtain ⟨x8, t8, e8, h8⟩ := cons_of h7
  obtain ⟨x9, t9, e9, h9⟩ := cons_of h8
  obtain ⟨x10, t10, e10, h10⟩ := cons_of h9
  obtain ⟨x11, t11, e11, h11⟩ := cons_of h10
  obtain ⟨x12, t12, e12, h12⟩ := cons_of h11
  obtain ⟨x13, t13, e13, h13⟩ := cons_of h12
  obtain ⟨x14, t14, e14, h14⟩ := cons_of h13
  obtain ⟨x15, t15, e15, h15⟩ := cons_of h14
  obtain ⟨x16, t16, e16, h16⟩ := cons_of h15
  obtain ⟨x17, t17, e17, h17⟩ := cons_of h16
  obtain ⟨x18, t18, e18, h18⟩ := cons_of h17
  obtain ⟨x19, t19, e19, h19⟩ := cons_of h18
  obtain ⟨x20, t20, e20, h20⟩ := cons_of h19
  have e21 := List.eq_nil_of_length_eq_zero h20
  exact ⟨x0, x1, x2, x3, x4, x5, x6, x7, x8, x9, x10, x11, x12, x13, x14, x15, x16, x17, x18, x19, x20, by rw [e0, e1, e2, e3, e4, e5, e6, e7, e8, e9, e10, e11, e12, e13, e14, e15, e16, e17, e18, e19, e20, e21]⟩
theorem litE21 {C : Prop} (tl : List Value) (h : tl.length = 21) (H : ∀ x0 x1 x2 x3 x4 x5 x6 x7 x8 x9 x10 x11 x12 x13 x14 x15 x16 x17 x18 x19 x20 : Value, tl = [x0, x1, x2, x3, x4, x5, x6, x7, x8, x9, x10, x11, x12, x13, x14, x15, x16, x17, x18, x19, x20] → C) : C := by
  have e := litD21 tl h
  revert H
  obtain ⟨x0, x1, x2, x3, x4, x5, x6, x7, x8, x9, x10, x11, x12, x13, x14, x15, x16, x17, x18, x19, x20, et⟩ := e
  intro H
  exact H x0 x1 x2 x3 x4 x5 x6 x7 x8 x9 x10 x11 x12 x13 x14 x15 x16 x17 x18 x19 x20 et
theorem absD10 {P : Program} {c : Code} {Q : Exit → Act → World → Prop} {a : Act} {w : World} {n : Nat} (i0 i1 i2 i3 i4 i5 i6 i7 i8 i9 : Nat) {y0 y1 y2 y3 y4 y5 y6 y7 y8 y9 : Value}
    (h : ∀ a0 : Act, a0.tmps.size = n → a0.defers = [] → a0.tmps[i0]? = some y0 → a0.tmps[i1]? = some y1 → a0.tmps[i2]? = some y2 → a0.tmps[i3]? = some y3 → a0.tmps[i4]? = some y4 → a0.tmps[i5]? = some y5 → a0.tmps[i6]? = some y6 → a0.tmps[i7]? = some y7 → a0.tmps[i8]? = some y8 → a0.tmps[i9]? = some y9 → c.wp P Q a0 w)
    (h1 : a.tmps.size = n) (h2 : a.defers = []) (k0 : a.tmps[i0]? = some y0) (k1 : a.tmps[i1]? = some y1) (k2 : a.tmps[i2]? = some y2) (k3 : a.tmps[i3]? = some y3) (k4 : a.tmps[i4]? = some y4) (k5 : a.tmps[i5]? = some y5) (k6 : a.tmps[i6]? = some y6) (k7 : a.tmps[i7]? = some y7) (k8 : a.tmps[i8]? = some y8) (k9 : a.tmps[i9]? = some y9) : c.wp P Q a w := h a h1 h2 k0 k1 k2 k3 k4 k5 k6 k7 k8 k9
/-- A right world comes back, drawn from the cursor in block q. -/
def DrawnW (b : Option Addr) (n c : Nat) (w : World) (q : Nat) (e : Ending) (w' : World) : Prop :=
  ∃ x p, e = .returned (wv x p) ∧ w.grownBy w' (some q) ∧ OwnB w.heap.size w' x.br p ∧ OkW x ∧ Cur b n c w' q
/-- What each operation of the round leaves. -/
def LeftW (z q : Nat) (x : V) (p : P) : Nat → Value → World → Prop
  | 0, v, _ => v = wv x p
  | 1, v, _ => v = .pointer (some ⟨q, 0, none⟩)
  | 2, v, _ => ∃ k N : Int, v = .agg #[.int .i64 k, .int .i64 N]
  | 3, v, w => ∃ y r d, v = .tuple #[wv y r, .bool d] ∧ OwnB z w y.br r ∧ OkW y
  | 4, v, w => ∃ y r d, v = .tuple #[wv y r, .bool d] ∧ OwnB z w y.br r ∧ OkW y
  | 5, v, w => ∃ y r, v = wv y r ∧ OwnB z w y.br r ∧ OkW y
  | 6, v, _ => ∃ d, v = .bool d
  | _, _, _ => False
theorem LeftW.low {z q : Nat} {x : V} {p : P} {j : Nat} {v : Value} {w w' : World} (h : LeftW z q x p j v w) (hg : w.grownBy w' (some q)) (hq : q < z) : LeftW z q x p j v w' := by
  match j, h with
  | 0, h => exact h
  | 1, h => exact h
  | 2, h => exact h
  | 3, ⟨y, r, d, h1, h2, h3⟩ => exact ⟨y, r, d, h1, h2.low hg hq, h3⟩
  | 4, ⟨y, r, d, h1, h2, h3⟩ => exact ⟨y, r, d, h1, h2.low hg hq, h3⟩
  | 5, ⟨y, r, h1, h2, h3⟩ => exact ⟨y, r, h1, h2.low hg hq, h3⟩
  | 6, h => exact h
/-- What is known of the world while the round goes on. -/
def Jw (b : Option Addr) (n c : Nat) (wr : World) (q : Nat) (D : Nat → Bool) (W : World) : Prop := wr.grownBy W (some q) ∧ (D 2 = false → wr.grownBy W none) ∧ (D 2 = true → Cur b n c W q)
theorem Jw.next {b : Option Addr} {n c : Nat} {wr W W' : World} {q : Nat} {D : Nat → Bool} (h : Jw b n c wr q D W) (g : W.grownBy W' none) {i : Nat} (hi : 2 ≠ i) : Jw b n c wr q (fun j => if j = i then true else D j) W' := by
  refine ⟨gr_trans h.1 (gr_none g _), fun e => ?_, fun e => ?_⟩
  · simp only [if_neg hi] at e
    exact gr_trans (h.2.1 e) g
  · simp only [if_neg hi] at e
    exact (h.2.2 e).kept (row := none) g (fun r e => by cases e)

set_option maxRecDepth 100000 in
set_option maxHeartbeats 4000000 in
theorem drawWorld (b : Option Addr) (n c q : Nat) (w : World) (hn : n ≤ 4096) (h : Cur b n c w q) : Calls Tryz.prog 59 #[.pointer (some ⟨q, 0, none⟩)] w (DrawnW b n c w q) := by
  have hq := h.lt
  have R := Has.fresh w 92 z23
  have G : w.grownBy (w.alloc (Obj.cells z23 92)) none := World.grownBy_alloc _ _ _
  have cN := fun W => specNewWorld W
  have okN := ok_newV
  go_enter Tryz.func59, Tryz.ntmps59
  go_wp2_with fail
  have hs0 : w.heap.size < (w.alloc (Obj.cells z23 92)).heap.size := by simp
  generalize w.alloc (Obj.cells z23 92) = v0 at *
  generalize newV = X0 at *
  refine (cN _).mono ?_
  rintro e v1 ⟨p0, rfl, r, O⟩
  replace G := gr_trans G r
  replace R := R.grown r (by simp)
  have hv01 := r.size
  clear r cN
  go_upto_region 2 with (refine st_row rfl _ _ rfl rfl v1.heap.size X0 p0 _ rfl rfl (Has.fresh v1 92 _) rfl ?_; intro v2 c2 K5)
  have ga := World.grownBy_alloc v1 (Obj.cells z23 92) none
  replace O := (O.kept ga).far (Has.fresh v1 92 z23) (by decide) (by decide) (by decide) c2
  have G1 := gr_past ga c2 (Nat.le_refl _)
  replace G := gr_trans G G1
  replace R := R.grown G1 (by simp)
  have lz : w.heap.size < v1.heap.size := by omega
  clear c2 G1 ga
  generalize v1.heap.size = zo at *
  have m20 : v2.cell? ⟨zo, 20, none⟩ = some (.bool X0.ar) := K5.cell 20
  have f20 := K5.frozen 20
  go_upto_region 3 with fail
  replace O := O.far K5 (by decide) (by decide) (by decide) (gr_set (gr_refl v2 (some zo)) 20 (.bool true))
  replace G := gr_new G (show w.heap.size ≤ zo by omega) 20 (.bool true)
  replace R := R.set_other (show w.heap.size ≠ zo by omega) 20 (.bool true)
  have K6 : Has (v2.setCell ⟨zo, 20, none⟩ (.bool true)) zo 92 (cs23 ⟨X0.br, X0.he, X0.ri, X0.sp, X0.bk, X0.li, X0.ly, X0.wa, true, X0.sq, X0.lo⟩ p0) := put20 K5 (.bool true)
  have okX : OkW ⟨X0.br, X0.he, X0.ri, X0.sp, X0.bk, X0.li, X0.ly, X0.wa, true, X0.sq, X0.lo⟩ := ⟨okN.br, okN.he, okN.ri, okN.sp, okN.bk, okN.li, okN.ly, okN.wa, okN.sq, okN.lo⟩
  clear K5 m20 f20 okN
  generalize v2.setCell ⟨zo, 20, none⟩ (.bool true) = v3 at *
  have hc := h.kept (row := none) G (fun r e => by cases e)
  go_wp2_with fail
  refine (below b n c q _ 9 hn hc (by omega)).mono ?_
  rintro e v4 ⟨d, hd, rfl, g, h4⟩
  have zq : zo ≠ q := by omega
  have rq : w.heap.size ≠ q := by omega
  have H4 : w.grownBy v4 (some q) := gr_trans (gr_none G _) g
  replace R := R.grown g (by simp; exact rq)
  have L4 : Lies v0.heap.size zo v4 := ⟨_, p0, K6.grown g (by simp; exact zq), O.low g (by omega), okX⟩
  clear O K6 G g hc h okX
  obtain ⟨m, rfl⟩ := nat_of hd.1
  go_wp2_with fail
  go_loopw [4] (fun i wr => ∃ k : Nat, k ≤ m ∧ i = .int .i64 k ∧ Has wr w.heap.size 92 z23 ∧ w.grownBy wr (some q) ∧ Cur b n c wr q ∧ Lies v0.heap.size zo wr) (fun i _ => (intOf i).toNat)
  case atStart => exact ⟨m, Nat.le_refl _, rfl, R, H4, h4, L4⟩
  case round =>
    clear R H4 h4 L4
    obtain ⟨k, hk, rfl, R, G, hc, x, p, K5, O, ok⟩ := hrel
    by_cases hlt : 0 < k
    · go_upto_region 6 with fail
      have lzo := K5.lt
      refine absD10 0 1 2 3 4 5 6 7 8 20 ?_ rfl rfl rfl rfl rfl rfl rfl rfl rfl rfl rfl rfl
      intro a0 hs0 hd0 g0 g1 g2 g3 g4 g5 g6 g7 g8 g20
      refine iv.region_invG (a0 := a0) 5 (fun i => if i = 4 then 13 else i + 14) (LeftW v0.heap.size q x p) (Jw b n c wr q) 4 rfl (by kernel_rfl) (by kernel_rfl) (by kernel_rfl) (by decide) (by kernel_rfl) (fun i j hi hj e => (show ∀ i, i < 5 → ∀ j, j < 5 → (if i = 4 then 13 else i + 14) = (if j = 4 then 13 else j + 14) → i = j by decide) i hi j hj e) (fun i hi => by rw [hs0]; exact (show ∀ i, i < 5 → (if i = 4 then 13 else i + 14) < 21 by decide) i hi) ⟨gr_drewN (gr_refl wr (some q)) 1, fun _ => gr_drewN (gr_refl wr none) 1, fun e => by cases e⟩ ?_ ?_
      · intro i o a W D hi ho2 hJ hDi hsz2 hdf hold hdeps
        obtain ⟨⟨tl⟩, df⟩ := a
        have ed : df = [] := hdf.trans hd0
        subst ed
        have hlen : tl.length = 21 := hsz2.trans hs0
        clear hsz2 hdf
        refine litE21 tl hlen ?_
        clear hlen
        intro x0 x1 x2 x3 x4 x5 x6 x7 x8 x9 x10 x11 x12 x13 x14 x15 x16 x17 x18 x19 x20 et
        subst et
        have e : some x0 = _ := (hold 0 (fun j hj => by clear hold; revert hj j; decide)).trans g0
        injection e with e
        subst e
        have e : some x1 = _ := (hold 1 (fun j hj => by clear hold; revert hj j; decide)).trans g1
        injection e with e
        subst e
        have e : some x2 = _ := (hold 2 (fun j hj => by clear hold; revert hj j; decide)).trans g2
        injection e with e
        subst e
        have e : some x3 = _ := (hold 3 (fun j hj => by clear hold; revert hj j; decide)).trans g3
        injection e with e
        subst e
        have e : some x4 = _ := (hold 4 (fun j hj => by clear hold; revert hj j; decide)).trans g4
        injection e with e
        subst e
        have e : some x5 = _ := (hold 5 (fun j hj => by clear hold; revert hj j; decide)).trans g5
        injection e with e
        subst e
        have e : some x6 = _ := (hold 6 (fun j hj => by clear hold; revert hj j; decide)).trans g6
        injection e with e
        subst e
        have e : some x7 = _ := (hold 7 (fun j hj => by clear hold; revert hj j; decide)).trans g7
        injection e with e
        subst e
        have e : some x8 = _ := (hold 8 (fun j hj => by clear hold; revert hj j; decide)).trans g8
        injection e with e
        subst e
        have e : some x20 = _ := (hold 20 (fun j hj => by clear hold; revert hj j; decide)).trans g20
        injection e with e
        subst e
        clear hold hs0 hd0 g0 g1 g2 g3 g4 g5 g6 g7 g8 g20
        rcases (show i = 0 ∨ i = 1 ∨ i = 2 ∨ i = 3 ∨ i = 4 by omega) with rfl | rfl | rfl | rfl | rfl
        all_goals simp at ho2
        all_goals subst ho2
        all_goals simp [Region.binds, LeftW] at hdeps
        · go_wp2_with (refine ld_row rfl _ rfl zo x p rfl (K5.grown hJ.1 (by simp; exact zq)) ?_)
          exact ⟨hJ.next (gr_refl _ _) (i := 0) (by omega), rfl⟩
        · go_wp2_with fail
          exact ⟨hJ.next (gr_refl _ _) (i := 1) (by omega), rfl⟩
        · first | subst hdeps | skip
          go_wp2_with fail
          refine (drawAct b n c q _ hn (hc.kept (row := none) (hJ.2.1 hDi) (fun r e => by cases e))).mono ?_
          rintro e w2 ⟨kk, NN, rfl, g, h2⟩
          go_wp2_with fail
          exact ⟨⟨gr_trans hJ.1 g, fun e => by simp at e, fun _ => h2⟩, ⟨kk, NN, rfl⟩, fun j u hu => hu.low g (by omega)⟩
        · obtain ⟨rfl, kk, NN, rfl⟩ := hdeps
          have O2 := O.low hJ.1 (show q < v0.heap.size by omega)
          go_wp2_with fail
          refine (specHappen x p kk NN _ O2.arg ok).mono ?_
          rintro e w2 ⟨y, r, d, rfl, g, Oy, oky⟩
          have hsz := hJ.1.size
          go_wp2_with fail
          exact ⟨hJ.next g (i := 3) (by omega), ⟨y, r, d, rfl, Oy.below (by omega), oky⟩, fun j u hu => hu.low (gr_none g _) (by omega)⟩
        · obtain ⟨y, r, hd2, Oy, oky⟩ := hdeps
          rcases hd2 with rfl | rfl
          · go_wp2_with fail
            exact ⟨hJ.next (gr_refl _ _) (i := 4) (by omega), ⟨y, r, _, rfl, Oy, oky⟩⟩
          · go_wp2_with fail
            exact ⟨hJ.next (gr_refl _ _) (i := 4) (by omega), ⟨y, r, _, rfl, Oy, oky⟩⟩
      · intro o W D hJ hD hsz2 hdf hold hnew
        obtain ⟨⟨tl⟩, df⟩ := o
        have ed : df = [] := hdf.trans hd0
        subst ed
        have hlen : tl.length = 21 := hsz2.trans hs0
        clear hsz2 hdf
        refine litE21 tl hlen ?_
        clear hlen
        intro x0 x1 x2 x3 x4 x5 x6 x7 x8 x9 x10 x11 x12 x13 x14 x15 x16 x17 x18 x19 x20 et
        subst et
        have e : some x0 = _ := (hold 0 (fun j hj => by clear hold; revert hj j; decide)).trans g0
        injection e with e
        subst e
        have e : some x1 = _ := (hold 1 (fun j hj => by clear hold; revert hj j; decide)).trans g1
        injection e with e
        subst e
        have e : some x2 = _ := (hold 2 (fun j hj => by clear hold; revert hj j; decide)).trans g2
        injection e with e
        subst e
        have e : some x3 = _ := (hold 3 (fun j hj => by clear hold; revert hj j; decide)).trans g3
        injection e with e
        subst e
        have e : some x4 = _ := (hold 4 (fun j hj => by clear hold; revert hj j; decide)).trans g4
        injection e with e
        subst e
        have e : some x5 = _ := (hold 5 (fun j hj => by clear hold; revert hj j; decide)).trans g5
        injection e with e
        subst e
        have e : some x6 = _ := (hold 6 (fun j hj => by clear hold; revert hj j; decide)).trans g6
        injection e with e
        subst e
        have e : some x7 = _ := (hold 7 (fun j hj => by clear hold; revert hj j; decide)).trans g7
        injection e with e
        subst e
        have e : some x8 = _ := (hold 8 (fun j hj => by clear hold; revert hj j; decide)).trans g8
        injection e with e
        subst e
        have e : some x20 = _ := (hold 20 (fun j hj => by clear hold; revert hj j; decide)).trans g20
        injection e with e
        subst e
        obtain ⟨v, e, y, r, dd, rfl, Oy, oky⟩ := hnew 4 (by omega)
        have e : some x13 = _ := e
        injection e with e
        subst e
        clear hnew hold hs0 hd0 g0 g1 g2 g3 g4 g5 g6 g7 g8 g20
        change wpAny _ _ _ _ (2 + 1) _ _ _
        refine wpAny_take (i := 5) (v := wv y r) rfl (by kernel_rfl) (by kernel_rfl) (by kernel_rfl) (fun _ _ _ h => h) (.inl ⟨rfl, fun W => by simp [execOp, go_sem]⟩) ?_
        change wpAny _ _ _ _ (1 + 1) _ _ _
        refine wpAny_take (i := 6) (v := .bool dd) rfl (by kernel_rfl) (by kernel_rfl) (by kernel_rfl) (fun _ _ _ h => h) (.inl ⟨rfl, fun W => by simp [execOp, go_sem]⟩) ?_
        refine iv.any_drop 7 (by kernel_rfl) ?_
        simp only [List.drop_succ_cons, List.drop_zero]
        have h2 := hJ.2.2 (hD 2 (by omega))
        have Kw := K5.grown hJ.1 (by simp; exact zq)
        have Rw := R.grown hJ.1 (by simp; exact rq)
        go_wp2_with (refine st_row rfl _ _ rfl rfl zo y r _ rfl rfl Kw rfl ?_; intro v6 c6 K6)
        have O6 := Oy.far Kw (by decide) (by decide) (by decide) c6
        have hG : w.grownBy v6 (some q) := gr_past (gr_trans G hJ.1) c6 (by omega)
        have hR := Rw.grown c6 (by simp; omega)
        have h6 := h2.kept (row := some zo) c6 (fun r e => by injection e with e; omega)
        have hL : Lies v0.heap.size zo v6 := ⟨y, r, K6, O6, oky⟩
        clear O6 K6 Oy Kw Rw h2
        go_roundw
        case rel => exact ⟨k - 1, by omega, congrArg (Value.int .i64) (show ((k : Int) - 1) = ((k - 1 : Nat) : Int) by omega), hR, hG, h6, hL⟩
        case measure => simp [intOf]; omega
    · obtain rfl : k = 0 := by omega
      go_wp2_with (first | (refine ld_row rfl _ rfl zo x p rfl K5 ?_) | (refine st_row rfl _ _ rfl rfl w.heap.size x p z23 rfl rfl R rfl ?_; intro v7 c7 R7))
      replace O := O.low c7 hs0
      replace G := gr_past G c7 (Nat.le_refl w.heap.size)
      refine bodyPost_ret (v := wv x p) ?_ rfl ⟨x, p, rfl, G, O.below (by omega), ok, hc.kept (row := some w.heap.size) c7 (fun r e => by injection e with e; omega)⟩
      exact rs_row rfl _ _ w.heap.size x p rfl R7
end Go.Proofs.YtdikhdfpcipdbaaGreatDoor.wd
