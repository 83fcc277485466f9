/- Frames drawn: l4Draw, l4DrawAny, DrawFrameOk, DrawShowFrame; pick. -/
import Derived.Test.YtdikhdfpcipdbaaGreatDoorFrOne
import Derived.Test.YtdikhdfpcipdbaaGreatDoorCur2
import Derived.Deep.RegionLaw
namespace Go.Proofs.YtdikhdfpcipdbaaGreatDoor.frm
open Go.ChangeShapes Go.WideShapes Go.ChangeAt Go.RowKit
open Go.Proofs.YtdikhdfpcipdbaaGreatDoor.nums Go.Proofs.YtdikhdfpcipdbaaGreatDoor.mem Go.Proofs.YtdikhdfpcipdbaaGreatDoor.txt Go.Proofs.YtdikhdfpcipdbaaGreatDoor.fix Go.Proofs.YtdikhdfpcipdbaaGreatDoor.cur
open Go.Proofs.YtdikhdfpcipdbaaGreatDoor.tab (Ret quiet_w wpList_make_has)
set_option linter.unusedVariables false

/-- A call at a step of a region that draws its order. -/
theorem step_call {P : Program} {w : World} {ops : Array Oper} {o : Oper} {a : Act} {K : Act → World → Prop} {Q : Exit → Act → World → Prop} {E : Prop} (hgd : o.guard = none) (f : FuncId) (args : Array Value)
    (ho : (execOp a.eval o).run P w = .ok (.enter f args) w) (Post : Value → World → Prop) (hC : Calls P f args w fun e w' => ∃ v, e = .returned v ∧ Post v w') (h : ∀ v w', Post v w' → K (a.put o.dst v) w') :
    if Region.wanted o (yielded ops a.tmps) = true then Oper.wp P o a w K Q else E := by
  have hw : Region.wanted o (yielded ops a.tmps) = true := by simp [Region.wanted, hgd]
  rw [if_pos hw]
  unfold Oper.wp
  rw [ho]
  exact hC.mono fun e w' ⟨v, he, hp⟩ => by subst he; exact h v w' hp

theorem gr_own_row {w0 w w' : World} {base size n : Nat} {e : TypeId} {v : Value} {xs : List Value} {row : Option Nat} (h0 : w0.grownBy w row) (ho : w.ownsRow base e size v n xs) (hb : w0.heap.size ≤ base) {o : Obj} (hg : (w.alloc o).grownBy w' v.ownBlock) : w0.grownBy w' row := by
  have h1 := gr_alloc h0 o
  cases hv : v.ownBlock with
  | none => rw [hv] at hg; exact gr_trans h1 (gr_none hg row)
  | some q =>
    have := (ho.lt q hv).1
    rw [hv] at hg
    exact gr_past h1 hg (by omega)
theorem cur_own {b : Option Addr} {n c q : Nat} {w w' : World} {base size m : Nat} {e : TypeId} {v : Value} {xs : List Value} (h : Cur b n c w q) (ho : w.ownsRow base e size v m xs) (hb : q < base) (hg : w.grownBy w' v.ownBlock) : Cur b n c w' q :=
  h.kept hg (fun r e => by have := (ho.lt r e).1; omega)

/-- A frame is drawn: its numbers lie in new memory. -/
def DrewF (b : Option Addr) (n c q : Nat) (w : World) (e : Ending) (w' : World) : Prop :=
  ∃ (k sq : Int) (vs : List Int) (a : Option Addr) (cap : Nat), e = .returned (fr k sq a vs.length cap) ∧ Own w.heap.size w' a vs ∧ vs ≠ [] ∧ vs.length ≤ 6 ∧ w.grownBy w' (some q) ∧ Cur b n c w' q

set_option maxRecDepth 100000 in
set_option maxHeartbeats 4000000 in
theorem drawF (b : Option Addr) (n c q : Nat) (w : World) (hn : n ≤ 4096) (h : Cur b n c w q) : Calls Tryz.prog 62 #[.pointer (some ⟨q, 0, none⟩)] w (DrewF b n c q w) := by
  obtain ⟨i0, hi, hz0, hz1, hz2⟩ := info_parts infoInt
  have hq := h.lt
  have H0 := Has.fresh w 50 #[.int .i64 0, .int .i64 0, .slice none 0 0]
  have g0 := gr_none (World.grownBy_alloc w (Obj.cells #[.int .i64 0, .int .i64 0, .slice none 0 0] 50) none) (some q)
  go_enter Tryz.func62, Tryz.ntmps62
  go_wp2_with fail
  refine (below b n c q _ 4 hn (h.alloc _) (by omega)).mono ?_
  rintro e w1 ⟨x, ⟨x0, x1⟩, rfl, g1, h1⟩
  go_wp2_with fail
  refine (below b n c q _ 100 hn h1 (by omega)).mono ?_
  rintro e w2 ⟨sq, ⟨s0, s1⟩, rfl, g2, h2⟩
  replace g0 := gr_trans (gr_trans g0 g1) g2
  have hne : w.heap.size ≠ q := by omega
  replace H0 := (H0.grown g1 (fun e => by injection e with e; omega)).grown g2 (fun e => by injection e with e; omega)
  have hR := H0.lt
  clear g1 g2 h1 h
  obtain ⟨k, hk⟩ : ∃ k : Int, 1 + x = k := ⟨_, rfl⟩
  have hk1 : 1 ≤ k ∧ k ≤ 4 := by omega
  have hM := specMany k
  have hm1 := many_ge hk1.1 hk1.2
  have hm2 := many_le k
  have HX := Has.fresh w2 50 #[.int .i64 k, .int .i64 sq, .slice none 0 0]
  replace H0 := H0.alloc (Obj.cells #[.int .i64 k, .int .i64 sq, .slice none 0 0] 50)
  replace g0 := gr_alloc g0 (Obj.cells #[.int .i64 k, .int .i64 sq, .slice none 0 0] 50)
  replace h2 := h2.alloc (Obj.cells #[.int .i64 k, .int .i64 sq, .slice none 0 0] 50)
  obtain ⟨b0, b1, b2, _, _, _⟩ := three HX
  go_wp2_with fail
  refine (hM _).mono ?_
  rintro e w3 ⟨rfl, g3⟩
  replace H0 := H0.grown g3 (by simp)
  replace HX := HX.grown g3 (by simp)
  replace g0 := gr_trans g0 (gr_none g3 _)
  replace h2 := h2.kept g3 (fun r e => by cases e)
  clear g3 b0 b1 b2 hM
  have hxB := HX.lt
  obtain ⟨M, hMM⟩ : ∃ M : Nat, many k = (M : Int) := ⟨(many k).toNat, by omega⟩
  rw [hMM] at hm1 hm2 ⊢
  generalize w2.heap.size = bx at *
  generalize hB : w3.heap.size = B at *
  clear hMM
  go_wp2_with fail
  go_loopw [4] (fun i wr => ∃ (m : Nat) (acc : List Int) (ao : Option Addr) (cp : Nat), i = .int .i64 m ∧ m + acc.length = M ∧ Has wr bx 50 #[.int .i64 k, .int .i64 sq, .slice ao acc.length cp] ∧ wr.ownsRow B 2 1 (.slice ao acc.length cp) acc.length (vals acc) ∧ Has wr w.heap.size 50 #[.int .i64 0, .int .i64 0, .slice none 0 0] ∧ w.grownBy wr (some q) ∧ Cur b n c wr q ∧ B ≤ wr.heap.size) (fun i _ => (intOf i).toNat)
  case atStart => exact ⟨M, [], none, 0, rfl, by simp, HX, World.ownsRow_nil _ _ _ _, H0, g0, h2, by omega⟩
  case round =>
    clear HX H0 g0 h2
    obtain ⟨m, acc, ao, cp, rfl, hma, HX, hown, H0, g0, h2, hBs⟩ := hrel
    by_cases hm : 0 < m
    · have hm' : decide (0 < (m : Int)) = true := by simp; omega
      have hxd : Has wr.drew bx _ _ := HX
      have hcd : Cur b n c wr.drew q := h2
      have hod : wr.drew.ownsRow B 2 1 (.slice ao acc.length cp) acc.length (vals acc) := hown
      obtain ⟨b0, b1, b2, _, _, _⟩ := three HX
      go_wp2_with fail
      have hcall : Calls Tryz.prog 22 #[.pointer (some ⟨q, 0, none⟩), .int .i64 400] wr.drew fun e w' => ∃ v, e = .returned v ∧ ∃ x : Int, v = .int .i64 x ∧ wr.drew.grownBy w' (some q) ∧ Cur b n c w' q :=
        (below b n c q _ 400 hn hcd (by omega)).mono fun e w' ⟨x, _, he, hg, hc⟩ => ⟨_, he, x, rfl, hg, hc⟩
      go_region_law (first
          | (refine step_append_lies _ (by rfl) _ _ _ (by rfl) B 2 i0 _ 1 8 Tryz.underlying25 hi hz0 hz1 hz2 rfl (by omega) (.slice ao acc.length cp) acc.length (vals acc) (by rfl) (ho4.alloc _) ⟨w4.heap.size, 0, none⟩ 1 1 [.int .i64 v] (by rfl) (by rfl) (World.news_of_block (cs := #[.int .i64 v]) (t := 2) (fr := (0, 0)) (heap_alloc_new w4 _)) (by simp [Value.oneCell']) (by omega) (by unfold maxLen; omega) (by omega) (by simp; have := g4.size; simp at this; omega) (w4.heap.size + 1) (by simp) ?_; intro gg cap1 w5 hown5 hgrow hat hlt; have HX5 := own_keep (HX4.alloc _) (ho4.alloc _) (by omega) hgrow; obtain ⟨_, _, y5, z0, z1, z2⟩ := three HX5)
          | (refine step_call (by rfl) 22 _ (by go_simp) _ hcall ?_; rintro _ w4 ⟨v, rfl, g4, h4⟩; have HX4 := hxd.grown g4 (fun e => by injection e with e; omega); obtain ⟨_, _, y2, _, _, _⟩ := three HX4; have y4 := (three (HX4.alloc (Obj.cells #[.int .i64 v] 2))).2.2.1; have ho4 := row_past hod g4 (by omega)))
      all_goals have hel : acc.length + 1 = (acc ++ [v]).length := by simp
      all_goals rw [hel] at hown5 ⊢
      all_goals rw [show vals acc ++ [Value.int .i64 v] = vals (acc ++ [v]) by simp [vals]] at hown5
      all_goals have hgw := gr_own_row (gr_trans (gr_drewN g0 1) g4) ho4 (show w.heap.size ≤ B by omega) (o := Obj.cells #[.int .i64 v] 2) hgrow
      all_goals have H5 := own_keep ((H0.drewN 1).grown g4 (fun e => by injection e with e; omega) |>.alloc (Obj.cells #[.int .i64 v] 2)) (ho4.alloc _) (by omega) hgrow
      all_goals have h5 : Cur b n c w5 q := cur_own (h4.alloc _) (ho4.alloc _) (by omega) hgrow
      all_goals have hs5 : B ≤ w5.heap.size := by have h1 := hgrow.size; have h2 := g4.size; simp at h1 h2; omega
      all_goals have hm6 : (m : Int) ≤ 6 := by omega
      all_goals have hm0 : (1 : Int) ≤ m := by omega
      all_goals clear hel hgrow hat hlt g4 h4 HX4 ho4 hod hcd hxd y2 y4 y5 z0 z1 z2 hcall b0 b1 b2 HX hown H0 g0 h2 hm' hi hz0 hz1 hz2
      all_goals go_wp2_with fail
      all_goals go_roundw
      case rel => exact ⟨m - 1, acc ++ [v], some ⟨gg, 0, none⟩, cap1, by congr 1; omega, by simp; omega, HX5.put 2 _ (by simp), row_past hown5 (gr_set (gr_refl _ (some bx)) _ _) (by omega), has_other H5 (by omega) _ _, gr_new hgw (by omega) _ _, h5.kept (gr_set (gr_refl _ (some bx)) _ _) (fun r e => by injection e with e; omega), by simpa [World.setCell] using hs5⟩
      case measure => simp [intOf]; omega
      case rel => exact ⟨m - 1, acc ++ [v], some ⟨gg, 0, none⟩, cap1, by congr 1; omega, by simp; omega, HX5.put 2 _ (by simp), row_past hown5 (gr_set (gr_refl _ (some bx)) _ _) (by omega), has_other H5 (by omega) _ _, gr_new hgw (by omega) _ _, h5.kept (gr_set (gr_refl _ (some bx)) _ _) (fun r e => by injection e with e; omega), by simpa [World.setCell] using hs5⟩
      case measure => simp [intOf]; omega
      case rel => exact ⟨m - 1, acc ++ [v], some ⟨gg, 0, none⟩, cap1, by congr 1; omega, by simp; omega, HX5.put 2 _ (by simp), row_past hown5 (gr_set (gr_refl _ (some bx)) _ _) (by omega), has_other H5 (by omega) _ _, gr_new hgw (by omega) _ _, h5.kept (gr_set (gr_refl _ (some bx)) _ _) (fun r e => by injection e with e; omega), by simpa [World.setCell] using hs5⟩
      case measure => simp [intOf]; omega
    · obtain rfl : m = 0 := by omega
      have hm' : decide (0 < ((0 : Nat) : Int)) = false := by simp
      have hav : acc ≠ [] := fun e => by rw [e] at hma; simp at hma; omega
      obtain ⟨b0, b1, b2, f0, f1, f2⟩ := three HX
      obtain ⟨p0, p1, p2, q0, q1, q2⟩ := three H0
      by_cases hk4 : k = 4
      · subst hk4
        go_wp2_with fail
        refine (below b n c q _ 3 hn h2 (by omega)).mono ?_
        rintro e w4 ⟨v1, _, rfl, g4, h4⟩
        go_wp2_with fail
        refine (below b n c q _ 2 hn h4 (by omega)).mono ?_
        rintro e w5 ⟨v2, _, rfl, g5, h5⟩
        replace HX := (HX.grown g4 (fun e => by injection e with e; omega)).grown g5 (fun e => by injection e with e; omega)
        replace H0 := (H0.grown g4 (fun e => by injection e with e; omega)).grown g5 (fun e => by injection e with e; omega)
        replace g0 := gr_alloc (gr_trans (gr_trans g0 g4) g5) (Obj.cells #[.int .i64 v1, .int .i64 v2] 2)
        have hs5 : B ≤ w5.heap.size := by have h1 := g4.size; have h2 := g5.size; omega
        have HV := Has.fresh w5 2 #[.int .i64 v1, .int .i64 v2]
        replace HX := HX.alloc (Obj.cells #[.int .i64 v1, .int .i64 v2] 2)
        replace H0 := H0.alloc (Obj.cells #[.int .i64 v1, .int .i64 v2] 2)
        replace h5 := h5.alloc (Obj.cells #[.int .i64 v1, .int .i64 v2] 2)
        clear g4 g5 h4 b0 b1 b2 f0 f1 f2 p0 p1 p2 q0 q1 q2 h2
        obtain ⟨b0, b1, b2, f0, f1, f2⟩ := three HX
        obtain ⟨p0, p1, p2, q0, q1, q2⟩ := three H0
        have hbR : w.heap.size ≠ bx := by omega
        have hVR : w5.heap.size ≠ w.heap.size := by omega
        have hVX : w5.heap.size ≠ bx := by omega
        go_wp2_with fail
        obtain ⟨r0, r1, r2, _, _, _⟩ := three (set3 (has_other H0 hbR 2 (.slice (some ⟨w5.heap.size, 0, none⟩) 2 2)) (.int .i64 4) (.int .i64 sq) (.slice (some ⟨w5.heap.size, 0, none⟩) 2 2))
        refine bodyPost_ret (v := fr 4 sq (some ⟨w5.heap.size, 0, none⟩) ([v1, v2] : List Int).length 2) (by simp [results, Tryz.results62, go_sem, r0, r1, r2]) rfl ⟨4, sq, [v1, v2], _, _, rfl, ?_, by simp, by simp, gr_new (gr_new (gr_new (gr_new g0 (by omega) _ _) (Nat.le_refl _) _ _) (Nat.le_refl _) _ _) (Nat.le_refl _) _ _, (((h5.kept (gr_set (gr_refl _ (some bx)) _ _) (fun r e => by injection e with e; omega)).kept (gr_set (gr_refl _ (some w.heap.size)) _ _) (fun r e => by injection e with e; omega)).kept (gr_set (gr_refl _ (some w.heap.size)) _ _) (fun r e => by injection e with e; omega)).kept (gr_set (gr_refl _ (some w.heap.size)) _ _) (fun r e => by injection e with e; omega)⟩
        refine ⟨w5.heap.size, 0, #[.int .i64 v1, .int .i64 v2], fun _ => rfl, by omega, has_other (has_other (has_other (has_other HV hVX _ _) hVR _ _) hVR _ _) hVR _ _, fun j hj => ?_⟩
        have : j = 0 ∨ j = 1 := by simp at hj; omega
        rcases this with rfl | rfl <;> rfl
      · have hk5 : (k == 4) = false := by rw [beq_eq_false_iff_ne]; exact hk4
        have hO := row_own hown (show w.heap.size + 1 ≤ B by omega) hav
        go_wp2_with fail
        obtain ⟨r0, r1, r2, _, _, _⟩ := three (set3 H0 (.int .i64 k) (.int .i64 sq) (.slice ao acc.length cp))
        exact bodyPost_ret (v := fr k sq ao acc.length cp) (by simp [results, Tryz.results62, go_sem, r0, r1, r2]) rfl ⟨k, sq, acc, ao, cp, rfl, (((hO.set _ _).set _ _).set _ _).up (Nat.le_succ _), hav, by omega, gr_new (gr_new (gr_new g0 (Nat.le_refl _) _ _) (Nat.le_refl _) _ _) (Nat.le_refl _) _ _, ((h2.kept (gr_set (gr_refl _ (some w.heap.size)) _ _) (fun r e => by injection e with e; omega)).kept (gr_set (gr_refl _ (some w.heap.size)) _ _) (fun r e => by injection e with e; omega)).kept (gr_set (gr_refl _ (some w.heap.size)) _ _) (fun r e => by injection e with e; omega)⟩
end Go.Proofs.YtdikhdfpcipdbaaGreatDoor.frm
