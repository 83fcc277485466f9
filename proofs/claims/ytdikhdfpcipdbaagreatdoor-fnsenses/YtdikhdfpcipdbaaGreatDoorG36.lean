/- Gated of the model. The model's new brain. A world (three and twenty cells) stored, loaded, returned as a whole. A fan is laid into a brain's list; parts of a brain are others. -/
import Derived.Test.YtdikhdfpcipdbaaGreatDoorG35
import Derived.Test.YtdikhdfpcipdbaaGreatDoorG13
import Derived.Deep.DeepCutAuto
import Derived.Test.YtdikhdfpcipdbaaGreatDoorG31
import Derived.Test.YtdikhdfpcipdbaaGreatDoorG33
import Derived.Test.YtdikhdfpcipdbaaGreatDoorG23
import Derived.Test.YtdikhdfpcipdbaaGreatDoorG32
import Derived.Great.BuildSlice
import Derived.Laws.Tables
import Derived.Laws.Rows
import Derived.Deep.MidRow
import Derived.Test.YtdikhdfpcipdbaaGreatDoorG30
/- Gated of the model. -/
namespace Go.Proofs.YtdikhdfpcipdbaaGreatDoor.gt
open Go.ChangeShapes Go.WideShapes Go.ChangeAt Go.RowKit
open Go.Extern.Stop Go.Stop Go.Extern
open Go.Proofs.YtdikhdfpcipdbaaGreatDoor.nums Go.Proofs.YtdikhdfpcipdbaaGreatDoor.mem
open Go.Proofs.YtdikhdfpcipdbaaGreatDoor.fix (ret_int ret_bool)
open Go.Proofs.YtdikhdfpcipdbaaGreatDoor.tab (Ret quiet_w)
open Go.Proofs.YtdikhdfpcipdbaaGreatDoor.md (Fx cs8 fac factsOk eight)
open Go.Proofs.YtdikhdfpcipdbaaGreatDoor.qt (region_below_tail rg_ret rg_same gr_rg)
set_option linter.unusedVariables false

set_option maxHeartbeats 2000000 in
theorem specGated (g : G) (ch st : Bool) (f : Fx) (w : World) : Calls Tryz.prog 166 #[gv g, .bool ch, .bool st, fac f] w (Ret (gv (gated g ch st f)) w) := by
  obtain ⟨a0, b0, r0, g0⟩ := w3_has w g f
  have cG := specGateOk g
  have cF := md.specFactsOk f
  have hn := gated_no (g := g) (ch := ch) (st := st) (f := f)
  have hy := gated_yes (g := g) (ch := ch) (st := st) (f := f)
  have hs : gateOk g.1 = true → 0 ≤ g.1 ∧ g.1 ≤ 100 := by unfold gateOk inb; simp
  cases h1 : gateOk g.1
  · rw [h1] at cG hn
    rw [hn rfl]
    clear hn hy cF h1 hs
    go_enter Tryz.func166, Tryz.ntmps166
    go_wp2_with fail
    refine (cG _).mono ?_
    rintro e w1 ⟨rfl, g1⟩
    replace r0 := r0.grown g1 (by simp)
    replace g0 := gr_trans g0 g1
    obtain ⟨c0, c1, f0, f1⟩ := two r0
    go_wp2_with fail
    obtain ⟨k0, k1, _, _⟩ := two (set2 r0 (.int .i64 0) (.bool false))
    exact bodyPost_ret (v := gv (0, false)) (by simp [results, Tryz.results166, go_sem, k0, k1]) rfl ⟨rfl, gr_new (gr_new g0 (by omega) _ _) (by omega) _ _⟩
  · rw [h1] at cG hn hy
    cases h2 : factsOk f
    · rw [h2] at cF hn
      rw [hn rfl]
      clear hn hy h1 h2 hs
      go_enter Tryz.func166, Tryz.ntmps166
      go_wp2_with fail
      refine (cG _).mono ?_
      rintro e w1 ⟨rfl, g1⟩
      replace b0 := b0.grown g1 (by simp)
      replace r0 := r0.grown g1 (by simp)
      replace g0 := gr_trans g0 g1
      obtain ⟨e0, e1, e2, e3, e4, e5, e6, e7⟩ := eight b0
      go_wp2_with fail
      refine (cF _).mono ?_
      rintro e w2 ⟨rfl, g2⟩
      replace r0 := r0.grown g2 (by simp)
      replace g0 := gr_trans g0 g2
      obtain ⟨c0, c1, f0, f1⟩ := two r0
      go_wp2_with fail
      obtain ⟨k0, k1, _, _⟩ := two (set2 r0 (.int .i64 0) (.bool false))
      exact bodyPost_ret (v := gv (0, false)) (by simp [results, Tryz.results166, go_sem, k0, k1]) rfl ⟨rfl, gr_new (gr_new g0 (by omega) _ _) (by omega) _ _⟩
    · rw [h2] at cF
      rw [hy rfl h2]
      obtain ⟨h0, hle⟩ := hs h1
      clear hn hy h1 h2 hs
      obtain ⟨s, x⟩ := g
      have hlow : Hid ((f.ho && decide (f.h < 30)) = tooLow f) := Lib.hid rfl
      generalize tooLow f = low at *
      have hw : IntKind.i64.wrap (s + 1) = s + 1 := IntWalk.i64_in _ (by omega)
      have cM := specMin 100 (s + 1)
      go_enter Tryz.func166, Tryz.ntmps166
      go_wp2_with fail
      refine (cG _).mono ?_
      rintro e w1 ⟨rfl, g1⟩
      replace a0 := a0.grown g1 (by simp)
      replace b0 := b0.grown g1 (by simp)
      replace r0 := r0.grown g1 (by simp)
      replace g0 := gr_trans g0 g1
      obtain ⟨e0, e1, e2, e3, e4, e5, e6, e7⟩ := eight b0
      go_wp2_with fail
      refine (cF _).mono ?_
      rintro e w2 ⟨rfl, g2⟩
      clear e0 e1 e2 e3 e4 e5 e6 e7
      replace a0 := a0.grown g2 (by simp)
      replace b0 := b0.grown g2 (by simp)
      replace r0 := r0.grown g2 (by simp)
      replace g0 := gr_trans g0 g2
      clear g1 g2 cG cF
      obtain ⟨a1, a2, n1, n2⟩ := two a0
      obtain ⟨c0, c1, f0, f1⟩ := two r0
      cases x
      · cases ch
        · go_wp2_with fail
          obtain ⟨k0, k1, _, _⟩ := two (set2 r0 (.int .i64 0) (.bool false))
          exact bodyPost_ret (v := gv (0, false)) (by simp [results, Tryz.results166, go_sem, k0, k1]) rfl ⟨rfl, gr_new (gr_new g0 (by omega) _ _) (by omega) _ _⟩
        · cases st
          · go_wp2_with fail
            obtain ⟨k0, k1, _, _⟩ := two (set2 r0 (.int .i64 0) (.bool false))
            exact bodyPost_ret (v := gv (0, false)) (by simp [results, Tryz.results166, go_sem, k0, k1]) rfl ⟨rfl, gr_new (gr_new g0 (by omega) _ _) (by omega) _ _⟩
          · have hm : ticked (s, false) true low = (min 100 (s + 1), decide (4 ≤ min 100 (s + 1)) && !low) := by
              rw [show min 100 (s + 1) = min (s + 1) 100 by omega]; rfl
            generalize min 100 (s + 1) = m at *
            obtain ⟨x, hx⟩ : ∃ x, (decide (4 ≤ m) && !low) = x := ⟨_, rfl⟩
            rw [hx] at hm
            have hE := Lib.hid hm
            clear hm
            replace hx := Lib.hid hx
            go_wp2_with fail
            refine (cM _).mono ?_
            rintro e w' ⟨rfl, rfl⟩
            clear cM
            go_upto_region 8 with fail
            replace a0 := a0.put 0 (.int .i64 m) (cs' := cs2 (m, false)) rfl
            replace b0 := b0.set_other (g' := w.heap.size) (by omega) 0 (.int .i64 m)
            replace r0 := r0.set_other (g' := w.heap.size) (by omega) 0 (.int .i64 m)
            replace g0 := gr_new g0 (Nat.le_refl w.heap.size) 0 (.int .i64 m)
            clear a1 a2 n1 n2 c0 c1 f0 f1
            generalize w2.setCell ⟨w.heap.size, 0, none⟩ (.int .i64 m) = w3 at *
            obtain ⟨a1, a2, n1, n2⟩ := two a0
            obtain ⟨m0, m1, m2, m3, m4, m5, m6, m7⟩ := eight b0
            go_cut [] (fun wx => Has wx w.heap.size 86 (cs2 (m, x)) ∧ Has wx (w.heap.size + 1 + 1) 86 #[.int .i64 0, .bool false] ∧ w.grownBy wx none)
            case first =>
              have Y : ∀ y, y = x → Has (w3.setCell ⟨w.heap.size, 1, none⟩ (.bool y)) w.heap.size 86 (cs2 (m, x)) ∧ Has (w3.setCell ⟨w.heap.size, 1, none⟩ (.bool y)) (w.heap.size + 1 + 1) 86 #[.int .i64 0, .bool false] ∧ w.grownBy (w3.setCell ⟨w.heap.size, 1, none⟩ (.bool y)) none := fun y hy => by
                rw [hy]
                exact ⟨a0.put 1 (.bool x) rfl, r0.set_other (by omega) 1 _, gr_new g0 (Nat.le_refl _) 1 _⟩
              have hl := hlow.out
              have hx' := hx.out
              clear hlow hx a0 b0 r0 g0
              go_wp2
              all_goals go_meet
              all_goals exact Y _ (by first | (rw [← hx', show decide (4 ≤ m) = false by rw [decide_eq_false_iff_not]; omega]; rfl) | (rw [← hx', ← hl]; simp_all; done))
            case rest =>
              obtain ⟨a0, r0, g0⟩ := hcut
              obtain ⟨a1, a2, n1, n2⟩ := two a0
              obtain ⟨c0, c1, f0, f1⟩ := two r0
              go_wp2_with fail
              obtain ⟨k0, k1, _, _⟩ := two (set2 r0 (.int .i64 m) (.bool x))
              exact bodyPost_ret (v := gv (m, x)) (by simp [results, Tryz.results166, go_sem, k0, k1]) rfl ⟨by rw [hE.out], gr_new (gr_new g0 (by omega) _ _) (by omega) _ _⟩
      · have e : ticked (s, true) (ch && st) low = (s, true) := rfl
        rw [e]
        clear e
        go_wp2_with fail
        obtain ⟨k0, k1, _, _⟩ := two (set2 r0 (.int .i64 s) (.bool true))
        exact bodyPost_ret (v := gv (s, true)) (by simp [results, Tryz.results166, go_sem, k0, k1]) rfl ⟨rfl, gr_new (gr_new g0 (by omega) _ _) (by omega) _ _⟩
end Go.Proofs.YtdikhdfpcipdbaaGreatDoor.gt

/- The model's new brain. -/
namespace Go.Proofs.YtdikhdfpcipdbaaGreatDoor.br
open Go.ChangeShapes Go.WideShapes Go.ChangeAt Go.RowKit
open Go.Proofs.YtdikhdfpcipdbaaGreatDoor.nums Go.Proofs.YtdikhdfpcipdbaaGreatDoor.mem
open Go.Proofs.YtdikhdfpcipdbaaGreatDoor.tab (Ret)
open Go.Proofs.YtdikhdfpcipdbaaGreatDoor.fan (F okF zF fN fO fT)
open Go.Proofs.YtdikhdfpcipdbaaGreatDoor.il (nth Ints Own)
open Go.Proofs.YtdikhdfpcipdbaaGreatDoor.se (cons_of)
set_option linter.unusedVariables false

def newB : B := ⟨0, 0, List.replicate 6 zF, (0, false), se.newS, List.replicate 7 0, []⟩
theorem ok_newB : OkB newB := ⟨by decide, by decide, by decide, rfl, by decide, se.ok_iff.1 (by decide), by decide, rfl, by decide⟩
def frow : Array Value := madeCells (Value.cells (.agg #[.int .i64 0, .bool false, .bool false])) (6 * 3)
def qrow : Array Value := madeCells (Value.cells (.int .i64 0)) (7 * 1)
theorem run_mkF (W : World) : (Instr.makeSlice 84 (.int .i64 6) (.int .i64 6)).run Tryz.prog W = .ok (.slice (some ⟨W.heap.size, 0, none⟩) 6 6) (W.alloc (.cells frow 189)) := by
  obtain ⟨i0, hi, hz0, hz1, hz2⟩ := info_parts fan.infoFan
  have h := run_make (P := Tryz.prog) W 84 189 i0 _ Tryz.underlying84 hi hz0 .i64 .i64 6 6 (by omega) (by omega) (by rw [hz2]; omega) (by omega)
  rw [hz1] at h
  exact h
theorem run_mkO (W : World) : (Instr.makeSlice 25 (.int .i64 7) (.int .i64 7)).run Tryz.prog W = .ok (.slice (some ⟨W.heap.size, 0, none⟩) 7 7) (W.alloc (.cells qrow 2)) := by
  obtain ⟨i0, hi, hz0, hz1, hz2⟩ := info_parts il.infoInt
  have h := run_make (P := Tryz.prog) W 25 2 i0 _ Tryz.underlying25 hi hz0 .i64 .i64 7 7 (by omega) (by omega) (by rw [hz2]; omega) (by omega)
  rw [hz1] at h
  exact h
theorem frow_at {k : Nat} (h : k < 6) : frow[k * 3]? = some (.int .i64 0) ∧ frow[k * 3 + 1]? = some (.bool false) ∧ frow[k * 3 + 2]? = some (.bool false) := by
  unfold frow madeCells
  refine ⟨?_, ?_, ?_⟩
  · rw [Array.getElem?_map, Array.getElem?_range]
    simp [Value.cells, show k * 3 < 6 * 3 by omega]
  · rw [Array.getElem?_map, Array.getElem?_range]
    have : (k * 3 + 1) % 3 = 1 := by omega
    simp [Value.cells, show k * 3 + 1 < 6 * 3 by omega, this]
  · rw [Array.getElem?_map, Array.getElem?_range]
    have : (k * 3 + 2) % 3 = 2 := by omega
    simp [Value.cells, show k * 3 + 2 < 6 * 3 by omega, this]
theorem own_frow {W : World} {b : Nat} (h : Has W b 189 frow) : fan.OwnF W (some ⟨b, 0, none⟩) (List.replicate 6 zF) :=
  Or.inr ⟨b, _, rfl, h, fun k hk => by
    have hk' : k < 6 := by simpa using hk
    have e : (List.replicate 6 zF).getD k zF = zF := by rcases (show k = 0 ∨ k = 1 ∨ k = 2 ∨ k = 3 ∨ k = 4 ∨ k = 5 by omega) with rfl | rfl | rfl | rfl | rfl | rfl <;> rfl
    have e1 : fN (List.replicate 6 zF) k = 0 := by unfold fan.fN; rw [e]; rfl
    have e2 : fO (List.replicate 6 zF) k = false := by unfold fan.fO; rw [e]; rfl
    have e3 : fT (List.replicate 6 zF) k = false := by unfold fan.fT; rw [e]; rfl
    rw [e1, e2, e3]
    exact frow_at hk'⟩
/-- What each operation of NewBrain leaves. -/
def LeftN (z : Nat) : Nat → Value → World → Prop
  | 0, v, w => ∃ a : Addr, v = .slice (some a) 6 6 ∧ z ≤ a.block ∧ fan.OwnF w (some a) (List.replicate 6 zF)
  | 1, v, w => ∃ p, v = se.sv se.newS p ∧ se.OwnS z w se.newS p
  | 2, v, w => ∃ b : Nat, v = .slice (some ⟨b, 0, none⟩) 7 7 ∧ z ≤ b ∧ il.Own w (some ⟨b, 0, none⟩) (List.replicate 7 0)
  | 3, v, w => ∃ p, v = bv newB p ∧ OwnB z w newB p
  | _, _, _ => False
theorem LeftN.stab (z : Nat) (j : Nat) (v : Value) (w w' : World) (h : LeftN z j v w) (hg : w.grownBy w' none) : LeftN z j v w' := by
  match j, h with
  | 0, ⟨a, h1, h2, h3⟩ => exact ⟨a, h1, h2, h3.kept hg⟩
  | 1, ⟨p, h1, h2⟩ => exact ⟨p, h1, h2.kept hg⟩
  | 2, ⟨a, h1, h2, h3⟩ => exact ⟨a, h1, h2, h3.kept hg⟩
  | 3, ⟨p, h1, h2⟩ => exact ⟨p, h1, h2.kept hg⟩
theorem litN5 (tl : List Value) (h : tl.length = 5) : ∃ x0 x1 x2 x3 x4 : Value, tl = [x0, x1, x2, x3, x4] := by
  obtain ⟨x0, t0, e0, h0⟩ := cons_of h
  obtain ⟨x1, t1, e1, h1⟩ := cons_of h0
  obtain ⟨x2, t2, e2, h2⟩ := cons_of h1
  obtain ⟨x3, t3, e3, h3⟩ := cons_of h2
  obtain ⟨x4, t4, e4, h4⟩ := cons_of h3
  have e5 := List.eq_nil_of_length_eq_zero h4
  exact ⟨x0, x1, x2, x3, x4, by rw [e0, e1, e2, e3, e4, e5]⟩

set_option maxRecDepth 100000 in
set_option maxHeartbeats 4000000 in
theorem specNewBrain (w : World) : Calls Tryz.prog 108 #[] w (RetO newB w) := by
  have k0 := Has.fresh w 88 z13
  have gwb := World.grownBy_alloc w (Obj.cells z13 88) none
  have mF := run_mkF
  have mO := run_mkO
  go_enter Tryz.func108, Tryz.ntmps108
  go_wp2_with fail
  have hsz : w.heap.size < (w.alloc (Obj.cells z13 88)).heap.size := by simp
  generalize w.alloc (Obj.cells z13 88) = wb at *
  refine iv.region_inv 4 (fun i => i + 1) (LeftN wb.heap.size) (by kernel_rfl) (by kernel_rfl) (by kernel_rfl) (by decide) (by kernel_rfl) (by kernel_rfl) (fun i j _ _ e => by simpa using e) (fun i hi => by simp; omega) (LeftN.stab wb.heap.size) ?_ ?_
  · intro i o a W hi ho2 hgW hsz2 hdf hold hdeps
    obtain ⟨⟨tl⟩, df⟩ := a
    obtain ⟨x0, x1, x2, x3, x4, rfl⟩ := litN5 tl (by simpa using hsz2)
    have ed : df = [] := by simpa using hdf
    subst ed
    clear hold hdf
    rcases (show i = 0 ∨ i = 1 ∨ i = 2 ∨ i = 3 by omega) with rfl | rfl | rfl | rfl
    all_goals simp at ho2
    all_goals subst ho2
    all_goals simp [Region.binds, LeftN] at hdeps
    · go_wp2_with fail
      exact ⟨World.grownBy_alloc _ _ _, ⟨W.heap.size, 0, none⟩, rfl, hgW.size, own_frow (Has.fresh _ _ _)⟩
    · go_wp2_with fail
      refine (se.specNew _).mono ?_
      rintro e w1 ⟨ps, rfl, r, O⟩
      go_wp2_with fail
      exact ⟨ps, rfl, O.below hgW.size⟩
    · go_wp2_with fail
      exact ⟨World.grownBy_alloc _ _ _, W.heap.size, rfl, hgW.size, own_zero7 (Has.fresh _ _ _)⟩
    · obtain ⟨h0, h1, h2⟩ := hdeps
      obtain ⟨af, rfl, lf, of_⟩ := h0
      obtain ⟨ps, rfl, os⟩ := h1
      obtain ⟨aq, rfl, lq, oq⟩ := h2
      go_wp2_with fail
      exact ⟨gr_refl _ _, ⟨some af, 6, ps, some ⟨aq, 0, none⟩, 7⟩, rfl, of_, os, oq, (fun x e => by cases e; exact lf), (fun x e => by have e : il.blk (some ⟨aq, 0, none⟩) (List.replicate 7 0) = some x := e; rw [il.blk_some (by simp)] at e; injection e with e; omega)⟩
  · intro o W hgW hsz2 hdf hold hnew
    obtain ⟨⟨tl⟩, df⟩ := o
    obtain ⟨x0, x1, x2, x3, x4, rfl⟩ := litN5 tl (by simpa using hsz2)
    have ed : df = [] := by simpa using hdf
    subst ed
    have e0 := hold 0 (fun j _ => by omega)
    simp at e0
    subst e0
    obtain ⟨v, e, p, rfl, O⟩ := hnew 3 (by omega)
    simp at e
    subst e
    clear hnew hold hdf hsz2
    simp only [List.drop_succ_cons, List.drop_zero]
    have K := k0.grown hgW (by simp)
    obtain ⟨⟨⟨f0, f1, f2⟩, f3, f4⟩, ⟨⟨f5, f6, f7⟩, f8, f9, f10⟩, f11, f12⟩ := free13 K
    obtain ⟨⟨⟨d0, d1, d2⟩, d3, d4⟩, ⟨⟨d5, d6, d7⟩, d8, d9, d10⟩, d11, d12⟩ := thirteen K
    go_wp2_with fail
    replace O := O.low (chg_lay W w.heap.size (.int .i64 0) (.int .i64 0) (.slice p.fa 6 p.fc) (.int .i64 0) (.bool false) (.slice p.se.a1 3 p.se.c1) (.slice p.se.a2 2 p.se.c2) (.slice p.se.a3 6 p.se.c3) (.int .i64 0) (.bool false) (.slice p.se.a4 4 p.se.c4) (.slice p.ou 7 p.oc) (str [])) hsz
    have G := gr_lay (gr_trans gwb hgW) (Nat.le_refl w.heap.size) (.int .i64 0) (.int .i64 0) (.slice p.fa 6 p.fc) (.int .i64 0) (.bool false) (.slice p.se.a1 3 p.se.c1) (.slice p.se.a2 2 p.se.c2) (.slice p.se.a3 6 p.se.c3) (.int .i64 0) (.bool false) (.slice p.se.a4 4 p.se.c4) (.slice p.ou 7 p.oc) (str [])
    replace K := set_lay K (.int .i64 0) (.int .i64 0) (.slice p.fa 6 p.fc) (.int .i64 0) (.bool false) (.slice p.se.a1 3 p.se.c1) (.slice p.se.a2 2 p.se.c2) (.slice p.se.a3 6 p.se.c3) (.int .i64 0) (.bool false) (.slice p.se.a4 4 p.se.c4) (.slice p.ou 7 p.oc) (str [])
    obtain ⟨⟨⟨u0, u1, u2⟩, u3, u4⟩, ⟨⟨u5, u6, u7⟩, u8, u9, u10⟩, u11, u12⟩ := thirteen K
    exact bodyPost_ret (v := bv newB p) (by simp [results, Tryz.results108, go_sem, u0, u1, u2, u3, u4, u5, u6, u7, u8, u9, u10, u11, u12, newB, se.newS, se.zr]) rfl ⟨p, rfl, G, ⟨O.fa, O.se.below (Nat.le_of_lt hsz), O.ou, fun x e => Nat.le_trans (Nat.le_of_lt hsz) (O.zf x e), fun x e => Nat.le_trans (Nat.le_of_lt hsz) (O.zo x e)⟩⟩
end Go.Proofs.YtdikhdfpcipdbaaGreatDoor.br

/- A world (three and twenty cells) stored, loaded, returned as a whole. -/
namespace Go.Proofs.YtdikhdfpcipdbaaGreatDoor.wd
open Go Go.ChangeShapes Go.WideShapes Go.ChangeAt Go.RowKit
open Go.Proofs.YtdikhdfpcipdbaaGreatDoor.nums Go.Proofs.YtdikhdfpcipdbaaGreatDoor.mem
set_option linter.unusedVariables false

theorem row_chg (w : World) (g : Nat) (cs : Array Value) : w.grownBy (w.setRow g cs) (some g) :=
  ⟨rfl, rfl, rfl, by simp, fun b hb hn => setRow_other w g b cs (fun e => hn (by rw [e]))⟩
theorem row_has {w : World} {g : Nat} {t : TypeId} {old : Array Value} (H : Has w g t old) (cs : Array Value) : Has (w.setRow g cs) g t cs := setRow_heap w g old cs t (0, 0) H
theorem infoW : (Tryz.prog.info? 92).map (·.size) = some 23 := by kernel_rfl
theorem one23 (x : V) (p : br.P) : (cs23 x p).all (·.oneCell') = true := by simp [Value.oneCell']
theorem st_row {ops : Array Oper} {rest : List Oper} {o : Oper} {a : Act} {w : World} {Q : Exit → Act → World → Prop} (hgd : o.guard = none) (a1 a2 : Operand) (ho : o.op = .store 92 a1 a2) (hd : o.dst = none)
    (g : Nat) (x : V) (p : br.P) (old : Array Value) (hx : a.eval a1 = .pointer (some ⟨g, 0, none⟩)) (hy : a.eval a2 = wv x p) (H : Has w g 92 old) (hs2 : old.size = 23)
    (h : ∀ w', w.grownBy w' (some g) → Has w' g 92 (cs23 x p) → wpList Tryz.prog ops Q rest a w') : wpList Tryz.prog ops Q (o :: rest) a w :=
  wpList_store_rowTo hgd _ a1 a2 ho hd g (cs23 x p) hx hy _ old H (by rw [infoW]; rfl) (by rw [hs2]; rfl) (one23 x p) (h _ (row_chg w g (cs23 x p)) (row_has H (cs23 x p)))
theorem ld_row {ops : Array Oper} {rest : List Oper} {o : Oper} {a : Act} {w : World} {Q : Exit → Act → World → Prop} (hgd : o.guard = none) (a1 : Operand) (ho : o.op = .load 92 a1)
    (g : Nat) (x : V) (p : br.P) (hx : a.eval a1 = .pointer (some ⟨g, 0, none⟩)) (H : Has w g 92 (cs23 x p))
    (h : wpList Tryz.prog ops Q rest (a.put o.dst (wv x p)) w) : wpList Tryz.prog ops Q (o :: rest) a w :=
  wpList_load_row hgd _ a1 ho g hx _ (cs23 x p) (0, 0) _ H Tryz.underlying92 rfl (by rw [infoW]; rfl) h
theorem rs_row {fn : Func} {t : Tmp} (h : fn.results = #[.cell t 92]) (tmps : Array Value) (w : World) (g : Nat) (x : V) (p : br.P) (hp : tmps.getD t undef = .pointer (some ⟨g, 0, none⟩)) (H : Has w g 92 (cs23 x p)) :
    (results fn tmps).run Tryz.prog w = .ok (wv x p) w := results_cell_row h tmps w g _ (cs23 x p) (0, 0) _ hp H Tryz.underlying92 rfl (by rw [infoW]; rfl)
theorem infoB : (Tryz.prog.info? 88).map (·.size) = some 13 := by kernel_rfl
theorem one13 (b : br.B) (p : br.P) : (br.cs13 b p).all (·.oneCell') = true := by simp [Value.oneCell']
/-- A brain is laid into a world's box. -/
theorem st_brain {ops : Array Oper} {rest : List Oper} {o : Oper} {a : Act} {w : World} {Q : Exit → Act → World → Prop} (hgd : o.guard = none) (a1 a2 : Operand) (ho : o.op = .store 88 a1 a2) (hd : o.dst = none)
    (g : Nat) (b : br.B) (q : br.P) (x : V) (p : br.P) (hx : a.eval a1 = .pointer (some ⟨g, 0, none⟩)) (hy : a.eval a2 = br.bv b q) (H : Has w g 92 (cs23 x p))
    (h : ∀ w', w.grownBy w' (some g) → Has w' g 92 (cs23 ⟨b, x.he, x.ri, x.sp, x.bk, x.li, x.ly, x.wa, x.ar, x.sq, x.lo⟩ q) → wpList Tryz.prog ops Q rest a w') : wpList Tryz.prog ops Q (o :: rest) a w := by
  refine wpList_store_mid hgd _ a1 a2 ho g 0 (br.cs13 b q) hx hy (fun j hj => ⟨?_, H.frozen _⟩) (by rw [infoB]; rfl) (one13 b q) ?_
  · have hj' : j < 13 := hj
    rw [Nat.zero_add, H.cell j]
    rcases (show j = 0 ∨ j = 1 ∨ j = 2 ∨ j = 3 ∨ j = 4 ∨ j = 5 ∨ j = 6 ∨ j = 7 ∨ j = 8 ∨ j = 9 ∨ j = 10 ∨ j = 11 ∨ j = 12 by omega) with rfl | rfl | rfl | rfl | rfl | rfl | rfl | rfl | rfl | rfl | rfl | rfl | rfl <;> rfl
  · rw [hd]
    exact h _ (br.chg_lay w g _ _ _ _ _ _ _ _ _ _ _ _ _) (set_brain H _ _ _ _ _ _ _ _ _ _ _ _ _)
end Go.Proofs.YtdikhdfpcipdbaaGreatDoor.wd

/- A fan is laid into a brain's list; parts of a brain are others. -/
namespace Go.Proofs.YtdikhdfpcipdbaaGreatDoor.br
open Go.ChangeShapes Go.WideShapes Go.ChangeAt Go.RowKit
open Go.Proofs.YtdikhdfpcipdbaaGreatDoor.nums Go.Proofs.YtdikhdfpcipdbaaGreatDoor.mem
open Go.Proofs.YtdikhdfpcipdbaaGreatDoor.fan (F okF zF fN fO fT)
open Go.Proofs.YtdikhdfpcipdbaaGreatDoor.gt (G)
open Go.Proofs.YtdikhdfpcipdbaaGreatDoor.il (nth Ints)
set_option linter.unusedVariables false

theorem OwnB.fan {z : Nat} {w : World} {b : B} {p : P} (h : OwnB z w b p) {k : Nat} (hk : k < b.fa.length) (r : F) : ∃ (g : Nat) (v0 v1 v2 : Value), p.fa = some ⟨g, 0, none⟩ ∧ g < w.heap.size ∧ z ≤ g ∧ w.cell? ⟨g, k * 3, none⟩ = some v0 ∧ w.cell? ⟨g, k * 3 + 1, none⟩ = some v1 ∧ w.cell? ⟨g, k * 3 + 2, none⟩ = some v2 ∧
    w.frozen? ⟨g, k * 3, none⟩ = false ∧ w.frozen? ⟨g, k * 3 + 1, none⟩ = false ∧ w.frozen? ⟨g, k * 3 + 2, none⟩ = false ∧ (∃ cs, Has w g 189 cs) ∧
    OwnB z (((w.setCell ⟨g, k * 3, none⟩ (.int .i64 r.1)).setCell ⟨g, k * 3 + 1, none⟩ (.bool r.2.1)).setCell ⟨g, k * 3 + 2, none⟩ (.bool r.2.2)) ⟨b.md, b.tm, b.fa.set k r, b.ga, b.se, b.ou, b.ta⟩ p := by
  rcases h.fa with ⟨_, e⟩ | ⟨g, cs, ea, hc, hj⟩
  · rw [e] at hk; simp at hk
  · have S1 := gr_set (gr_set (gr_set (gr_refl w (some g)) (k * 3) (.int .i64 r.1)) (k * 3 + 1) (.bool r.2.1)) (k * 3 + 2) (.bool r.2.2)
    obtain ⟨e0, e1, e2⟩ := hj k hk
    have hsz : k * 3 + 2 < cs.size := (Array.getElem?_eq_some_iff.1 e2).1
    obtain ⟨u0, u1, u2, _, u4⟩ := _root_.Go.Proofs.YtdikhdfpcipdbaaGreatDoor.fan.set3at (A := cs) (n := k + 1) (k := k) (u := .int .i64 r.1) (v := .bool r.2.1) (s := .bool r.2.2) (by omega) (by omega)
    refine ⟨g, _, _, _, ea, hc.lt, h.zf _ ea, (hc.cell _).trans e0, (hc.cell _).trans e1, (hc.cell _).trans e2, hc.frozen _, hc.frozen _, hc.frozen _, ⟨cs, hc⟩, Or.inr ⟨g, _, ea, ((hc.set _ _).set _ _).set _ _, fun j hj' => ?_⟩, h.se.chg (T := fun c => c = g) (se.chg_of_gr S1 (fun b e => by injection e)) (h.se.nbox hc (by decide) (by decide)), h.ou.grown S1 (fun x e => ?_), h.zf, h.zo⟩
    · have hj2 : j < b.fa.length := by simpa using hj'
      by_cases e : j = k
      · subst e
        have q : (b.fa.set j r).getD j zF = r := by simp [List.getD, hk]
        show _ = some (Value.int .i64 ((b.fa.set j r).getD j zF).1) ∧ _ = some (Value.bool ((b.fa.set j r).getD j zF).2.1) ∧ _ = some (Value.bool ((b.fa.set j r).getD j zF).2.2)
        rw [q]
        exact ⟨u0, u1, u2⟩
      · obtain ⟨y0, y1, y2⟩ := u4 j e
        obtain ⟨z0, z1, z2⟩ := hj j hj2
        have q : (b.fa.set k r).getD j zF = b.fa.getD j zF := by simp [List.getD, Ne.symm e]
        show _ = some (Value.int .i64 ((b.fa.set k r).getD j zF).1) ∧ _ = some (Value.bool ((b.fa.set k r).getD j zF).2.1) ∧ _ = some (Value.bool ((b.fa.set k r).getD j zF).2.2)
        rw [q]
        exact ⟨y0.trans z0, y1.trans z1, y2.trans z2⟩
    · intro e2
      have e3 : x = g := by injection e2
      subst e3
      exact h.ou.ne hc (by decide) e.symm
theorem all_set {l : List F} (h : l.all okF = true) (k : Nat) {f : F} (hf : okF f = true) : (l.set k f).all okF = true := by
  rw [List.all_eq_true] at h ⊢
  intro x hx
  rcases List.mem_or_eq_of_mem_set hx with hx | rfl
  · exact h x hx
  · exact hf
end Go.Proofs.YtdikhdfpcipdbaaGreatDoor.br

