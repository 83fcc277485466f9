/- Gated of the model. -/
import Derived.Test.YtdikhdfpcipdbaaGreatDoorGt2
import Derived.Test.YtdikhdfpcipdbaaGreatDoorQuietTail
import Derived.Deep.DeepCutAuto
namespace Go.Proofs.YtdikhdfpcipdbaaGreatDoor.gt
open Go.ChangeShapes Go.WideShapes Go.ChangeAt Go.RowKit
open Go.Extern.Stop Go.Stop Go.Extern
open Go.Proofs.YtdikhdfpcipdbaaGreatDoor.nums Go.Proofs.YtdikhdfpcipdbaaGreatDoor.mem
open Go.Proofs.YtdikhdfpcipdbaaGreatDoor.fix (ret_int ret_bool)
open Go.Proofs.YtdikhdfpcipdbaaGreatDoor.tab (Ret quiet_w)
open Go.Proofs.YtdikhdfpcipdbaaGreatDoor.md (Fx cs8 fac factsOk eight)
open Go.Proofs.YtdikhdfpcipdbaaGreatDoor.qt (region_below_tail rg_ret rg_same gr_rg)
set_option linter.unusedVariables false

set_option maxHeartbeats 2000000 in
theorem specGated (g : G) (ch st : Bool) (f : Fx) (w : World) : Calls Tryz.prog 166 #[gv g, .bool ch, .bool st, fac f] w (Ret (gv (gated g ch st f)) w) := by
  obtain ⟨a0, b0, r0, g0⟩ := w3_has w g f
  have cG := specGateOk g
  have cF := md.specFactsOk f
  have hn := gated_no (g := g) (ch := ch) (st := st) (f := f)
  have hy := gated_yes (g := g) (ch := ch) (st := st) (f := f)
  have hs : gateOk g.1 = true → 0 ≤ g.1 ∧ g.1 ≤ 100 := by unfold gateOk inb; simp
  cases h1 : gateOk g.1
  · rw [h1] at cG hn
    rw [hn rfl]
    clear hn hy cF h1 hs
    go_enter Tryz.func166, Tryz.ntmps166
    go_wp2_with fail
    refine (cG _).mono ?_
    rintro e w1 ⟨rfl, g1⟩
    replace r0 := r0.grown g1 (by simp)
    replace g0 := gr_trans g0 g1
    obtain ⟨c0, c1, f0, f1⟩ := two r0
    go_wp2_with fail
    obtain ⟨k0, k1, _, _⟩ := two (set2 r0 (.int .i64 0) (.bool false))
    exact bodyPost_ret (v := gv (0, false)) (by simp [results, Tryz.results166, go_sem, k0, k1]) rfl ⟨rfl, gr_new (gr_new g0 (by omega) _ _) (by omega) _ _⟩
  · rw [h1] at cG hn hy
    cases h2 : factsOk f
    · rw [h2] at cF hn
      rw [hn rfl]
      clear hn hy h1 h2 hs
      go_enter Tryz.func166, Tryz.ntmps166
      go_wp2_with fail
      refine (cG _).mono ?_
      rintro e w1 ⟨rfl, g1⟩
      replace b0 := b0.grown g1 (by simp)
      replace r0 := r0.grown g1 (by simp)
      replace g0 := gr_trans g0 g1
      obtain ⟨e0, e1, e2, e3, e4, e5, e6, e7⟩ := eight b0
      go_wp2_with fail
      refine (cF _).mono ?_
      rintro e w2 ⟨rfl, g2⟩
      replace r0 := r0.grown g2 (by simp)
      replace g0 := gr_trans g0 g2
      obtain ⟨c0, c1, f0, f1⟩ := two r0
      go_wp2_with fail
      obtain ⟨k0, k1, _, _⟩ := two (set2 r0 (.int .i64 0) (.bool false))
      exact bodyPost_ret (v := gv (0, false)) (by simp [results, Tryz.results166, go_sem, k0, k1]) rfl ⟨rfl, gr_new (gr_new g0 (by omega) _ _) (by omega) _ _⟩
    · rw [h2] at cF
      rw [hy rfl h2]
      obtain ⟨h0, hle⟩ := hs h1
      clear hn hy h1 h2 hs
      obtain ⟨s, x⟩ := g
      have hlow : Hid ((f.ho && decide (f.h < 30)) = tooLow f) := Lib.hid rfl
      generalize tooLow f = low at *
      have hw : IntKind.i64.wrap (s + 1) = s + 1 := IntWalk.i64_in _ (by omega)
      have cM := specMin 100 (s + 1)
      go_enter Tryz.func166, Tryz.ntmps166
      go_wp2_with fail
      refine (cG _).mono ?_
      rintro e w1 ⟨rfl, g1⟩
      replace a0 := a0.grown g1 (by simp)
      replace b0 := b0.grown g1 (by simp)
      replace r0 := r0.grown g1 (by simp)
      replace g0 := gr_trans g0 g1
      obtain ⟨e0, e1, e2, e3, e4, e5, e6, e7⟩ := eight b0
      go_wp2_with fail
      refine (cF _).mono ?_
      rintro e w2 ⟨rfl, g2⟩
      clear e0 e1 e2 e3 e4 e5 e6 e7
      replace a0 := a0.grown g2 (by simp)
      replace b0 := b0.grown g2 (by simp)
      replace r0 := r0.grown g2 (by simp)
      replace g0 := gr_trans g0 g2
      clear g1 g2 cG cF
      obtain ⟨a1, a2, n1, n2⟩ := two a0
      obtain ⟨c0, c1, f0, f1⟩ := two r0
      cases x
      · cases ch
        · go_wp2_with fail
          obtain ⟨k0, k1, _, _⟩ := two (set2 r0 (.int .i64 0) (.bool false))
          exact bodyPost_ret (v := gv (0, false)) (by simp [results, Tryz.results166, go_sem, k0, k1]) rfl ⟨rfl, gr_new (gr_new g0 (by omega) _ _) (by omega) _ _⟩
        · cases st
          · go_wp2_with fail
            obtain ⟨k0, k1, _, _⟩ := two (set2 r0 (.int .i64 0) (.bool false))
            exact bodyPost_ret (v := gv (0, false)) (by simp [results, Tryz.results166, go_sem, k0, k1]) rfl ⟨rfl, gr_new (gr_new g0 (by omega) _ _) (by omega) _ _⟩
          · have hm : ticked (s, false) true low = (min 100 (s + 1), decide (4 ≤ min 100 (s + 1)) && !low) := by
              rw [show min 100 (s + 1) = min (s + 1) 100 by omega]; rfl
            generalize min 100 (s + 1) = m at *
            obtain ⟨x, hx⟩ : ∃ x, (decide (4 ≤ m) && !low) = x := ⟨_, rfl⟩
            rw [hx] at hm
            have hE := Lib.hid hm
            clear hm
            replace hx := Lib.hid hx
            go_wp2_with fail
            refine (cM _).mono ?_
            rintro e w' ⟨rfl, rfl⟩
            clear cM
            go_upto_region 8 with fail
            replace a0 := a0.put 0 (.int .i64 m) (cs' := cs2 (m, false)) rfl
            replace b0 := b0.set_other (g' := w.heap.size) (by omega) 0 (.int .i64 m)
            replace r0 := r0.set_other (g' := w.heap.size) (by omega) 0 (.int .i64 m)
            replace g0 := gr_new g0 (Nat.le_refl w.heap.size) 0 (.int .i64 m)
            clear a1 a2 n1 n2 c0 c1 f0 f1
            generalize w2.setCell ⟨w.heap.size, 0, none⟩ (.int .i64 m) = w3 at *
            obtain ⟨a1, a2, n1, n2⟩ := two a0
            obtain ⟨m0, m1, m2, m3, m4, m5, m6, m7⟩ := eight b0
            go_cut [] (fun wx => Has wx w.heap.size 86 (cs2 (m, x)) ∧ Has wx (w.heap.size + 1 + 1) 86 #[.int .i64 0, .bool false] ∧ w.grownBy wx none)
            case first =>
              have Y : ∀ y, y = x → Has (w3.setCell ⟨w.heap.size, 1, none⟩ (.bool y)) w.heap.size 86 (cs2 (m, x)) ∧ Has (w3.setCell ⟨w.heap.size, 1, none⟩ (.bool y)) (w.heap.size + 1 + 1) 86 #[.int .i64 0, .bool false] ∧ w.grownBy (w3.setCell ⟨w.heap.size, 1, none⟩ (.bool y)) none := fun y hy => by
                rw [hy]
                exact ⟨a0.put 1 (.bool x) rfl, r0.set_other (by omega) 1 _, gr_new g0 (Nat.le_refl _) 1 _⟩
              have hl := hlow.out
              have hx' := hx.out
              clear hlow hx a0 b0 r0 g0
              go_wp2
              all_goals go_meet
              all_goals exact Y _ (by first | (rw [← hx', show decide (4 ≤ m) = false by rw [decide_eq_false_iff_not]; omega]; rfl) | (rw [← hx', ← hl]; simp_all; done))
            case rest =>
              obtain ⟨a0, r0, g0⟩ := hcut
              obtain ⟨a1, a2, n1, n2⟩ := two a0
              obtain ⟨c0, c1, f0, f1⟩ := two r0
              go_wp2_with fail
              obtain ⟨k0, k1, _, _⟩ := two (set2 r0 (.int .i64 m) (.bool x))
              exact bodyPost_ret (v := gv (m, x)) (by simp [results, Tryz.results166, go_sem, k0, k1]) rfl ⟨by rw [hE.out], gr_new (gr_new g0 (by omega) _ _) (by omega) _ _⟩
      · have e : ticked (s, true) (ch && st) low = (s, true) := rfl
        rw [e]
        clear e
        go_wp2_with fail
        obtain ⟨k0, k1, _, _⟩ := two (set2 r0 (.int .i64 s) (.bool true))
        exact bodyPost_ret (v := gv (s, true)) (by simp [results, Tryz.results166, go_sem, k0, k1]) rfl ⟨rfl, gr_new (gr_new g0 (by omega) _ _) (by omega) _ _⟩
end Go.Proofs.YtdikhdfpcipdbaaGreatDoor.gt
