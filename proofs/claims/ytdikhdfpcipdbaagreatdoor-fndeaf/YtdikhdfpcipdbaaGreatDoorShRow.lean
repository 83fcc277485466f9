/- Shared of the model where case and wish are right: its answer is a row of its own, that may grow. -/
import Derived.Test.YtdikhdfpcipdbaaGreatDoorShEffS
import Derived.Test.YtdikhdfpcipdbaaGreatDoorShSpec
namespace Go.Proofs.YtdikhdfpcipdbaaGreatDoor.sh
open Go.ChangeShapes Go.WideShapes Go.ChangeAt Go.RowKit
open Go.Proofs.YtdikhdfpcipdbaaGreatDoor.nums Go.Proofs.YtdikhdfpcipdbaaGreatDoor.mem
open Go.Proofs.YtdikhdfpcipdbaaGreatDoor.tab (Ret quiet_w)
open Go.Proofs.YtdikhdfpcipdbaaGreatDoor.qt (rg_ret rg_same gr_rg)
open Go.Proofs.YtdikhdfpcipdbaaGreatDoor.il (nth Own RetI blk blk_some infoInt IRow vals vals_snoc gr_own row_base)
set_option linter.unusedVariables false

/-- A row of numbers of its own comes back. -/
def RetRow (l : List Int) (w : World) (e : Ending) (w' : World) : Prop := ∃ a cap base, e = .returned (.slice a l.length cap) ∧ w.grownBy w' none ∧ IRow w' base (.slice a l.length cap) l ∧ w.heap.size ≤ base ∧ base ≤ w'.heap.size
set_option maxRecDepth 100000 in
set_option maxHeartbeats 8000000 in
theorem specSharedR (c l r p : Int) (w : World) (hx : cas.caseOk c = true) (hy : okD l r p = true) : Calls Tryz.prog 180 #[.int .i64 c, dem l r p] w (RetRow (shared c l r p) w) := by
  have cC := cas.specCaseOk c
  have cO := specSizes l r p
  have H0 := (Has.fresh w 234 #[.int .i64 l, .int .i64 r, .int .i64 p]).alloc (Obj.cells #[] 2)
  have g0 := gr_alloc (World.grownBy_alloc w (Obj.cells #[.int .i64 l, .int .i64 r, .int .i64 p] 234) none) (Obj.cells #[] 2)
  rw [hx] at cC
  rw [hy] at cO
  have o0 := World.ownsRow_made (base := w.heap.size + 1) (e := 2) (size := 1) (w.alloc (Obj.cells #[.int .i64 l, .int .i64 r, .int .i64 p] 234)) #[] 0 (by simp) (Nat.zero_le _) rfl
  rw [shared_yes (by rw [hx, hy]; rfl)]
  unfold shared6
  have hr := btw_in (x := r) (l := -100) (h := 100) (by omega)
  have hp := btw_in (x := p) (l := -100) (h := 100) (by omega)
  have cR := fix.specBetween r (-100) 100
  have cP := fix.specBetween p (-100) 100
  generalize btw r (-100) 100 = r' at *
  generalize btw p (-100) 100 = p' at *
  have hl := cutL_in (c := c) (l := l) hr hp
  obtain ⟨L', hL'⟩ : ∃ L', L' = cutL (on c) l r' p' := ⟨_, rfl⟩
  rw [← hL'] at hl ⊢
  replace hL' := Lib.hid hL'
  have cS := fun W => cas.specStaysIn c W
  have hN6 : (cas.staysIn c).length ≤ 6 := cas.in_len c
  have hat := Lib.hid (fun i => @stays_at c i)
  obtain ⟨N, hN⟩ : ∃ N, N = cas.staysIn c := ⟨_, rfl⟩
  rw [← hN] at cS hN6
  replace hN := Lib.hid hN
  obtain ⟨Z, hZ⟩ : ∃ Z, Z = (List.range 6).map (has c L' r' p') := ⟨_, rfl⟩
  rw [← hZ]
  replace hZ := Lib.hid hZ
  clear hx hy
  obtain ⟨i0, hi, hz0, hz1, hz2⟩ := info_parts infoInt
  go_enter Tryz.func180, Tryz.ntmps180
  go_wp2_with fail
  refine (cC _).mono ?_
  rintro e w' ⟨rfl, rfl⟩
  obtain ⟨c0, c1, c2, _, _, _⟩ := three H0
  go_wp2_with fail
  refine (cO _).mono ?_
  rintro e w1 ⟨rfl, g1⟩
  replace H0 := H0.grown g1 (by simp)
  replace g0 := gr_trans g0 g1
  replace o0 := o0.kept g1 (Or.inr (by simp [Value.ownBlock]))
  clear g1 c0 c1 c2 cC cO
  obtain ⟨c0, c1, c2, f0, f1, f2⟩ := three H0
  go_wp2_with fail
  refine (cR _).mono ?_
  rintro e w' ⟨rfl, rfl⟩
  go_wp2_with fail
  refine (cP _).mono ?_
  rintro e w' ⟨rfl, rfl⟩
  clear cR cP
  go_upto_region 6 with fail
  have hB1 := H0.lt
  replace H0 := (H0.put 1 (.int .i64 r') rfl).put 2 (.int .i64 p') rfl
  have gs : w1.grownBy ((w1.setCell ⟨w.heap.size, 1, none⟩ (.int .i64 r')).setCell ⟨w.heap.size, 2, none⟩ (.int .i64 p')) (some w.heap.size) := gr_set (gr_set (gr_refl _ _) _ _) _ _
  simp only [World.size_alloc] at o0
  replace o0 := o0.kept gs (Or.inr (by simp [Value.ownBlock]))
  replace g0 := gr_past g0 gs (Nat.le_refl _)
  clear gs c0 c1 c2 f0 f1 f2
  generalize (w1.setCell ⟨w.heap.size, 1, none⟩ (.int .i64 r')).setCell ⟨w.heap.size, 2, none⟩ (.int .i64 p') = w2 at *
  go_wp2_with fail
  refine (cS _).mono ?_
  rintro e w3 ⟨a, cap, rfl, g1, o1, _⟩
  clear cS
  replace H0 := H0.grown g1 (by simp)
  replace o0 := o0.kept g1 (Or.inr (by simp [Value.ownBlock]))
  have o2 := o1.ints
  replace g0 := gr_trans g0 g1
  clear g1 o1
  go_wp2_with fail
  have hrow : ∃ (g cp : Nat), g = w.heap.size + 1 ∧ cp = 0 := ⟨_, _, rfl, rfl⟩
  go_loopw [6, 8] (fun s i wr => ∃ (k : Nat) (F : Int), k ≤ N.length ∧ s = .int .i64 F ∧ i = .int .i64 (k : Int) ∧ Hid (F = pmax (onL c (turn r' p')) k) ∧ (0 ≤ F ∧ F ≤ 400) ∧ il.Ints wr a N ∧ Has wr w.heap.size 234 #[.int .i64 l, .int .i64 r', .int .i64 p'] ∧ wr.ownsRow (w.heap.size + 1) 2 1 (.slice (some ⟨w.heap.size + 1, 0, none⟩) 0 0) 0 [] ∧ w.grownBy wr none) (fun _ i _ => N.length - (intOf i).toNat)
  case atStart => exact ⟨0, 0, Nat.zero_le _, rfl, rfl, Lib.hid rfl, ⟨by omega, by omega⟩, o2, H0, o0, g0⟩
  case round =>
    clear o2 H0 o0 g0 hrow
    obtain ⟨k, F, hk, rfl, rfl, hF, hF2, o2, H0, o0, g0⟩ := hrel
    by_cases hlt : k < N.length
    · obtain ⟨x, rfl, hb, cx⟩ := o2 k hlt
      obtain ⟨f, hf, hn, _⟩ := hat.out k (by rw [← hN.out]; exact hlt)
      rw [← hN.out] at hn
      rw [hn] at cx
      have hon : onL c (turn r' p') k = turn r' p' f := by unfold onL; rw [← hN.out, hn]; rfl
      have HN := Lib.hid hon
      have ht := turn_in hr hp hf
      have cT := fun W => specTurn_at hf l r' p' W hr hp
      clear hn hon
      generalize turn r' p' f = t at *
      go_wp2_with fail
      obtain ⟨k0, k1, k2, _, _, _⟩ := three H0
      have q0 : ∀ d os, (Go.Sort.grow (redrawn wr d) os).cell? ⟨w.heap.size, 0, none⟩ = some (.int .i64 l) := cell_regrown k0
      have q1 : ∀ d os, (Go.Sort.grow (redrawn wr d) os).cell? ⟨w.heap.size, 1, none⟩ = some (.int .i64 r') := cell_regrown k1
      have q2 : ∀ d os, (Go.Sort.grow (redrawn wr d) os).cell? ⟨w.heap.size, 2, none⟩ = some (.int .i64 p') := cell_regrown k2
      have q3 : ∀ d os, (Go.Sort.grow (redrawn wr d) os).cell? (x.add k) = some (.int .i64 (f : Int)) := cell_regrown cx
      refine wp_region_quiet_below (by kernel_rfl) (by kernel_rfl) ?_
      repeat (quiet_step (first | (go_at_call 191; exact rg_ret (cT _))))
      refine wpQuiet_nil ?_
      intro _ hw'
      obtain ⟨⟨dq, osq⟩, hw''⟩ := hw'
      subst hw''
      have gq := gr_rg wr dq osq
      replace H0 := H0.grown gq (by simp)
      replace o0 := o0.kept gq (Or.inr (by simp [Value.ownBlock]))
      replace o2 := o2.kept gq
      replace g0 := gr_trans g0 gq
      clear gq q0 q1 q2 q3 k0 k1 k2 cx cT hb
      generalize Go.Sort.grow (redrawn wr dq) osq = w4 at *
      go_wp2_with fail
      refine (fix.specMax t (-t) _).mono ?_
      rintro e w' ⟨rfl, rfl⟩
      have hv : 0 ≤ max t (-t) ∧ max t (-t) ≤ 400 := by omega
      have hst : Hid (pmax (onL c (turn r' p')) (k + 1) = max F (max t (-t))) := Lib.hid (by show max (pmax _ k) (max (onL c (turn r' p') k) (-(onL c (turn r' p') k))) = _; rw [HN.out, ← hF.out])
      generalize max t (-t) = v at *
      clear HN ht
      go_wp2_with fail
      refine (fix.specMax F v _).mono ?_
      rintro e w' ⟨rfl, rfl⟩
      go_wp2_with fail
      go_roundw
      case rel => exact ⟨k + 1, max F v, by omega, rfl, by go_num, Lib.hid hst.out.symm, ⟨by omega, by omega⟩, o2, H0, o0, g0⟩
      case measure => simp [intOf]; omega
    · obtain rfl : k = N.length := by omega
      have hFt : F = top (on c) (turn r' p') := by rw [hF.out, hN.out]; exact pmax_top _
      have cL := fix.specBetween l F (1000 - F)
      rw [show btw l F (1000 - F) = L' by rw [hL'.out]; unfold cutL; rw [← hFt]] at cL
      clear hFt hF o2
      obtain ⟨k0, k1, k2, _, _, _⟩ := three H0
      go_wp2_with fail
      refine (cL _).mono ?_
      rintro e w' ⟨rfl, rfl⟩
      clear k0 k1 k2 cL hL' hat hN6 hN
      go_wp2_with fail
      go_loopw [5, 11] (fun s i wr => ∃ (k cp : Nat) (b : Option Addr) (L : List Int), k ≤ 6 ∧ s = .slice b L.length cp ∧ i = .int .i64 (k : Int) ∧ Hid (L = hasTo c L' r' p' k) ∧ L.length ≤ k ∧ IRow wr (w.heap.size + 1) (.slice b L.length cp) L ∧ Has wr w.heap.size 234 #[.int .i64 l, .int .i64 r', .int .i64 p'] ∧ w.grownBy wr none) (fun _ i _ => 6 - (intOf i).toNat)
      case atStart => exact ⟨0, _, _, [], Nat.zero_le _, rfl, rfl, Lib.hid rfl, Nat.le_refl _, o0, H0, g0⟩
      case round =>
        clear o0 H0 g0
        obtain ⟨k, cp, b, L, hk, rfl, rfl, hL, hLk, hown, H0, g0⟩ := hrel
        by_cases hlt : k < 6
        · have hd : decide ((k : Int) < 6) = true := by simp; omega
          obtain ⟨o, ho⟩ : ∃ o, on c k = o := ⟨_, rfl⟩
          have cS : ∀ W, Calls Tryz.prog 192 #[.int .i64 c, .int .i64 (k : Int)] W fun e w' => e = .returned (.bool o) ∧ W = w' := fun W => ho ▸ cas.specStaysOn c k W
          have hbase := row_base hown
          have hB := H0.lt
          cases o
          · have HO := Lib.hid (show has c L' r' p' k = 0 by unfold has; rw [ho]; rfl)
            clear ho
            go_wp2_with (first | (go_at_call 192; refine (cS _).mono ?_; rintro e w' ⟨rfl, rfl⟩) | (at_builtin; refine wpList_append_lies _ rfl _ _ _ rfl (w.heap.size + 1) 2 i0 _ 1 8 Tryz.underlying25 hi hz0 hz1 hz2 rfl (by omega) (.slice b L.length cp) L.length _ rfl (hown.alloc _) ⟨wr.heap.size, 0, none⟩ 1 1 [.int .i64 0] rfl rfl (World.news_of_block (cs := #[.int .i64 0]) (t := 2) (fr := (0, 0)) (heap_alloc_new wr _)) (by simp [Value.oneCell']) (by omega) (by unfold maxLen; omega) (by omega) (by simp; omega) (wr.heap.size + 1) (by simp) ?_; intro gg cap1 w5 hown3 hgrow hat2 hlt3))
            have hg03 : w.grownBy w5 none := gr_own (gr_alloc g0 _) hgrow (fun g hg => by have := hbase g hg; omega)
            have K3 := (H0.alloc _).grown hgrow (fun e => by have := hbase _ e.symm; omega)
            clear hgrow hat2 hlt3
            go_wp2_with fail
            go_roundw
            case rel => exact ⟨k + 1, cap1, some ⟨gg, 0, none⟩, L ++ [0], by omega, by simp, by go_num, Lib.hid (by rw [hasTo_snoc, ← hL.out, HO.out]), by simp; omega, by unfold IRow; rw [vals_snoc]; simpa using hown3, K3, hg03⟩
            case measure => simp [intOf]; omega
          · have HO := Lib.hid (show has c L' r' p' k = L' + turn r' p' k by unfold has; rw [ho]; rfl)
            have ht := turn_in hr hp hlt
            have cT := fun W => specTurn_at hlt l r' p' W hr hp
            clear ho
            generalize turn r' p' k = t at *
            obtain ⟨k0, k1, k2, _, _, _⟩ := three H0
            go_wp2_with (go_at_call 192; refine (cS _).mono ?_; rintro e w' ⟨rfl, rfl⟩)
            refine (cT _).mono ?_
            rintro e w4 ⟨rfl, g4⟩
            replace H0 := H0.grown g4 (by simp)
            replace hown := hown.kept g4 (Classical.em _)
            replace g0 := gr_trans g0 g4
            have hB4 := H0.lt
            clear k0 k1 k2 g4 cT cS
            go_wp2_with (at_builtin; refine wpList_append_lies _ rfl _ _ _ rfl (w.heap.size + 1) 2 i0 _ 1 8 Tryz.underlying25 hi hz0 hz1 hz2 rfl (by omega) (.slice b L.length cp) L.length _ rfl (hown.alloc _) ⟨w4.heap.size, 0, none⟩ 1 1 [.int .i64 (L' + t)] rfl rfl (World.news_of_block (cs := #[.int .i64 (L' + t)]) (t := 2) (fr := (0, 0)) (heap_alloc_new w4 _)) (by simp [Value.oneCell']) (by omega) (by unfold maxLen; omega) (by omega) (by simp; omega) (w4.heap.size + 1) (by simp) ?_; intro gg cap1 w5 hown3 hgrow hat2 hlt3)
            have hg03 : w.grownBy w5 none := gr_own (gr_alloc g0 _) hgrow (fun g hg => by have := hbase g hg; omega)
            have K3 := (H0.alloc _).grown hgrow (fun e => by have := hbase _ e.symm; omega)
            clear hgrow hat2 hlt3
            go_wp2_with fail
            go_roundw
            case rel => exact ⟨k + 1, cap1, some ⟨gg, 0, none⟩, L ++ [L' + t], by omega, by simp, by go_num, Lib.hid (by rw [hasTo_snoc, ← hL.out, HO.out]), by simp; omega, by unfold IRow; rw [vals_snoc]; simpa using hown3, K3, hg03⟩
            case measure => simp [intOf]; omega
        · obtain rfl : k = 6 := by omega
          go_wp2_with fail
          go_ret
          have e : Z = L := by rw [hZ.out, hL.out]; rfl
          rw [e]
          exact ⟨b, cp, w.heap.size + 1, rfl, g0, hown, by omega, by have := H0.lt; omega⟩
end Go.Proofs.YtdikhdfpcipdbaaGreatDoor.sh
