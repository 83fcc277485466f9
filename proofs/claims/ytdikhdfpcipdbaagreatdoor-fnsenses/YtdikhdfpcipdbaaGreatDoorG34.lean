/- EffectOf of the model. Shared of the model. Shared of the model where case and wish are right: its answer is a row of its own, that may grow. FactsOf of both sides. -/
import Derived.Test.YtdikhdfpcipdbaaGreatDoorG33
import Derived.Test.YtdikhdfpcipdbaaGreatDoorG19
import Derived.Test.YtdikhdfpcipdbaaGreatDoorG22
import Derived.Test.YtdikhdfpcipdbaaGreatDoorG13
import Derived.Deep.DeepCutAuto
/- EffectOf of the model. -/
namespace Go.Proofs.YtdikhdfpcipdbaaGreatDoor.sh
open Go.ChangeShapes Go.WideShapes Go.ChangeAt Go.RowKit
open Go.Proofs.YtdikhdfpcipdbaaGreatDoor.nums Go.Proofs.YtdikhdfpcipdbaaGreatDoor.mem
open Go.Proofs.YtdikhdfpcipdbaaGreatDoor.tab (Ret quiet_w)
open Go.Proofs.YtdikhdfpcipdbaaGreatDoor.il (nth Own RetI blk blk_some infoInt)
set_option linter.unusedVariables false

theorem stays_at {c : Int} {i : Nat} (h : i < (cas.staysIn c).length) : ∃ f : Nat, f < 6 ∧ nth (cas.staysIn c) i = (f : Int) ∧ on c f = true := by
  have hm := il.nth_mem h
  unfold cas.staysIn cas.staysTo at hm
  obtain ⟨f, hf, e⟩ := List.mem_map.1 hm
  obtain ⟨h1, h2⟩ := List.mem_filter.1 hf
  refine ⟨f, List.mem_range.1 h1, ?_, h2⟩
  exact e.symm
theorem stays_of {c : Int} {f : Nat} (hf : f < 6) (h : on c f = true) : ∃ i, i < (cas.staysIn c).length ∧ nth (cas.staysIn c) i = (f : Int) := by
  have hm : (f : Int) ∈ cas.staysIn c := List.mem_map.2 ⟨f, List.mem_filter.2 ⟨List.mem_range.2 hf, h⟩, rfl⟩
  obtain ⟨i, hi, e⟩ := List.getElem_of_mem hm
  exact ⟨i, hi, by rw [il.nth_lt hi, e]⟩
def onL (c : Int) (g : Nat → Int) (j : Nat) : Int := g (nth (cas.staysIn c) j).toNat
theorem eight {c : Int} (h : cas.caseOk c = true) : c = 0 ∨ c = 1 ∨ c = 2 ∨ c = 3 ∨ c = 4 ∨ c = 5 ∨ c = 6 ∨ c = 7 := by
  unfold cas.caseOk inb at h; simp at h; omega
end Go.Proofs.YtdikhdfpcipdbaaGreatDoor.sh

/- Shared of the model. -/
namespace Go.Proofs.YtdikhdfpcipdbaaGreatDoor.sh
open Go.ChangeShapes Go.WideShapes Go.ChangeAt Go.RowKit
open Go.Proofs.YtdikhdfpcipdbaaGreatDoor.nums Go.Proofs.YtdikhdfpcipdbaaGreatDoor.mem
open Go.Proofs.YtdikhdfpcipdbaaGreatDoor.tab (Ret quiet_w)
open Go.Proofs.YtdikhdfpcipdbaaGreatDoor.qt (rg_ret rg_same gr_rg)
open Go.Proofs.YtdikhdfpcipdbaaGreatDoor.il (nth Own RetI blk blk_some infoInt IRow vals vals_snoc gr_own row_base)
set_option linter.unusedVariables false

/-- The greatest size of the first k. -/
def pmax (g : Nat → Int) : Nat → Int
  | 0 => 0
  | k + 1 => max (pmax g k) (max (g k) (-(g k)))
theorem pmax_le {g : Nat → Int} {B : Int} : ∀ {k : Nat}, pmax g k ≤ B ↔ 0 ≤ B ∧ ∀ j, j < k → max (g j) (-(g j)) ≤ B
  | 0 => by simp [pmax]
  | k + 1 => by
    unfold pmax
    rw [Int.max_le, pmax_le]
    constructor
    · rintro ⟨⟨h0, h1⟩, h2⟩
      exact ⟨h0, fun j hj => by
        by_cases e : j = k
        · subst e; exact h2
        · exact h1 j (by omega)⟩
    · rintro ⟨h0, h1⟩
      exact ⟨⟨h0, fun j hj => h1 j (by omega)⟩, h1 k (by omega)⟩
theorem pmax_top {c : Int} (t : Nat → Int) : pmax (onL c t) (cas.staysIn c).length = top (on c) t := by
  have h : ∀ B, pmax (onL c t) (cas.staysIn c).length ≤ B ↔ top (on c) t ≤ B := by
    intro B
    rw [pmax_le, top_le]
    have key : (0 ≤ B ∧ ∀ j, j < (cas.staysIn c).length → max (onL c t j) (-(onL c t j)) ≤ B) ↔ ∀ k, k < 6 → pt (on c) t k ≤ B := by
      constructor
      · rintro ⟨h0, h1⟩ k hk
        unfold pt
        split
        · rename_i ho
          obtain ⟨i, hi, e⟩ := stays_of hk ho
          have := h1 i hi
          unfold onL at this
          rw [e] at this
          exact this
        · exact h0
      · intro h1
        refine ⟨?_, fun j hj => ?_⟩
        · have := h1 0 (by omega)
          have h2 : 0 ≤ pt (on c) t 0 := by unfold pt; split <;> omega
          omega
        · obtain ⟨f, hf, e, ho⟩ := stays_at hj
          have := h1 f hf
          unfold pt at this
          rw [if_pos ho] at this
          unfold onL
          rw [e]
          exact this
    rw [key]
    constructor
    · intro h1; exact ⟨h1 0 (by omega), h1 1 (by omega), h1 2 (by omega), h1 3 (by omega), h1 4 (by omega), h1 5 (by omega)⟩
    · rintro ⟨h0, h1, h2, h3, h4, h5⟩ k hk
      rcases six hk with rfl | rfl | rfl | rfl | rfl | rfl <;> assumption
  exact Int.le_antisymm ((h _).2 (Int.le_refl _)) ((h _).1 (Int.le_refl _))
theorem specTurn_at {k : Nat} (hk : k < 6) (l r p : Int) (w : World) (hr : -100 ≤ r ∧ r ≤ 100) (hp : -100 ≤ p ∧ p ≤ 100) : Calls Tryz.prog 191 #[.int .i64 (k : Int), dem l r p] w (Ret (.int .i64 (turn r p k)) w) := by
  have := specTurn (k : Int) l r p w (by omega) (by omega)
  rw [wR_nat hk, wP_nat hk] at this
  exact this
def hasTo (c L r p : Int) (k : Nat) : List Int := (List.range k).map (has c L r p)
theorem hasTo_snoc (c L r p : Int) (k : Nat) : hasTo c L r p (k + 1) = hasTo c L r p k ++ [has c L r p k] := by unfold hasTo; rw [List.range_succ, List.map_append]; rfl

end Go.Proofs.YtdikhdfpcipdbaaGreatDoor.sh

/- Shared of the model where case and wish are right: its answer is a row of its own, that may grow. -/
namespace Go.Proofs.YtdikhdfpcipdbaaGreatDoor.sh
open Go.ChangeShapes Go.WideShapes Go.ChangeAt Go.RowKit
open Go.Proofs.YtdikhdfpcipdbaaGreatDoor.nums Go.Proofs.YtdikhdfpcipdbaaGreatDoor.mem
open Go.Proofs.YtdikhdfpcipdbaaGreatDoor.tab (Ret quiet_w)
open Go.Proofs.YtdikhdfpcipdbaaGreatDoor.qt (rg_ret rg_same gr_rg)
open Go.Proofs.YtdikhdfpcipdbaaGreatDoor.il (nth Own RetI blk blk_some infoInt IRow vals vals_snoc gr_own row_base)
set_option linter.unusedVariables false

/-- A row of numbers of its own comes back. -/
def RetRow (l : List Int) (w : World) (e : Ending) (w' : World) : Prop := ∃ a cap base, e = .returned (.slice a l.length cap) ∧ w.grownBy w' none ∧ IRow w' base (.slice a l.length cap) l ∧ w.heap.size ≤ base ∧ base ≤ w'.heap.size
set_option maxRecDepth 100000 in
set_option maxHeartbeats 8000000 in
theorem specSharedR (c l r p : Int) (w : World) (hx : cas.caseOk c = true) (hy : okD l r p = true) : Calls Tryz.prog 180 #[.int .i64 c, dem l r p] w (RetRow (shared c l r p) w) := by
  have cC := cas.specCaseOk c
  have cO := specSizes l r p
  have H0 := (Has.fresh w 234 #[.int .i64 l, .int .i64 r, .int .i64 p]).alloc (Obj.cells #[] 2)
  have g0 := gr_alloc (World.grownBy_alloc w (Obj.cells #[.int .i64 l, .int .i64 r, .int .i64 p] 234) none) (Obj.cells #[] 2)
  rw [hx] at cC
  rw [hy] at cO
  have o0 := World.ownsRow_made (base := w.heap.size + 1) (e := 2) (size := 1) (w.alloc (Obj.cells #[.int .i64 l, .int .i64 r, .int .i64 p] 234)) #[] 0 (by simp) (Nat.zero_le _) rfl
  rw [shared_yes (by rw [hx, hy]; rfl)]
  unfold shared6
  have hr := btw_in (x := r) (l := -100) (h := 100) (by omega)
  have hp := btw_in (x := p) (l := -100) (h := 100) (by omega)
  have cR := fix.specBetween r (-100) 100
  have cP := fix.specBetween p (-100) 100
  generalize btw r (-100) 100 = r' at *
  generalize btw p (-100) 100 = p' at *
  have hl := cutL_in (c := c) (l := l) hr hp
  obtain ⟨L', hL'⟩ : ∃ L', L' = cutL (on c) l r' p' := ⟨_, rfl⟩
  rw [← hL'] at hl ⊢
  replace hL' := Lib.hid hL'
  have cS := fun W => cas.specStaysIn c W
  have hN6 : (cas.staysIn c).length ≤ 6 := cas.in_len c
  have hat := Lib.hid (fun i => @stays_at c i)
  obtain ⟨N, hN⟩ : ∃ N, N = cas.staysIn c := ⟨_, rfl⟩
  rw [← hN] at cS hN6
  replace hN := Lib.hid hN
  obtain ⟨Z, hZ⟩ : ∃ Z, Z = (List.range 6).map (has c L' r' p') := ⟨_, rfl⟩
  rw [← hZ]
  replace hZ := Lib.hid hZ
  clear hx hy
  obtain ⟨i0, hi, hz0, hz1, hz2⟩ := info_parts infoInt
  go_enter Tryz.func180, Tryz.ntmps180
  go_wp2_with fail
  refine (cC _).mono ?_
  rintro e w' ⟨rfl, rfl⟩
  obtain ⟨c0, c1, c2, _, _, _⟩ := three H0
  go_wp2_with fail
  refine (cO _).mono ?_
  rintro e w1 ⟨rfl, g1⟩
  replace H0 := H0.grown g1 (by simp)
  replace g0 := gr_trans g0 g1
  replace o0 := o0.kept g1 (Or.inr (by simp [Value.ownBlock]))
  clear g1 c0 c1 c2 cC cO
  obtain ⟨c0, c1, c2, f0, f1, f2⟩ := three H0
  go_wp2_with fail
  refine (cR _).mono ?_
  rintro e w' ⟨rfl, rfl⟩
  go_wp2_with fail
  refine (cP _).mono ?_
  rintro e w' ⟨rfl, rfl⟩
  clear cR cP
  go_upto_region 6 with fail
  have hB1 := H0.lt
  replace H0 := (H0.put 1 (.int .i64 r') rfl).put 2 (.int .i64 p') rfl
  have gs : w1.grownBy ((w1.setCell ⟨w.heap.size, 1, none⟩ (.int .i64 r')).setCell ⟨w.heap.size, 2, none⟩ (.int .i64 p')) (some w.heap.size) := gr_set (gr_set (gr_refl _ _) _ _) _ _
  simp only [World.size_alloc] at o0
  replace o0 := o0.kept gs (Or.inr (by simp [Value.ownBlock]))
  replace g0 := gr_past g0 gs (Nat.le_refl _)
  clear gs c0 c1 c2 f0 f1 f2
  generalize (w1.setCell ⟨w.heap.size, 1, none⟩ (.int .i64 r')).setCell ⟨w.heap.size, 2, none⟩ (.int .i64 p') = w2 at *
  go_wp2_with fail
  refine (cS _).mono ?_
  rintro e w3 ⟨a, cap, rfl, g1, o1, _⟩
  clear cS
  replace H0 := H0.grown g1 (by simp)
  replace o0 := o0.kept g1 (Or.inr (by simp [Value.ownBlock]))
  have o2 := o1.ints
  replace g0 := gr_trans g0 g1
  clear g1 o1
  go_wp2_with fail
  have hrow : ∃ (g cp : Nat), g = w.heap.size + 1 ∧ cp = 0 := ⟨_, _, rfl, rfl⟩
  go_loopw [6, 8] (fun s i wr => ∃ (k : Nat) (F : Int), k ≤ N.length ∧ s = .int .i64 F ∧ i = .int .i64 (k : Int) ∧ Hid (F = pmax (onL c (turn r' p')) k) ∧ (0 ≤ F ∧ F ≤ 400) ∧ il.Ints wr a N ∧ Has wr w.heap.size 234 #[.int .i64 l, .int .i64 r', .int .i64 p'] ∧ wr.ownsRow (w.heap.size + 1) 2 1 (.slice (some ⟨w.heap.size + 1, 0, none⟩) 0 0) 0 [] ∧ w.grownBy wr none) (fun _ i _ => N.length - (intOf i).toNat)
  case atStart => exact ⟨0, 0, Nat.zero_le _, rfl, rfl, Lib.hid rfl, ⟨by omega, by omega⟩, o2, H0, o0, g0⟩
  case round =>
    clear o2 H0 o0 g0 hrow
    obtain ⟨k, F, hk, rfl, rfl, hF, hF2, o2, H0, o0, g0⟩ := hrel
    by_cases hlt : k < N.length
    · obtain ⟨x, rfl, hb, cx⟩ := o2 k hlt
      obtain ⟨f, hf, hn, _⟩ := hat.out k (by rw [← hN.out]; exact hlt)
      rw [← hN.out] at hn
      rw [hn] at cx
      have hon : onL c (turn r' p') k = turn r' p' f := by unfold onL; rw [← hN.out, hn]; rfl
      have HN := Lib.hid hon
      have ht := turn_in hr hp hf
      have cT := fun W => specTurn_at hf l r' p' W hr hp
      clear hn hon
      generalize turn r' p' f = t at *
      go_wp2_with fail
      obtain ⟨k0, k1, k2, _, _, _⟩ := three H0
      have q0 : ∀ d os, (Go.Sort.grow (redrawn wr d) os).cell? ⟨w.heap.size, 0, none⟩ = some (.int .i64 l) := cell_regrown k0
      have q1 : ∀ d os, (Go.Sort.grow (redrawn wr d) os).cell? ⟨w.heap.size, 1, none⟩ = some (.int .i64 r') := cell_regrown k1
      have q2 : ∀ d os, (Go.Sort.grow (redrawn wr d) os).cell? ⟨w.heap.size, 2, none⟩ = some (.int .i64 p') := cell_regrown k2
      have q3 : ∀ d os, (Go.Sort.grow (redrawn wr d) os).cell? (x.add k) = some (.int .i64 (f : Int)) := cell_regrown cx
      refine wp_region_quiet_below (by kernel_rfl) (by kernel_rfl) ?_
      repeat (quiet_step (first | (go_at_call 191; exact rg_ret (cT _))))
      refine wpQuiet_nil ?_
      intro _ hw'
      obtain ⟨⟨dq, osq⟩, hw''⟩ := hw'
      subst hw''
      have gq := gr_rg wr dq osq
      replace H0 := H0.grown gq (by simp)
      replace o0 := o0.kept gq (Or.inr (by simp [Value.ownBlock]))
      replace o2 := o2.kept gq
      replace g0 := gr_trans g0 gq
      clear gq q0 q1 q2 q3 k0 k1 k2 cx cT hb
      generalize Go.Sort.grow (redrawn wr dq) osq = w4 at *
      go_wp2_with fail
      refine (fix.specMax t (-t) _).mono ?_
      rintro e w' ⟨rfl, rfl⟩
      have hv : 0 ≤ max t (-t) ∧ max t (-t) ≤ 400 := by omega
      have hst : Hid (pmax (onL c (turn r' p')) (k + 1) = max F (max t (-t))) := Lib.hid (by show max (pmax _ k) (max (onL c (turn r' p') k) (-(onL c (turn r' p') k))) = _; rw [HN.out, ← hF.out])
      generalize max t (-t) = v at *
      clear HN ht
      go_wp2_with fail
      refine (fix.specMax F v _).mono ?_
      rintro e w' ⟨rfl, rfl⟩
      go_wp2_with fail
      go_roundw
      case rel => exact ⟨k + 1, max F v, by omega, rfl, by go_num, Lib.hid hst.out.symm, ⟨by omega, by omega⟩, o2, H0, o0, g0⟩
      case measure => simp [intOf]; omega
    · obtain rfl : k = N.length := by omega
      have hFt : F = top (on c) (turn r' p') := by rw [hF.out, hN.out]; exact pmax_top _
      have cL := fix.specBetween l F (1000 - F)
      rw [show btw l F (1000 - F) = L' by rw [hL'.out]; unfold cutL; rw [← hFt]] at cL
      clear hFt hF o2
      obtain ⟨k0, k1, k2, _, _, _⟩ := three H0
      go_wp2_with fail
      refine (cL _).mono ?_
      rintro e w' ⟨rfl, rfl⟩
      clear k0 k1 k2 cL hL' hat hN6 hN
      go_wp2_with fail
      go_loopw [5, 11] (fun s i wr => ∃ (k cp : Nat) (b : Option Addr) (L : List Int), k ≤ 6 ∧ s = .slice b L.length cp ∧ i = .int .i64 (k : Int) ∧ Hid (L = hasTo c L' r' p' k) ∧ L.length ≤ k ∧ IRow wr (w.heap.size + 1) (.slice b L.length cp) L ∧ Has wr w.heap.size 234 #[.int .i64 l, .int .i64 r', .int .i64 p'] ∧ w.grownBy wr none) (fun _ i _ => 6 - (intOf i).toNat)
      case atStart => exact ⟨0, _, _, [], Nat.zero_le _, rfl, rfl, Lib.hid rfl, Nat.le_refl _, o0, H0, g0⟩
      case round =>
        clear o0 H0 g0
        obtain ⟨k, cp, b, L, hk, rfl, rfl, hL, hLk, hown, H0, g0⟩ := hrel
        by_cases hlt : k < 6
        · have hd : decide ((k : Int) < 6) = true := by simp; omega
          obtain ⟨o, ho⟩ : ∃ o, on c k = o := ⟨_, rfl⟩
          have cS : ∀ W, Calls Tryz.prog 192 #[.int .i64 c, .int .i64 (k : Int)] W fun e w' => e = .returned (.bool o) ∧ W = w' := fun W => ho ▸ cas.specStaysOn c k W
          have hbase := row_base hown
          have hB := H0.lt
          cases o
          · have HO := Lib.hid (show has c L' r' p' k = 0 by unfold has; rw [ho]; rfl)
            clear ho
            go_wp2_with (first | (go_at_call 192; refine (cS _).mono ?_; rintro e w' ⟨rfl, rfl⟩) | (at_builtin; refine wpList_append_lies _ rfl _ _ _ rfl (w.heap.size + 1) 2 i0 _ 1 8 Tryz.underlying25 hi hz0 hz1 hz2 rfl (by omega) (.slice b L.length cp) L.length _ rfl (hown.alloc _) ⟨wr.heap.size, 0, none⟩ 1 1 [.int .i64 0] rfl rfl (World.news_of_block (cs := #[.int .i64 0]) (t := 2) (fr := (0, 0)) (heap_alloc_new wr _)) (by simp [Value.oneCell']) (by omega) (by unfold maxLen; omega) (by omega) (by simp; omega) (wr.heap.size + 1) (by simp) ?_; intro gg cap1 w5 hown3 hgrow hat2 hlt3))
            have hg03 : w.grownBy w5 none := gr_own (gr_alloc g0 _) hgrow (fun g hg => by have := hbase g hg; omega)
            have K3 := (H0.alloc _).grown hgrow (fun e => by have := hbase _ e.symm; omega)
            clear hgrow hat2 hlt3
            go_wp2_with fail
            go_roundw
            case rel => exact ⟨k + 1, cap1, some ⟨gg, 0, none⟩, L ++ [0], by omega, by simp, by go_num, Lib.hid (by rw [hasTo_snoc, ← hL.out, HO.out]), by simp; omega, by unfold IRow; rw [vals_snoc]; simpa using hown3, K3, hg03⟩
            case measure => simp [intOf]; omega
          · have HO := Lib.hid (show has c L' r' p' k = L' + turn r' p' k by unfold has; rw [ho]; rfl)
            have ht := turn_in hr hp hlt
            have cT := fun W => specTurn_at hlt l r' p' W hr hp
            clear ho
            generalize turn r' p' k = t at *
            obtain ⟨k0, k1, k2, _, _, _⟩ := three H0
            go_wp2_with (go_at_call 192; refine (cS _).mono ?_; rintro e w' ⟨rfl, rfl⟩)
            refine (cT _).mono ?_
            rintro e w4 ⟨rfl, g4⟩
            replace H0 := H0.grown g4 (by simp)
            replace hown := hown.kept g4 (Classical.em _)
            replace g0 := gr_trans g0 g4
            have hB4 := H0.lt
            clear k0 k1 k2 g4 cT cS
            go_wp2_with (at_builtin; refine wpList_append_lies _ rfl _ _ _ rfl (w.heap.size + 1) 2 i0 _ 1 8 Tryz.underlying25 hi hz0 hz1 hz2 rfl (by omega) (.slice b L.length cp) L.length _ rfl (hown.alloc _) ⟨w4.heap.size, 0, none⟩ 1 1 [.int .i64 (L' + t)] rfl rfl (World.news_of_block (cs := #[.int .i64 (L' + t)]) (t := 2) (fr := (0, 0)) (heap_alloc_new w4 _)) (by simp [Value.oneCell']) (by omega) (by unfold maxLen; omega) (by omega) (by simp; omega) (w4.heap.size + 1) (by simp) ?_; intro gg cap1 w5 hown3 hgrow hat2 hlt3)
            have hg03 : w.grownBy w5 none := gr_own (gr_alloc g0 _) hgrow (fun g hg => by have := hbase g hg; omega)
            have K3 := (H0.alloc _).grown hgrow (fun e => by have := hbase _ e.symm; omega)
            clear hgrow hat2 hlt3
            go_wp2_with fail
            go_roundw
            case rel => exact ⟨k + 1, cap1, some ⟨gg, 0, none⟩, L ++ [L' + t], by omega, by simp, by go_num, Lib.hid (by rw [hasTo_snoc, ← hL.out, HO.out]), by simp; omega, by unfold IRow; rw [vals_snoc]; simpa using hown3, K3, hg03⟩
            case measure => simp [intOf]; omega
        · obtain rfl : k = 6 := by omega
          go_wp2_with fail
          go_ret
          have e : Z = L := by rw [hZ.out, hL.out]; rfl
          rw [e]
          exact ⟨b, cp, w.heap.size + 1, rfl, g0, hown, by omega, by have := H0.lt; omega⟩
end Go.Proofs.YtdikhdfpcipdbaaGreatDoor.sh

/- FactsOf of both sides. -/
namespace Go.Proofs.YtdikhdfpcipdbaaGreatDoor.se
open Go.ChangeShapes Go.WideShapes Go.ChangeAt Go.RowKit
open Go.Proofs.YtdikhdfpcipdbaaGreatDoor.nums Go.Proofs.YtdikhdfpcipdbaaGreatDoor.mem
open Go.Proofs.YtdikhdfpcipdbaaGreatDoor.tab (Ret)
open Go.Proofs.YtdikhdfpcipdbaaGreatDoor.md (Fx cs8 fac eight free8)
open Go.Proofs.YtdikhdfpcipdbaaGreatDoor.qt (region_below_tail rg_ret rg_same gr_rg)
set_option linter.unusedVariables false

def zF : Fx := ⟨0, false, 0, false, 0, false, 0, 0⟩
def factsOf (s : S) (c t : Int) : Fx := if (ok s && cas.caseOk c) = true then ⟨(vt.voteThree s.sp 3).1, (vt.voteThree s.sp 3).2, (vt.voteTwo s.he 3 10).1, (vt.voteTwo s.he 3 10).2, c, s.ar, s.wn, btw t 0 1000⟩ else zF
theorem factsOf_no {s : S} {c : Int} (t : Int) (h : (ok s && cas.caseOk c) = false) : factsOf s c t = zF := if_neg (by rw [h]; simp)
theorem factsOf_yes {s : S} {c : Int} (t : Int) (h : (ok s && cas.caseOk c) = true) : factsOf s c t = ⟨(vt.voteThree s.sp 3).1, (vt.voteThree s.sp 3).2, (vt.voteTwo s.he 3 10).1, (vt.voteTwo s.he 3 10).2, c, s.ar, s.wn, btw t 0 1000⟩ := if_pos h
theorem put8 {w : World} {g : Nat} {t : TypeId} {a b c d e f i j : Value} (h : Has w g t #[a, b, c, d, e, f, i, j]) (a' b' c' d' e' f' i' j' : Value) :
    Has ((((((((w.setCell ⟨g, 0, none⟩ a').setCell ⟨g, 1, none⟩ b').setCell ⟨g, 2, none⟩ c').setCell ⟨g, 3, none⟩ d').setCell ⟨g, 4, none⟩ e').setCell ⟨g, 5, none⟩ f').setCell ⟨g, 6, none⟩ i').setCell ⟨g, 7, none⟩ j') g t #[a', b', c', d', e', f', i', j'] := by
  have h0 := Has.put h 0 a' (cs' := #[a', b, c, d, e, f, i, j]) rfl
  have h1 := Has.put h0 1 b' (cs' := #[a', b', c, d, e, f, i, j]) rfl
  have h2 := Has.put h1 2 c' (cs' := #[a', b', c', d, e, f, i, j]) rfl
  have h3 := Has.put h2 3 d' (cs' := #[a', b', c', d', e, f, i, j]) rfl
  have h4 := Has.put h3 4 e' (cs' := #[a', b', c', d', e', f, i, j]) rfl
  have h5 := Has.put h4 5 f' (cs' := #[a', b', c', d', e', f', i, j]) rfl
  have h6 := Has.put h5 6 i' (cs' := #[a', b', c', d', e', f', i', j]) rfl
  have h7 := Has.put h6 7 j' (cs' := #[a', b', c', d', e', f', i', j']) rfl
  exact h7
theorem gr8 {a w : World} {g : Nat} (h : a.grownBy w none) (hg : a.heap.size ≤ g) (u0 u1 u2 u3 u4 u5 u6 u7 : Value) :
    a.grownBy ((((((((w.setCell ⟨g, 0, none⟩ u0).setCell ⟨g, 1, none⟩ u1).setCell ⟨g, 2, none⟩ u2).setCell ⟨g, 3, none⟩ u3).setCell ⟨g, 4, none⟩ u4).setCell ⟨g, 5, none⟩ u5).setCell ⟨g, 6, none⟩ u6).setCell ⟨g, 7, none⟩ u7) none :=
  gr_new (gr_new (gr_new (gr_new (gr_new (gr_new (gr_new (gr_new h hg _ _) hg _ _) hg _ _) hg _ _) hg _ _) hg _ _) hg _ _) hg _ _

set_option maxHeartbeats 4000000 in
theorem specFacts (s : S) (p : P) (c t : Int) (w : World) (h : Arg w s p) (hb : Bd s 1048576) : Calls Tryz.prog 12 #[sv s p, .int .i64 c, .int .i64 t] w (Ret (fac (factsOf s c t)) w) := by
  have A0 := (Has.fresh w 27 (cs6 s p)).alloc (Obj.cells (cs8 zF) 35)
  have R0 := Has.fresh (w.alloc (Obj.cells (cs6 s p) 27)) 35 (cs8 zF)
  have g0 := gr_alloc (World.grownBy_alloc w (Obj.cells (cs6 s p) 27) none) (Obj.cells (cs8 zF) 35)
  simp only [World.size_alloc] at R0
  have hl1 := hb.sp
  have hl2 := hb.he
  have cO := fun W (k : Arg W s p) => specSensesOk s p W k hb
  have cC := cas.specCaseOk c
  have hn := factsOf_no (s := s) (c := c) t
  have hy := factsOf_yes (s := s) (c := c) t
  obtain ⟨⟨c0, c1, c2⟩, c3, c4, c5⟩ := six A0
  cases h1 : ok s
  · rw [h1] at cO hn
    rw [hn rfl]
    clear hn hy h1 cC
    go_enter Tryz.func12, Tryz.ntmps12
    go_wp2_with fail
    refine (cO _ (h.kept g0)).mono ?_
    rintro e w1 ⟨rfl, g1⟩
    have R1 := R0.grown g1 (by simp)
    obtain ⟨r0, r1, r2, r3, r4, r5, r6, r7⟩ := eight R1
    obtain ⟨f0, f1, f2, f3, f4, f5, f6, f7⟩ := free8 R1
    go_wp2_with fail
    obtain ⟨u0, u1, u2, u3, u4, u5, u6, u7⟩ := eight (put8 R1 (.int .i64 0) (.bool false) (.int .i64 0) (.bool false) (.int .i64 0) (.bool false) (.int .i64 0) (.int .i64 0))
    exact bodyPost_ret (v := fac zF) (by simp [results, Tryz.results12, go_sem, u0, u1, u2, u3, u4, u5, u6, u7, zF]) rfl ⟨rfl, gr8 (gr_trans g0 g1) (by omega) _ _ _ _ _ _ _ _⟩
  · rw [h1] at cO hn hy
    cases h2 : cas.caseOk c
    · rw [h2] at cC hn
      rw [hn rfl]
      clear hn hy h1 h2
      go_enter Tryz.func12, Tryz.ntmps12
      go_wp2_with fail
      refine (cO _ (h.kept g0)).mono ?_
      rintro e w1 ⟨rfl, g1⟩
      have R1 := R0.grown g1 (by simp)
      obtain ⟨r0, r1, r2, r3, r4, r5, r6, r7⟩ := eight R1
      obtain ⟨f0, f1, f2, f3, f4, f5, f6, f7⟩ := free8 R1
      go_wp2_with fail
      refine (cC _).mono ?_
      rintro e w2 ⟨rfl, rfl⟩
      go_wp2_with fail
      obtain ⟨u0, u1, u2, u3, u4, u5, u6, u7⟩ := eight (put8 R1 (.int .i64 0) (.bool false) (.int .i64 0) (.bool false) (.int .i64 0) (.bool false) (.int .i64 0) (.int .i64 0))
      exact bodyPost_ret (v := fac zF) (by simp [results, Tryz.results12, go_sem, u0, u1, u2, u3, u4, u5, u6, u7, zF]) rfl ⟨rfl, gr8 (gr_trans g0 g1) (by omega) _ _ _ _ _ _ _ _⟩
    · rw [h2] at cC hy
      rw [hy rfl]
      clear hn hy h1 h2
      have cT := fun W (k : rd.Arg W p.a1 s.sp) => vt.specVoteThree p.a1 p.c1 s.sp 3 W k hl1
      have cU := fun W (k : rd.Arg W p.a2 s.he) => vt.specVoteTwo p.a2 p.c2 s.he 3 10 W k hl2
      have cB := fun W => fix.specBetween t 0 1000 W
      generalize vt.voteThree s.sp 3 = v3 at *
      generalize vt.voteTwo s.he 3 10 = v2 at *
      generalize btw t 0 1000 = T at *
      obtain ⟨x3, o3⟩ := v3
      obtain ⟨x2, o2⟩ := v2
      go_enter Tryz.func12, Tryz.ntmps12
      go_wp2_with fail
      refine (cO _ (h.kept g0)).mono ?_
      rintro e w1 ⟨rfl, g1⟩
      replace A0 := A0.grown g1 (by simp)
      replace R0 := R0.grown g1 (by simp)
      replace g0 := gr_trans g0 g1
      clear g1 c0 c1 c2 c3 c4 c5
      obtain ⟨⟨c0, c1, c2⟩, c3, c4, c5⟩ := six A0
      go_wp2_with fail
      refine (cC _).mono ?_
      rintro e w2 ⟨rfl, rfl⟩
      go_wp2_with fail
      refine (cT _ (h.kept g0).sp).mono ?_
      rintro e w3 ⟨rfl, g1⟩
      replace A0 := A0.grown g1 (by simp)
      replace R0 := R0.grown g1 (by simp)
      replace g0 := gr_trans g0 g1
      clear g1 c0 c1 c2 c3 c4 c5
      obtain ⟨⟨c0, c1, c2⟩, c3, c4, c5⟩ := six A0
      go_wp2_with fail
      refine (cU _ (h.kept g0).he).mono ?_
      rintro e w4 ⟨rfl, g1⟩
      replace A0 := A0.grown g1 (by simp)
      replace R0 := R0.grown g1 (by simp)
      replace g0 := gr_trans g0 g1
      clear g1 c0 c1 c2 c3 c4 c5 cO cC cT cU
      obtain ⟨⟨c0, c1, c2⟩, c3, c4, c5⟩ := six A0
      have q3 : ∀ d os, (Go.Sort.grow (redrawn w4 d) os).cell? ⟨w.heap.size, 3, none⟩ = some (.int .i64 s.wn) := cell_regrown c3
      have q4 : ∀ d os, (Go.Sort.grow (redrawn w4 d) os).cell? ⟨w.heap.size, 4, none⟩ = some (.bool s.ar) := cell_regrown c4
      go_upto_region 5 with fail
      refine region_below_tail 12 (by kernel_rfl) (by kernel_rfl) ?_
      simp only [List.take_succ_cons, List.take_zero, List.drop_succ_cons, List.drop_zero]
      repeat (quiet_step (first | (go_at_call 44; with_reducible exact rg_same (cB _)) | fail))
      refine wpQuiet_nil ?_
      intro _ hw'
      obtain ⟨⟨dq, osq⟩, hw''⟩ := hw'
      subst hw''
      have gq := gr_rg w4 dq osq
      replace R0 := R0.grown gq (by simp)
      replace g0 := gr_trans g0 gq
      clear gq q3 q4 c0 c1 c2 c3 c4 c5 A0 cB
      generalize Go.Sort.grow (redrawn w4 dq) osq = w5 at *
      obtain ⟨r0, r1, r2, r3, r4, r5, r6, r7⟩ := eight R0
      obtain ⟨f0, f1, f2, f3, f4, f5, f6, f7⟩ := free8 R0
      go_wp2_with fail
      obtain ⟨u0, u1, u2, u3, u4, u5, u6, u7⟩ := eight (put8 R0 (.int .i64 x3) (.bool o3) (.int .i64 x2) (.bool o2) (.int .i64 c) (.bool s.ar) (.int .i64 s.wn) (.int .i64 T))
      exact bodyPost_ret (v := fac ⟨x3, o3, x2, o2, c, s.ar, s.wn, T⟩) (by simp [results, Tryz.results12, go_sem, u0, u1, u2, u3, u4, u5, u6, u7]) rfl ⟨rfl, gr8 g0 (by omega) _ _ _ _ _ _ _ _⟩
end Go.Proofs.YtdikhdfpcipdbaaGreatDoor.se

