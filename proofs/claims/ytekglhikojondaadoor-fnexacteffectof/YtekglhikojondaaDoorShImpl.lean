/- Shared of the program. -/
import Derived.Test.YtekglhikojondaaDoorShCut
import Derived.Test.YtekglhikojondaaDoorQuietTail
import Derived.Deep.DeepCutAuto
namespace Go.Proofs.YtekglhikojondaaDoor.sh
open Go.ChangeShapes Go.WideShapes Go.ChangeAt Go.RowKit
open Go.Proofs.YtekglhikojondaaDoor.nums Go.Proofs.YtekglhikojondaaDoor.mem
open Go.Proofs.YtekglhikojondaaDoor.tab (Ret quiet_w wpList_make_has)
open Go.Proofs.YtekglhikojondaaDoor.qt (region_below_tail rg_ret rg_same gr_rg)
open Go.Proofs.YtekglhikojondaaDoor.il (nth Own RetI blk blk_some infoInt)
set_option linter.unusedVariables false

/-- What the k-th fan has: its turn on what is left of the Lift, or nothing. -/
def has (c L r p : Int) (k : Nat) : Int := if on c k then L + turn r p k else 0
def shared6 (c l r p : Int) : List Int := (List.range 6).map (has c (cutL (on c) l (btw r (-100) 100) (btw p (-100) 100)) (btw r (-100) 100) (btw p (-100) 100))
def shared (c l r p : Int) : List Int := if (cas.caseOk c && okD l r p) = true then shared6 c l r p else []
theorem shared_yes {c l r p : Int} (h : (cas.caseOk c && okD l r p) = true) : shared c l r p = shared6 c l r p := if_pos h
theorem shared_no {c l r p : Int} (h : (cas.caseOk c && okD l r p) = false) : shared c l r p = [] := if_neg (by rw [h]; simp)
theorem cutL_in {c l r p : Int} (hr : -100 ≤ r ∧ r ≤ 100) (hp : -100 ≤ p ∧ p ≤ 100) : 0 ≤ cutL (on c) l r p ∧ cutL (on c) l r p ≤ 1000 := by
  have := top_in (S := on c) (t := turn r p) (B := 400) (by omega) (fun k hk => turn_in hr hp hk)
  unfold cutL btw; omega
theorem map6 {g : Nat → Int} {j : Nat} (h : j < 6) : nth ((List.range 6).map g) j = g j := by
  rcases six h with rfl | rfl | rfl | rfl | rfl | rfl <;> rfl

theorem made6 {j : Nat} (hj : j < 6) : (madeCells #[Value.int .i64 0] 6)[j]? = some (.int .i64 0) := by
  rcases six hj with rfl | rfl | rfl | rfl | rfl | rfl <;> simp [madeCells]

set_option maxRecDepth 100000 in
set_option maxHeartbeats 8000000 in
theorem implShared (c l r p : Int) (w : World) (hw : Wts w) : Calls Tryd.prog 11 #[.int .i64 c, dem l r p] w (RetI (shared c l r p) w) := by
  have cC := cas.implCaseOk c
  have cO := implDemandOk l r p
  have H0 := Has.fresh w 25 #[.int .i64 l, .int .i64 r, .int .i64 p]
  have g0 := World.grownBy_alloc w (Obj.cells #[.int .i64 l, .int .i64 r, .int .i64 p] 25) none
  obtain ⟨x, hx⟩ : ∃ x, cas.caseOk c = x := ⟨_, rfl⟩
  rw [hx] at cC
  cases x
  · rw [shared_no (by rw [hx]; rfl)]
    clear cO
    go_enter Tryd.func11, Tryd.ntmps11
    go_wp2_with fail
    refine (cC _).mono ?_
    rintro e w' ⟨rfl, rfl⟩
    go_wp2_with fail
    go_ret
    exact ⟨none, 0, rfl, g0, Or.inl rfl, fun b h => by rw [il.blk_nil] at h; cases h⟩
  obtain ⟨y, hy⟩ : ∃ y, okD l r p = y := ⟨_, rfl⟩
  rw [hy] at cO
  cases y
  · rw [shared_no (by rw [hx, hy]; rfl)]
    go_enter Tryd.func11, Tryd.ntmps11
    go_wp2_with fail
    refine (cC _).mono ?_
    rintro e w' ⟨rfl, rfl⟩
    obtain ⟨c0, c1, c2, _, _, _⟩ := three H0
    go_wp2_with fail
    refine (cO _).mono ?_
    rintro e w1 ⟨rfl, g1⟩
    go_wp2_with fail
    go_ret
    exact ⟨none, 0, rfl, gr_trans g0 g1, Or.inl rfl, fun b h => by rw [il.blk_nil] at h; cases h⟩
  · rw [shared_yes (by rw [hx, hy]; rfl)]
    unfold shared6
    have hr := btw_in (x := r) (l := -100) (h := 100) (by omega)
    have hp := btw_in (x := p) (l := -100) (h := 100) (by omega)
    have cD := fun b => implCut l r p b (on c)
    generalize btw r (-100) 100 = r' at *
    generalize btw p (-100) 100 = p' at *
    have hl := cutL_in (c := c) (l := l) hr hp
    generalize cutL (on c) l r' p' = L at *
    clear hx hy
    obtain ⟨i0, hi, hz0, hz1, hz2⟩ := info_parts infoInt
    obtain ⟨Z, hZ⟩ : ∃ Z, Z = (List.range 6).map (has c L r' p') := ⟨_, rfl⟩
    have hZl : Hid (Z.length = 6) := Lib.hid (by rw [hZ]; rfl)
    have hZa : Hid (∀ j, j < 6 → nth Z j = has c L r' p' j) := Lib.hid (fun j hj => by rw [hZ]; exact map6 hj)
    rw [← hZ]
    clear hZ
    go_enter Tryd.func11, Tryd.ntmps11
    go_wp2_with fail
    refine (cC _).mono ?_
    rintro e w' ⟨rfl, rfl⟩
    obtain ⟨c0, c1, c2, _, _, _⟩ := three H0
    go_wp2_with fail
    refine (cO _).mono ?_
    rintro e w1 ⟨rfl, g1⟩
    replace H0 := H0.grown g1 (by simp)
    replace g0 := gr_trans g0 g1
    clear g1 c0 c1 c2 cC cO
    have hlt0 := H0.lt
    go_wp2_with fail
    refine (implWeightsIn c _ (hw.kept g0)).mono ?_
    rintro e w2 ⟨b, rfl, hb, g2, hs⟩
    replace H0 := H0.grown g2 (by simp)
    have hbw : w.heap.size < b := by omega
    replace g0 := gr_trans g0 g2
    obtain ⟨c0, c1, c2, f0, f1, f2⟩ := three H0
    clear g2 hb
    go_wp2_with fail
    refine (cD b _ hs).mono ?_
    rintro e w3 ⟨rfl, g3⟩
    replace H0 := H0.grown g3 (by simp)
    replace hs := hs.kept g3 (by simp)
    replace g0 := gr_trans g0 g3
    clear g3 c0 c1 c2 f0 f1 f2 cD
    obtain ⟨c0, c1, c2, f0, f1, f2⟩ := three H0
    have hB3 := H0.lt
    have hw0 : 0 < w.heap.size := hw.1
    have K0 := set3 H0 (.int .i64 L) (.int .i64 r') (.int .i64 p')
    have e3 : w3.heap.size = (((w3.setCell ⟨w.heap.size, 0, none⟩ (.int .i64 L)).setCell ⟨w.heap.size, 1, none⟩ (.int .i64 r')).setCell ⟨w.heap.size, 2, none⟩ (.int .i64 p')).heap.size := by simp
    have A0 := Has.fresh (((w3.setCell ⟨w.heap.size, 0, none⟩ (.int .i64 L)).setCell ⟨w.heap.size, 1, none⟩ (.int .i64 r')).setCell ⟨w.heap.size, 2, none⟩ (.int .i64 p')) 2 (madeCells #[.int .i64 0] 6)
    rw [← e3] at A0
    clear e3
    have gS : w3.grownBy (((w3.setCell ⟨w.heap.size, 0, none⟩ (.int .i64 L)).setCell ⟨w.heap.size, 1, none⟩ (.int .i64 r')).setCell ⟨w.heap.size, 2, none⟩ (.int .i64 p')) (some w.heap.size) := gr_set (gr_set (gr_set (gr_refl _ _) _ _) _ _) _ _
    replace hs := (hs.kept gS (by intro e; injection e with e; omega)).kept (World.grownBy_alloc _ (Obj.cells (madeCells #[.int .i64 0] 6) 2) none) (by simp)
    replace g0 := gr_alloc (gr_past g0 gS (Nat.le_refl _)) (Obj.cells (madeCells #[.int .i64 0] 6) 2)
    replace K0 := K0.alloc (Obj.cells (madeCells #[.int .i64 0] 6) 2)
    go_upto_region 6 with (at_make; refine wpList_make_has _ rfl _ _ _ rfl 2 i0 _ 1 Tryd.underlying28 hi hz0 hz1 .i64 .i64 _ _ 6 rfl rfl rfl rfl (by rw [hz2]; omega) (by unfold maxLen; omega) ?_)
    clear c0 c1 c2 f0 f1 f2 gS H0 i0 hi hz0 hz1 hz2
    generalize ((((w3.setCell ⟨w.heap.size, 0, none⟩ (.int .i64 L)).setCell ⟨w.heap.size, 1, none⟩ (.int .i64 r')).setCell ⟨w.heap.size, 2, none⟩ (.int .i64 p')).alloc (Obj.cells (madeCells #[.int .i64 0] 6) 2)) = w4 at *
    generalize w3.heap.size = B at *
    clear hlt0 w3 w2 w1
    obtain ⟨⟨c0, c1, c2, c3, c4, c5⟩, c6, c7, c8, c9, c10, c11⟩ := (hw.kept g0).cells
    go_wp2_with fail
    clear c0 c1 c2 c3 c4 c5 c6 c7 c8 c9 c10 c11
    go_loopw [24] (fun i wr => ∃ (k : Nat) (A : Array Value), k ≤ 6 ∧ i = .int .i64 (k : Int) ∧ Has wr B 2 A ∧ Hid (∀ j, j < 6 → A[j]? = some (.int .i64 (if j < k then has c L r' p' j else 0))) ∧ IsSet wr b (on c) ∧ Has wr w.heap.size 25 #[.int .i64 L, .int .i64 r', .int .i64 p'] ∧ w.grownBy wr none) (fun i _ => 6 - (intOf i).toNat)
    case atStart =>
      exact ⟨0, _, Nat.zero_le _, rfl, A0, Lib.hid (fun j hj => by rw [made6 hj]; simp), hs, K0, g0⟩
    case round =>
      clear A0 hs K0 g0
      obtain ⟨k, A, hk, rfl, hA, hAj, hs, K0, g0⟩ := hrel
      by_cases hlt : k < 6
      · have hd : decide ((k : Int) < 6) = true := by simp; omega
        have hix := index_at hlt
        obtain ⟨o, ho⟩ : ∃ o, on c k = o := ⟨_, rfl⟩
        have HO := Lib.hid ho
        have hs' := hs.kept (World.grownBy_alloc wr (Obj.cells #[.int .i64 (tR k), .int .i64 (tP k)] 57) none) (by simp)
        cases o
        · go_wp2_with (at_lookup; refine wpList_look _ rfl _ _ rfl b (on c) rfl hs' k hlt rfl false ho ?_)
          go_roundw
          case rel => exact ⟨k + 1, A, by omega, by go_num, hA.alloc _, Lib.hid (fun j hj => by
            rw [hAj.out j hj]
            by_cases e : j = k
            · subst e; simp [has, HO.out]
            · have e2 : (j < k + 1) ↔ j < k := by omega
              simp only [e2]), hs', K0.alloc _, gr_alloc g0 _⟩
          case measure => simp [intOf]; omega
        · go_wp2_with (at_lookup; refine wpList_look _ rfl _ _ rfl b (on c) rfl hs' k hlt rfl true ho ?_)
          have ht := turn_in hr hp hlt
          have mR := mul2 (tR_in hlt) hr
          have mP := mul2 (tP_in hlt) hp
          have cT := fun W => implTurn (tR k) (tP k) L r' p' W (by omega) (by omega) (by omega) (by omega)
          have eT : tR k * r' + tP k * p' = turn r' p' k := rfl
          rw [eT] at cT
          have X0 := Has.fresh wr 57 #[.int .i64 (tR k), .int .i64 (tP k)]
          replace hA := hA.alloc (Obj.cells #[.int .i64 (tR k), .int .i64 (tP k)] 57)
          replace K0 := K0.alloc (Obj.cells #[.int .i64 (tR k), .int .i64 (tP k)] 57)
          replace g0 := gr_alloc g0 (Obj.cells #[.int .i64 (tR k), .int .i64 (tP k)] 57)
          clear hs hix hd eT mR mP
          generalize wr.alloc (Obj.cells #[.int .i64 (tR k), .int .i64 (tP k)] 57) = w5 at *
          generalize wr.heap.size = X at *
          obtain ⟨k0, k1, k2, _, _, _⟩ := three K0
          obtain ⟨x0, x1, _, _⟩ := two X0
          have q0 : ∀ d os, (Go.Sort.grow (redrawn w5 d) os).cell? ⟨w.heap.size, 0, none⟩ = some (.int .i64 L) := cell_regrown k0
          have q1 : ∀ d os, (Go.Sort.grow (redrawn w5 d) os).cell? ⟨w.heap.size, 1, none⟩ = some (.int .i64 r') := cell_regrown k1
          have q2 : ∀ d os, (Go.Sort.grow (redrawn w5 d) os).cell? ⟨w.heap.size, 2, none⟩ = some (.int .i64 p') := cell_regrown k2
          have q3 : ∀ d os, (Go.Sort.grow (redrawn w5 d) os).cell? ⟨X, 0, none⟩ = some (.int .i64 (tR k)) := cell_regrown x0
          have q4 : ∀ d os, (Go.Sort.grow (redrawn w5 d) os).cell? ⟨X, 1, none⟩ = some (.int .i64 (tP k)) := cell_regrown x1
          have hk5 : (k : Int) < 6 := by omega
          refine region_below_tail 9 (by kernel_rfl) (by kernel_rfl) ?_
          simp only [List.take_succ_cons, List.take_zero, List.drop_succ_cons, List.drop_zero]
          repeat (quiet_step (first | (go_at_call 41; exact rg_ret (cT _))))
          refine wpQuiet_nil ?_
          intro _ hw'
          obtain ⟨⟨dq, osq⟩, hw''⟩ := hw'
          subst hw''
          have gq := gr_rg w5 dq osq
          replace K0 := K0.grown gq (by simp)
          replace hA := hA.grown gq (by simp)
          replace hs' := hs'.kept gq (by simp)
          replace g0 := gr_trans g0 gq
          clear gq q0 q1 q2 q3 q4 k0 k1 k2 x0 x1 X0 cT
          generalize Go.Sort.grow (redrawn w5 dq) osq = w6 at *
          have d0 := (hA.cell k).trans (hAj.out k hlt)
          rw [if_neg (by omega)] at d0
          have f0 := hA.frozen k
          have hsz : k < A.size := by have := hAj.out k hlt; exact (Array.getElem?_eq_some_iff.1 this).1
          go_wp2_with fail
          go_roundw
          case rel => exact ⟨k + 1, _, by omega, by go_num, hA.set _ _, Lib.hid (fun j hj => by
            by_cases e : j = k
            · subst e; rw [Array.getElem?_setIfInBounds_self_of_lt hsz]; simp [has, HO.out]
            · have e2 : (j < k + 1) ↔ j < k := by omega
              rw [Array.getElem?_setIfInBounds_ne (by omega), hAj.out j hj]; simp only [e2]), hs'.kept (gr_set (gr_refl _ (some B)) _ _) (by intro e; injection e with e; exact hs'.ne hA e), K0.set_other (by omega) _ _, gr_new g0 (by omega) _ _⟩
          case measure => simp [intOf]; omega
      · obtain rfl : k = 6 := by omega
        go_wp2_with fail
        go_ret
        refine ⟨_, 6, by rw [hZl.out]; rfl, g0, Or.inr ⟨_, 0, A, rfl, hA, fun j hj => ?_⟩, fun x e => ?_⟩
        · have hj' : j < 6 := by have := hZl.out; omega
          rw [Nat.zero_add, hAj.out j hj', hZa.out j hj', if_pos hj']
        · rw [blk_some (by intro e2; have := hZl.out; rw [e2] at this; cases this)] at e
          injection e with e; omega
end Go.Proofs.YtekglhikojondaaDoor.sh
