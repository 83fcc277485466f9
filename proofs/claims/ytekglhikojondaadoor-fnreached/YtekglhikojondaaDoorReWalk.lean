/- The walk of the law of what is reached. -/
import Derived.Test.YtekglhikojondaaDoorShEq
import Derived.Test.YtekglhikojondaaDoorShRe
import Derived.Test.YtekglhikojondaaDoorShDraw2
import Derived.Test.YtekglhikojondaaDoorPick
namespace Go.Proofs.YtekglhikojondaaDoor.sh
open Go.ChangeShapes Go.WideShapes Go.ChangeAt Go.RowKit
open Go.Proofs.YtekglhikojondaaDoor.nums Go.Proofs.YtekglhikojondaaDoor.mem Go.Proofs.YtekglhikojondaaDoor.cur
open Go.Proofs.YtekglhikojondaaDoor.tab (Ret)
open Go.Proofs.YtekglhikojondaaDoor.il (nth Own IRow vals infoInt blk)
set_option linter.unusedVariables false

theorem across_w {x : Int} (h0 : 0 ≤ x) (h5 : x ≤ 5) : wR (cas.across x) = -(wR x) ∧ wP (cas.across x) = -(wP x) := by
  obtain ⟨k, rfl⟩ := Int.eq_ofNat_of_zero_le h0
  have hk : k < 6 := by omega
  rcases six hk with rfl | rfl | rfl | rfl | rfl | rfl <;> decide
theorem nth_set {l : List Int} {k j : Nat} (hk : k < l.length) : nth (l.set k 0) j = if j = k then 0 else nth l j := by
  unfold nth
  by_cases e : j = k
  · subst e; simp [List.getD, hk]
  · simp [List.getD, e, Ne.symm e]
theorem psum6 (g : Nat → Int) : psum g 6 = g 0 + g 1 + g 2 + g 3 + g 4 + g 5 := by simp [psum]
theorem psum_set {g g' : Nat → Int} {k : Nat} (hk : k < 6) (h : ∀ j, g' j = if j = k then 0 else g j) : psum g' 6 = psum g 6 - g k := by
  rw [psum6, psum6, h 0, h 1, h 2, h 3, h 4, h 5]
  rcases six hk with rfl | rfl | rfl | rfl | rfl | rfl <;> simp <;> omega
theorem ok_set {l : List Int} {k : Nat} (hk : k < 6) (h : okL l = true) : okL (l.set k 0) = true := by
  unfold okL at h ⊢
  simp only [Bool.and_eq_true, decide_eq_true_eq] at h ⊢
  refine ⟨by rw [List.length_set]; exact h.1, all_of fun j hj => ?_⟩
  rw [List.length_set] at hj
  rw [nth_set (by omega)]
  split
  · rfl
  · exact all_at h.2 hj
/-- With one of them nothing so much less is reached. -/
theorem re_set {l : List Int} {k : Nat} (hk : k < 6) (h : okL l = true) : reL (l.set k 0) = reL l - nth l k ∧ reR (l.set k 0) = reR l - tR k * nth l k ∧ reP (l.set k 0) = reP l - tP k * nth l k := by
  have h6 : l.length = 6 := by unfold okL at h; simp at h; exact h.1
  obtain ⟨a1, a2, a3⟩ := re_yes h
  obtain ⟨b1, b2, b3⟩ := re_yes (ok_set hk h)
  rw [a1, a2, a3, b1, b2, b3]
  refine ⟨psum_set hk fun j => nth_set (by omega), psum_set (g := gR l) hk fun j => ?_, psum_set (g := gP l) hk fun j => ?_⟩
  · unfold gR; rw [nth_set (by omega)]; split <;> simp
  · unfold gP; rw [nth_set (by omega)]; split <;> simp
theorem re_in {l : List Int} (h : okL l = true) : (-12000 ≤ reL l ∧ reL l ≤ 12000) ∧ (-12000 ≤ reR l ∧ reR l ≤ 12000) ∧ (-12000 ≤ reP l ∧ reP l ≤ 12000) := by
  obtain ⟨a1, a2, a3⟩ := re_yes h
  have h6 : l.length = 6 := by unfold okL at h; simp at h; exact h.1
  have ha : ∀ j, j < 6 → okO (nth l j) = true := fun j hj => by
    unfold okL at h; simp only [Bool.and_eq_true] at h
    exact all_at h.2 (by omega)
  rw [a1, a2, a3]
  exact ⟨psum_bd (Nat.le_refl _) (fun j hj => gL_in (ha j hj)), psum_bd (Nat.le_refl _) (fun j hj => gR_in hj (ha j hj)), psum_bd (Nat.le_refl _) (fun j hj => gP_in hj (ha j hj))⟩

set_option maxRecDepth 100000 in
set_option maxHeartbeats 8000000 in
theorem reachedLaw (b : Option Addr) (n c : Nat) (w : World) (hb : Bytes w w.heap.size b n) (hv : Wts w) :
    Calls Tryd.prog 4 #[.slice b n c] w fun e w' => e = .returned (.bool true) ∧ Below w.heap.size w w' := by
  by_cases hbig : 4096 < n
  · have hd : decide (4096 < n) = true := by simp [hbig]
    go_enter Tryd.func4, Tryd.ntmps4
    go_wp2_with fail
    refine (big b n c w).mono ?_
    rintro e w1 ⟨rfl, rfl⟩
    go_wp2_with fail
    go_ret
    exact ⟨rfl, Below.refl _ _⟩
  · have hd : decide (4096 < n) = false := by simp [hbig]
    have hn : n ≤ 4096 := by omega
    go_enter Tryd.func4, Tryd.ntmps4
    go_wp2_with fail
    refine (big b n c w).mono ?_
    rintro e w1 ⟨rfl, rfl⟩
    go_wp2_with fail
    refine (drawReached b n c _ hn hb).mono ?_
    rintro e w1 ⟨a, cap, l, rfl, hl8, g0, hO, hab, hl⟩
    have hlm : l.length ≤ maxLen := by unfold maxLen; omega
    clear hd hbig
    obtain ⟨X, hX⟩ : ∃ X, X = reL l := ⟨_, rfl⟩
    obtain ⟨Y, hY⟩ : ∃ Y, Y = reR l := ⟨_, rfl⟩
    obtain ⟨Z, hZ⟩ : ∃ Z, Z = reP l := ⟨_, rfl⟩
    have cI : ∀ W, Wts W → il.Ints W a l → Calls Tryd.prog 20 #[.slice a l.length cap] W (RetD X Y Z W) := fun W hW hA => by rw [hX, hY, hZ]; exact implReached a cap l W hW hA hlm
    have cS : ∀ W, il.Ints W a l → Calls Tryd.prog 25 #[.slice a l.length cap] W (RetD X Y Z W) := fun W hA => by rw [hX, hY, hZ]; exact specReached a cap l W hA hlm
    replace hX := Lib.hid hX
    replace hY := Lib.hid hY
    replace hZ := Lib.hid hZ
    go_wp2_with fail
    refine (cI _ (hv.kept g0) hO.ints).mono ?_
    rintro e w2 ⟨rfl, g2⟩
    replace hO := (hO.kept g2).kept (World.grownBy_alloc w2 (Obj.cells #[.int .i64 X, .int .i64 Y, .int .i64 Z] 25) none)
    have a0 := Has.fresh w2 25 #[.int .i64 X, .int .i64 Y, .int .i64 Z]
    have hp : w1.heap.size ≤ w2.heap.size := g2.size
    have hp0 := g0.size
    replace g0 := gr_alloc (gr_trans g0 g2) (Obj.cells #[.int .i64 X, .int .i64 Y, .int .i64 Z] 25)
    clear g2 cI
    go_wp2_with fail
    refine (drawWeightsOf b n c _ hn (bytes_grown hb g0)).mono ?_
    rintro e w3 ⟨x, ⟨x0, x1⟩, rfl, g3⟩
    replace hO := hO.kept g3
    replace a0 := a0.grown g3 (by simp)
    replace g0 := gr_trans g0 g3
    clear g3
    go_wp2_with fail
    refine (implWeightsOf x _ (hv.kept g0)).mono ?_
    rintro e w4 ⟨rfl, g4⟩
    replace hO := hO.kept g4
    replace a0 := a0.grown g4 (by simp)
    replace g0 := gr_trans g0 g4
    clear g4
    go_wp2_with fail
    refine (specWeightsOf x _).mono ?_
    rintro e w5 ⟨rfl, g5⟩
    replace hO := hO.kept g5
    replace a0 := a0.grown g5 (by simp)
    replace g0 := gr_trans g0 g5
    clear g5
    have bA := wR_in x
    have bB := wP_in x
    obtain ⟨A, hA⟩ : ∃ A, A = wR x := ⟨_, rfl⟩
    obtain ⟨B, hB⟩ : ∃ B, B = wP x := ⟨_, rfl⟩
    rw [← hA] at bA
    rw [← hB] at bB
    have HA := Lib.hid hA
    have HB := Lib.hid hB
    go_upto_region 8 with fail
    rw [← hA, ← hB]
    clear hA hB
    generalize w2.heap.size = bp at *
    have hqN := fun W => neqD_same W X Y Z
    have hGd := guardD
    have I0 : il.Ints w5.drew a l := hO.ints
    have E0 : Has w5.drew bp 25 #[.int .i64 X, .int .i64 Y, .int .i64 Z] := a0
    obtain ⟨c0, c1, c2, _, _, _⟩ := three a0
    go_region_held3 (fun W => W.cell? ⟨bp, 0, none⟩ = some (.int .i64 X) ∧ W.cell? ⟨bp, 1, none⟩ = some (.int .i64 Y) ∧ W.cell? ⟨bp, 2, none⟩ = some (.int .i64 Z))
      (first | exact ⟨(three E1).1, (three E1).2.1, (three E1).2.2.1⟩ | exact ⟨(three E0).1, (three E0).2.1, (three E0).2.2.1⟩)
      (first | (go_at_call 25; refine (cS _ I0).mono ?_; rintro e v1 ⟨rfl, hg1⟩; have E1 := E0.grown hg1 (by simp)))
    replace hO : Own v1 a l := Own.kept (w := w5) hO (gr_trans (gr_drewN (gr_refl w5 none) 1) hg1)
    replace g0 := gr_trans (gr_drewN g0 1) hg1
    clear cS hqN hGd I0 E0 c0 c1 c2 hg1 a0
    go_upto_region 10 with fail
    go_cut [54] (fun s wx => s = .bool (inb x 0 5) ∧ v1 = wx)
    case first =>
      have hx : x = -1 ∨ x = 6 ∨ 0 ≤ x ∧ x ≤ 5 := by omega
      rcases hx with rfl | rfl | hx
      · go_wp2_with fail
        go_meet
        exact ⟨rfl, rfl⟩
      · go_wp2_with fail
        go_meet
        exact ⟨rfl, rfl⟩
      · have hi : inb x 0 5 = true := by unfold inb; simp; omega
        have d1 : decide (0 ≤ x) = true := by simp; omega
        have d2 : decide (x < 6) = true := by simp; omega
        clear hi
        go_wp2_with fail
        go_meet
        exact ⟨by rw [show inb x 0 5 = true by unfold inb; simp; omega], rfl⟩
    case rest =>
      obtain ⟨rfl, rfl⟩ := hcut
      obtain ⟨o, ho⟩ : ∃ o, inb x 0 5 = o := ⟨_, rfl⟩
      rw [ho]
      replace ho := Lib.hid ho
      go_upto_if 54 with fail
      go_cut [2] (fun s wx => s = .bool false ∧ v1.grownBy wx none)
      case first =>
        cases o
        · go_wp2_with fail
          go_meet
          exact ⟨rfl, gr_refl _ _⟩
        · have hx : 0 ≤ x ∧ x ≤ 5 := by have := ho.out; unfold inb at this; simpa using this
          obtain ⟨hac1, hac2⟩ := across_w hx.1 hx.2
          rw [← HA.out] at hac1
          rw [← HB.out] at hac2
          have cA := cas.specAcross x
          have cW : ∀ W, Wts W → Calls Tryd.prog 23 #[.int .i64 (cas.across x)] W (fun e w' => e = .returned (.tuple #[.int .i64 (-A), .int .i64 (-B)]) ∧ W.grownBy w' none) := fun W hW => by
            have := implWeightsOf (cas.across x) W hW
            unfold RetW at this
            rw [hac1, hac2] at this
            exact this
          clear hac1 hac2
          generalize cas.across x = y at *
          go_wp2_with fail
          refine (cA _).mono ?_
          rintro e w' ⟨rfl, rfl⟩
          go_wp2_with fail
          refine (cW _ (hv.kept g0)).mono ?_
          rintro e w' ⟨rfl, g6⟩
          go_wp2_with fail
          go_meet
          exact ⟨rfl, g6⟩
      case rest =>
        obtain ⟨rfl, g6⟩ := hcut
        replace hO := hO.kept g6
        replace E1 := E1.grown g6 (by simp)
        replace g0 := gr_trans g0 g6
        clear g6 HA HB bA bB x0 x1 ho
        have hI := hO.ints
        by_cases h6 : l.length = 6
        · have hl0 : 0 < l.length := by omega
          obtain ⟨g, o, cs, rfl, hc, hj⟩ := hO.resolve_left (by intro e; rw [e] at hl0; simp at hl0)
          have cx : wc.cell? ⟨g, o, none⟩ = some (.int .i64 (nth l 0)) := (hc.cell o).trans (hj 0 hl0)
          have HL := Lib.hid h6
          have hle : ((l.length : Int) == 6) = true := by simp; omega
          have hle2 : (l.length : Int) = 6 := by omega
          clear h6
          by_cases hk : 0 ≤ nth l 0 ∧ nth l 0 ≤ 1000
          · have hok : okL l = true := by
              unfold okL
              simp only [Bool.and_eq_true, decide_eq_true_eq]
              refine ⟨HL.out, all_of fun j hj => ?_⟩
              have : 0 ≤ nth l j ∧ nth l j ≤ 1000 := by
                by_cases e : j = 0
                · subst e; exact hk
                · exact hl j (by omega) hj
              unfold okO inb; simp; exact this
            obtain ⟨hk0, hk1⟩ := hk
            go_wp2_with fail
            have hbW : Bytes wc wc.heap.size b n := bytes_grown hb g0
            refine (pick b n c _ 1 6 _ hn hbW (by omega) (by omega) (by omega) (by omega)).mono ?_
            rintro e w' ⟨k', p0, p1, rfl, rfl⟩
            obtain ⟨k, rfl⟩ := Int.eq_ofNat_of_zero_le p0
            have hk6 : k < 6 := by omega
            clear p0 p1 hle hle2 cx
            go_upto_region 17 with fail
            have o0 := World.ownsRow_made (base := wc.heap.size) (e := 2) (size := 1) wc #[] 0 (Nat.le_refl _) (Nat.zero_le _) rfl
            obtain ⟨i0, hi, hz0, hz1, hz2⟩ := info_parts infoInt
            have hIa := hI.kept (World.grownBy_alloc wc (Obj.cells #[] 2) none)
            have hnw : ∀ (j : Nat) (u : Value), (vals l)[j]? = some u → (wc.alloc (Obj.cells #[] 2)).cell? ((⟨g, o, none⟩ : Addr).add j) = some u := fun j u hu => by
              have hj' : j < l.length := by have := (List.getElem?_eq_some_iff.1 hu).1; simpa [vals] using this
              obtain ⟨y, ey, _, cy⟩ := hIa j hj'
              injection ey with ey
              subst ey
              rw [cy]
              simp only [vals, List.getElem?_map, List.getElem?_eq_getElem hj', Option.map_some] at hu
              rw [il.nth_lt hj']; exact hu
            go_upto_region 18 with (at_builtin; refine wpList_append_lies _ rfl _ _ _ rfl wc.heap.size 2 i0 _ 1 8 Tryd.underlying28 hi hz0 hz1 hz2 rfl (by omega) (.slice (some ⟨wc.heap.size, 0, none⟩) 0 0) 0 _ rfl o0 ⟨g, o, none⟩ l.length cap (vals l) rfl (by simp [vals]) hnw (il.vals_one l) hl0 (by unfold maxLen; omega) (by omega) (by simp) (wc.heap.size + 1) (by simp) ?_; intro gg cap1 w6 hown3 hgrow hat hlt3)
            have hrow : IRow w6 wc.heap.size (.slice (some ⟨gg, 0, none⟩) l.length cap1) l := by simpa using hown3
            obtain ⟨G, O, cs', eG, hc', hj'⟩ := (il.IRow.own hrow).resolve_left (by intro e; rw [e] at hl0; simp at hl0)
            injection eG with eG
            injection eG with eG1 eG2
            subst eG1 eG2
            have hgg : wc.heap.size ≤ gg := by
              rcases hat with hat | hat
              · simp [Value.ownBlock] at hat; omega
              · omega
            have hgo : g < wc.heap.size := hc.lt
            have hbo := E1.lt
            have hgr : wc.grownBy w6 none := gr_past (World.grownBy_alloc wc (Obj.cells #[] 2) none) hgrow (Nat.le_refl _)
            replace E1 := E1.grown hgr (by simp)
            replace hc := hc.grown hgr (by simp)
            have hwc := g0.size
            replace g0 := gr_trans g0 hgr
            clear hgrow hat hlt3 hown3 hrow hnw hIa o0 hgr hI hO hi hz0 hz1 hz2 i0 hbW
            have hkl : k < l.length := by have := HL.out; omega
            have d0 : w6.cell? ⟨gg, k, none⟩ = some (.int .i64 (nth l k)) := (hc'.cell k).trans (by have := hj' k hkl; rw [Nat.zero_add] at this; exact this)
            have f0 := hc'.frozen k
            have hsz : k < cs'.size := by have := hj' k hkl; rw [Nat.zero_add] at this; exact (Array.getElem?_eq_some_iff.1 this).1
            go_upto_region 19 with fail
            clear d0 f0
            have hP : Own (w6.setCell ⟨gg, k, none⟩ (.int .i64 0)) (some ⟨gg, 0, none⟩) (l.set k 0) := Or.inr ⟨gg, 0, _, rfl, hc'.set k (.int .i64 0), fun j hj2 => by
              rw [List.length_set] at hj2
              rw [Nat.zero_add, nth_set hkl]
              by_cases e : j = k
              · subst e; rw [Array.getElem?_setIfInBounds_self_of_lt hsz, if_pos rfl]
              · have := hj' j hj2
                rw [Nat.zero_add] at this
                rw [Array.getElem?_setIfInBounds_ne (by omega), this, if_neg e]⟩
            replace E1 := E1.set_other (g' := gg) (by omega) k (.int .i64 0)
            replace hc := hc.set_other (g' := gg) (by omega) k (.int .i64 0)
            replace g0 := gr_new g0 (g := gg) (by omega) k (.int .i64 0)
            clear hc' hj' hsz
            generalize w6.setCell ⟨gg, k, none⟩ (.int .i64 0) = w7 at *
            go_wp2_with fail
            refine (specWeights_at hk6 _).mono ?_
            rintro e w8 ⟨rfl, g8⟩
            replace E1 := E1.grown g8 (by simp)
            replace hc := hc.grown g8 (by simp)
            replace hP := hP.kept g8
            replace g0 := gr_trans g0 g8
            clear g8
            obtain ⟨rL, rR, rP⟩ := re_set hk6 hok
            obtain ⟨iX, iY, iZ⟩ := re_in hok
            have hu := ok_at (l := l) (k := k) (all_at (by unfold okL at hok; simp only [Bool.and_eq_true] at hok; exact hok.2) hkl)
            have m1 := gR_in hk6 (l := l) (all_at (by unfold okL at hok; simp only [Bool.and_eq_true] at hok; exact hok.2) hkl)
            have m2 := gP_in hk6 (l := l) (all_at (by unfold okL at hok; simp only [Bool.and_eq_true] at hok; exact hok.2) hkl)
            unfold gR at m1
            unfold gP at m2
            rw [← hX.out] at rL iX
            rw [← hY.out] at rR iY
            rw [← hZ.out] at rP iZ
            have cO := implReached (some ⟨gg, 0, none⟩) cap1 (l.set k 0) w8 (hv.kept g0) hP.ints (by rw [List.length_set]; exact hlm)
            unfold RetRe at cO
            rw [List.length_set, rL, rR, rP] at cO
            clear rL rR rP hok hP
            go_wp2_with fail
            refine cO.mono ?_
            rintro e w9 ⟨rfl, g9⟩
            replace E1 := (E1.grown g9 (by simp)).alloc (Obj.cells #[.int .i64 (X - nth l k), .int .i64 (Y - tR k * nth l k), .int .i64 (Z - tP k * nth l k)] 25)
            replace hc := (hc.grown g9 (by simp)).alloc (Obj.cells #[.int .i64 (X - nth l k), .int .i64 (Y - tR k * nth l k), .int .i64 (Z - tP k * nth l k)] 25)
            have F0 := Has.fresh w9 25 #[.int .i64 (X - nth l k), .int .i64 (Y - tR k * nth l k), .int .i64 (Z - tP k * nth l k)]
            replace g0 := gr_alloc (gr_trans g0 g9) (Obj.cells #[.int .i64 (X - nth l k), .int .i64 (Y - tR k * nth l k), .int .i64 (Z - tP k * nth l k)] 25)
            clear g9 cO
            go_upto_region 21 with fail
            generalize w9.alloc (Obj.cells #[.int .i64 (X - nth l k), .int .i64 (Y - tR k * nth l k), .int .i64 (Z - tP k * nth l k)] 25) = wz at *
            generalize w9.heap.size = bq at *
            obtain ⟨c0, c1, c2, _, _, _⟩ := three E1
            obtain ⟨d0, d1, d2, _, _, _⟩ := three F0
            have cx : wz.cell? ⟨g, o + k, none⟩ = some (.int .i64 (nth l k)) := (hc.cell (o + k)).trans (hj k hkl)
            have hk5 : (k : Int) < 6 := by omega
            clear hc E1 F0 hj
            go_quiet (fail)
            go_wp2_with fail
            go_ret
            exact ⟨rfl, below_of_none (gr_drewN g0 _)⟩
          · have hz := re_no (l := l) (by unfold okL; rw [all_not l 0 hl0 (by unfold okO inb; simp; omega)]; simp)
            rw [← hX.out, ← hY.out, ← hZ.out] at hz
            obtain ⟨rfl, rfl, rfl⟩ := hz
            have hqE := fun W => eqlD_same W 0 0 0
            have hGd := guardD
            obtain ⟨c0, c1, c2, _, _, _⟩ := three E1
            have hk' : nth l 0 < 0 ∨ (0 ≤ nth l 0 ∧ 1000 < nth l 0) := by omega
            clear hk
            rcases hk' with hk' | ⟨hk1, hk2⟩
            · go_wp2_with fail
              all_goals go_ret
              all_goals exact ⟨rfl, below_of_none g0⟩
            · go_wp2_with fail
              all_goals go_ret
              all_goals exact ⟨rfl, below_of_none g0⟩
        · have hz := re_no (l := l) (by unfold okL; simp [h6])
          rw [← hX.out, ← hY.out, ← hZ.out] at hz
          obtain ⟨rfl, rfl, rfl⟩ := hz
          have hle : ((l.length : Int) == 6) = false := by simp; omega
          have hqE := fun W => eqlD_same W 0 0 0
          have hGd := guardD
          obtain ⟨c0, c1, c2, _, _, _⟩ := three E1
          have hne : ((l.length : Int) != 6) = true := by simp; omega
          have hne2 : ¬ ((l.length : Int) = 6) := by omega
          clear h6
          go_wp2_with fail
          all_goals go_ret
          all_goals exact ⟨rfl, below_of_none g0⟩
end Go.Proofs.YtekglhikojondaaDoor.sh
