/- The law FnFrames. -/
import Derived.Test.YtgilpdgomneaoaaDoorFrDraw3
namespace Go.Proofs.YtgilpdgomneaoaaDoor.frm
open Go.ChangeShapes Go.WideShapes Go.ChangeAt Go.RowKit
open Go.Proofs.YtgilpdgomneaoaaDoor.nums Go.Proofs.YtgilpdgomneaoaaDoor.mem Go.Proofs.YtgilpdgomneaoaaDoor.txt Go.Proofs.YtgilpdgomneaoaaDoor.fix Go.Proofs.YtgilpdgomneaoaaDoor.cur
open Go.Proofs.YtgilpdgomneaoaaDoor.tab (Ret quiet_w wpList_make_has)
set_option linter.unusedVariables false

theorem Bytes.on {w w' : World} {b : Option Addr} {n : Nat} (h : Bytes w w.heap.size b n) (hg : w.grownBy w' none) : Bytes w' w'.heap.size b n :=
  (h.below (Nat.le_refl _) (below_of_none hg)).more hg.size

set_option maxRecDepth 100000 in
set_option maxHeartbeats 4000000 in
theorem framesLaw (b : Option Addr) (n c : Nat) (w : World) (hb : Bytes w w.heap.size b n) (hv : Vals w) (hp : Pow w) :
    Calls Tryd.prog 3 #[.slice b n c] w fun e w' => e = .returned (.bool true) ∧ Below w.heap.size w w' := by
  go_enter Tryd.func3, Tryd.ntmps3
  go_wp2_with fail
  refine (big b n c w).mono ?_
  rintro e w1 ⟨rfl, rfl⟩
  by_cases hbig : 4096 < n
  · have hd : decide (4096 < n) = true := by simp [hbig]
    go_wp2_with fail
    go_ret
    exact ⟨rfl, Below.refl _ _⟩
  · have hd : decide (4096 < n) = false := by simp [hbig]
    have hn : n ≤ 4096 := by omega
    go_wp2_with fail
    refine (drawShow b n c _ hn hb).mono ?_
    rintro e w1 ⟨k, sq, vs, a, cap, rfl, hI, hl6, hgg, g0⟩
    have hlm : vs.length ≤ maxLen := by unfold maxLen; omega
    have HF := Has.fresh w1 26 #[.int .i64 k, .int .i64 sq, .slice a vs.length cap]
    have a1 := World.grownBy_alloc w1 (Obj.cells #[.int .i64 k, .int .i64 sq, .slice a vs.length cap] 26) none
    replace hI := hI.kept a1
    replace g0 := gr_trans g0 a1
    clear a1 hgg
    obtain ⟨f0, f1, f2, _, _, _⟩ := three HF
    go_wp2_with fail
    refine (implShow k sq a cap vs _ (hv.kept g0) (Pow.kept hp g0) hI hlm).mono ?_
    rintro e w2 ⟨rfl, g2⟩
    replace HF := HF.grown g2 (by simp)
    replace hI := hI.kept g2
    replace g0 := gr_trans g0 g2
    clear g2 f0 f1 f2
    go_wp2_with fail
    refine (drawRead b n c _ hn (Bytes.on hb g0)).mono ?_
    rintro e w3 ⟨T, rfl, hT, g3⟩
    replace HF := HF.grown g3 (by simp)
    replace hI := hI.kept g3
    replace g0 := gr_trans g0 g3
    clear g3
    obtain ⟨r, hr⟩ := isRead_ex T
    obtain ⟨⟨kd, sd, zs, is⟩, hdc⟩ : ∃ q, dec r = q := ⟨_, rfl⟩
    have h6 := dec_len hr hdc
    have cS := fun W => (specRead T r W (by omega) hr).mono fun e w' h => ReadOut.got h hdc
    have cI := fun W hV hP => (implRead T r W (by omega) hr hV hP).mono fun e w' h => ReadOut.got h hdc
    go_wp2_with fail
    refine (cI _ (hv.kept g0) (Pow.kept hp g0)).mono ?_
    rintro e w4 ⟨ax, cx, rfl, oX, g4⟩
    have iX := oX.ints
    have HX := Has.fresh w4 26 #[.int .i64 kd, .int .i64 sd, .slice ax zs.length cx]
    replace g4 := gr_alloc g4 (Obj.cells #[.int .i64 kd, .int .i64 sd, .slice ax zs.length cx] 26)
    replace iX := iX.kept (World.grownBy_alloc w4 (Obj.cells #[.int .i64 kd, .int .i64 sd, .slice ax zs.length cx] 26) none)
    replace HF := HF.grown g4 (by simp)
    replace hI := hI.kept g4
    replace g0 := gr_trans g0 g4
    clear g4 oX
    go_wp2_with fail
    refine (drawSum b n c _ hn (Bytes.on hb g0)).mono ?_
    rintro e w5 ⟨U, rfl, hU, g5⟩
    replace HF := HF.grown g5 (by simp)
    replace HX := HX.grown g5 (by simp)
    replace hI := hI.kept g5
    replace iX := iX.kept g5
    replace g0 := gr_trans g0 g5
    clear g5
    go_wp2_with fail
    refine (cS _).mono ?_
    rintro e w6 ⟨ay, cy, rfl, oY, g6⟩
    have iY := oY.ints
    have HY := Has.fresh w6 26 #[.int .i64 kd, .int .i64 sd, .slice ay zs.length cy]
    replace g6 := gr_alloc g6 (Obj.cells #[.int .i64 kd, .int .i64 sd, .slice ay zs.length cy] 26)
    replace iY := iY.kept (World.grownBy_alloc w6 (Obj.cells #[.int .i64 kd, .int .i64 sd, .slice ay zs.length cy] 26) none)
    replace HF := HF.grown g6 (by simp)
    replace HX := HX.grown g6 (by simp)
    replace hI := hI.kept g6
    replace iX := iX.kept g6
    replace g0 := gr_trans g0 g6
    clear g6 oY cS
    go_wp2_with fail
    generalize w6.heap.size = by_ at *
    generalize w4.heap.size = bx at *
    generalize w1.heap.size = bf at *
    generalize w6.alloc (Obj.cells #[.int .i64 kd, .int .i64 sd, .slice ay zs.length cy] 26) = w7 at *
    have hzm : zs.length ≤ maxLen := by unfold maxLen; omega
    have hUm : U.length ≤ maxLen := by unfold maxLen; omega
    have cL := fun W h1 h2 => likeFrame kd sd ax ay cx cy zs W h1 h2 hzm
    have cSh := fun W h => specShow k sq a cap vs W h hlm
    have cOi := fun W hV h => implFrameOk k sq a cap vs W hV h hlm
    have cOs := fun W h => specFrameOk k sq a cap vs W h hlm
    have cUi := fun W => implSum U W hUm
    have cUs := fun W => specSum U W hUm
    have hX2 : is = true → showF kd sd zs = T := fun e => by
      subst e
      match r, hr, hdc with
      | some (k', s', z'), hr, hdc =>
        simp only [dec, Prod.mk.injEq] at hdc
        obtain ⟨rfl, rfl, rfl, _⟩ := hdc
        exact hr.2
      | none, hr, hdc => simp [dec] at hdc
    have cXs := fun W hV hP h => implShow kd sd ax cx zs W hV hP h hzm
    have hS0 : showF k sq vs = [] → okF k sq vs = false := fun e => by
      cases ho : okF k sq vs with
      | false => rfl
      | true => rw [showF_ok ho] at e; simp [behind] at e
    have hS1 : showF k sq vs ≠ [] → IsRead (showF k sq vs) (some (k, sq, vs)) := fun e => read_some e rfl
    have hS2 : showF k sq vs ≠ [] → okF k sq vs = true := fun e => ok_of_show e
    have hSl := showF_small k sq vs
    clear hr hdc cI
    generalize showF k sq vs = Sx at *
    generalize okF k sq vs = ok at *
    generalize sumL U = su at *
    obtain ⟨f0, f1, f2, _, _, _⟩ := three HF
    obtain ⟨x0, x1, x2, _, _, _⟩ := three HX
    obtain ⟨y0, y1, y2, _, _, _⟩ := three HY
    have d0 : ∀ d os, (Go.Sort.grow (redrawn w7 d) os).cell? ⟨bf, 0, none⟩ = some (.int .i64 k) := cell_regrown f0
    have d1 : ∀ d os, (Go.Sort.grow (redrawn w7 d) os).cell? ⟨bf, 1, none⟩ = some (.int .i64 sq) := cell_regrown f1
    have d2 : ∀ d os, (Go.Sort.grow (redrawn w7 d) os).cell? ⟨bf, 2, none⟩ = some (.slice a vs.length cap) := cell_regrown f2
    have d3 : ∀ d os, (Go.Sort.grow (redrawn w7 d) os).cell? ⟨bx, 0, none⟩ = some (.int .i64 kd) := cell_regrown x0
    have d4 : ∀ d os, (Go.Sort.grow (redrawn w7 d) os).cell? ⟨bx, 1, none⟩ = some (.int .i64 sd) := cell_regrown x1
    have d5 : ∀ d os, (Go.Sort.grow (redrawn w7 d) os).cell? ⟨bx, 2, none⟩ = some (.slice ax zs.length cx) := cell_regrown x2
    have d6 : ∀ d os, (Go.Sort.grow (redrawn w7 d) os).cell? ⟨by_, 0, none⟩ = some (.int .i64 kd) := cell_regrown y0
    have d7 : ∀ d os, (Go.Sort.grow (redrawn w7 d) os).cell? ⟨by_, 1, none⟩ = some (.int .i64 sd) := cell_regrown y1
    have d8 : ∀ d os, (Go.Sort.grow (redrawn w7 d) os).cell? ⟨by_, 2, none⟩ = some (.slice ay zs.length cy) := cell_regrown y2
    by_cases hSx : Sx = []
    · have hok := hS0 hSx
      subst hok
      subst hSx
      clear hS0 hS1 hS2
      cases is
      · clear hX2
        refine wp_region_quiet_below (by kernel_rfl) (by kernel_rfl) ?_
        repeat (quiet_step (first | (go_at_call 15; exact rg_ret (cL _ (iX.kept (gr_rg _ _ _)) (iY.kept (gr_rg _ _ _)))) | (go_at_call 16; exact rg_ret (cSh _ (hI.kept (gr_rg _ _ _)))) | (go_at_call 17; exact rg_ret (cOi _ (hv.kept (gr_trans g0 (gr_rg _ _ _))) (hI.kept (gr_rg _ _ _)))) | (go_at_call 18; exact rg_ret (cOs _ (hI.kept (gr_rg _ _ _)))) | (go_at_call 19; exact rg_same (cUi _)) | (go_at_call 20; exact rg_same (cUs _))))
        refine wpQuiet_nil ?_
        intro _ hw'
        obtain ⟨⟨dq, osq⟩, hw''⟩ := hw'
        subst hw''
        have gq := gr_rg w7 dq osq
        replace HF := HF.grown gq (by simp)
        replace HX := HX.grown gq (by simp)
        replace hI := hI.kept gq
        replace iX := iX.kept gq
        replace g0 := gr_trans g0 gq
        clear gq d0 d1 d2 d3 d4 d5 d6 d7 d8 f0 f1 f2 x0 x1 x2 y0 y1 y2 HY iY cL cSh cOs cUi cUs
        generalize Go.Sort.grow (redrawn w7 dq) osq = w8 at *
        obtain ⟨f0, f1, f2, _, _, _⟩ := three HF
        go_wp2_with fail
        refine (cOi _ (hv.kept g0) hI).mono ?_
        rintro e wz ⟨rfl, gz⟩
        go_wp2_with fail
        go_ret
        exact ⟨rfl, below_of_none (gr_trans g0 gz)⟩
      · have hXT := hX2 rfl
        rw [hXT] at cXs
        clear hX2
        refine wp_region_quiet_below (by kernel_rfl) (by kernel_rfl) ?_
        repeat (quiet_step (first | (go_at_call 15; exact rg_ret (cL _ (iX.kept (gr_rg _ _ _)) (iY.kept (gr_rg _ _ _)))) | (go_at_call 16; exact rg_ret (cSh _ (hI.kept (gr_rg _ _ _)))) | (go_at_call 17; exact rg_ret (cOi _ (hv.kept (gr_trans g0 (gr_rg _ _ _))) (hI.kept (gr_rg _ _ _)))) | (go_at_call 18; exact rg_ret (cOs _ (hI.kept (gr_rg _ _ _)))) | (go_at_call 19; exact rg_same (cUi _)) | (go_at_call 20; exact rg_same (cUs _))))
        refine wpQuiet_nil ?_
        intro _ hw'
        obtain ⟨⟨dq, osq⟩, hw''⟩ := hw'
        subst hw''
        have gq := gr_rg w7 dq osq
        replace HF := HF.grown gq (by simp)
        replace HX := HX.grown gq (by simp)
        replace hI := hI.kept gq
        replace iX := iX.kept gq
        replace g0 := gr_trans g0 gq
        clear gq d0 d1 d2 d3 d4 d5 d6 d7 d8 f0 f1 f2 x0 x1 x2 y0 y1 y2 HY iY cL cSh cOs cUi cUs
        generalize Go.Sort.grow (redrawn w7 dq) osq = w8 at *
        obtain ⟨f0, f1, f2, _, _, _⟩ := three HF
        obtain ⟨x0, x1, x2, _, _, _⟩ := three HX
        go_wp2_with fail
        refine (cXs _ (hv.kept g0) (Pow.kept hp g0) iX).mono ?_
        rintro e w9 ⟨rfl, g9⟩
        replace HF := HF.grown g9 (by simp)
        replace hI := hI.kept g9
        replace g0 := gr_trans g0 g9
        clear g9 f0 f1 f2 x0 x1 x2
        obtain ⟨f0, f1, f2, _, _, _⟩ := three HF
        go_wp2_with fail
        refine (cOi _ (hv.kept g0) hI).mono ?_
        rintro e wz ⟨rfl, gz⟩
        go_wp2_with fail
        go_ret
        exact ⟨rfl, below_of_none (gr_trans g0 gz)⟩
    · have hok := hS2 hSx
      subst hok
      replace hS1 := hS1 hSx
      have hes : Sx.isEmpty = false := by simpa using hSx
      clear hS0 hS2
      cases is
      · clear hX2
        refine wp_region_quiet_below (by kernel_rfl) (by kernel_rfl) ?_
        repeat (quiet_step (first | (go_at_call 15; exact rg_ret (cL _ (iX.kept (gr_rg _ _ _)) (iY.kept (gr_rg _ _ _)))) | (go_at_call 16; exact rg_ret (cSh _ (hI.kept (gr_rg _ _ _)))) | (go_at_call 17; exact rg_ret (cOi _ (hv.kept (gr_trans g0 (gr_rg _ _ _))) (hI.kept (gr_rg _ _ _)))) | (go_at_call 18; exact rg_ret (cOs _ (hI.kept (gr_rg _ _ _)))) | (go_at_call 19; exact rg_same (cUi _)) | (go_at_call 20; exact rg_same (cUs _))))
        refine wpQuiet_nil ?_
        intro _ hw'
        obtain ⟨⟨dq, osq⟩, hw''⟩ := hw'
        subst hw''
        have gq := gr_rg w7 dq osq
        replace HF := HF.grown gq (by simp)
        replace HX := HX.grown gq (by simp)
        replace hI := hI.kept gq
        replace iX := iX.kept gq
        replace g0 := gr_trans g0 gq
        clear gq d0 d1 d2 d3 d4 d5 d6 d7 d8 f0 f1 f2 x0 x1 x2 y0 y1 y2 HY iY cL cSh cOs cUi cUs
        generalize Go.Sort.grow (redrawn w7 dq) osq = w8 at *
        obtain ⟨f0, f1, f2, _, _, _⟩ := three HF
        go_wp2_with fail
        refine (implRead Sx (some (k, sq, vs)) _ (by omega) hS1 (hv.kept g0) (Pow.kept hp g0)).mono ?_
        rintro e wz ⟨gz, az, cz, rfl, oZ⟩
        have iZ := oZ.ints.kept (World.grownBy_alloc wz (Obj.cells #[.int .i64 k, .int .i64 sq, .slice az vs.length cz] 26) none)
        have HZ := Has.fresh wz 26 #[.int .i64 k, .int .i64 sq, .slice az vs.length cz]
        replace gz := gr_alloc gz (Obj.cells #[.int .i64 k, .int .i64 sq, .slice az vs.length cz] 26)
        replace HF := HF.grown gz (by simp)
        replace hI := hI.kept gz
        replace g0 := gr_trans g0 gz
        clear gz oZ f0 f1 f2
        obtain ⟨f0, f1, f2, _, _, _⟩ := three HF
        obtain ⟨z0, z1, z2, _, _, _⟩ := three HZ
        go_wp2_with fail
        refine (likeFrame k sq az a cz cap vs _ iZ hI hlm).mono ?_
        rintro e wy ⟨rfl, gy⟩
        go_wp2_with fail
        go_ret
        exact ⟨rfl, below_of_none (gr_trans g0 gy)⟩
      · have hXT := hX2 rfl
        rw [hXT] at cXs
        clear hX2
        refine wp_region_quiet_below (by kernel_rfl) (by kernel_rfl) ?_
        repeat (quiet_step (first | (go_at_call 15; exact rg_ret (cL _ (iX.kept (gr_rg _ _ _)) (iY.kept (gr_rg _ _ _)))) | (go_at_call 16; exact rg_ret (cSh _ (hI.kept (gr_rg _ _ _)))) | (go_at_call 17; exact rg_ret (cOi _ (hv.kept (gr_trans g0 (gr_rg _ _ _))) (hI.kept (gr_rg _ _ _)))) | (go_at_call 18; exact rg_ret (cOs _ (hI.kept (gr_rg _ _ _)))) | (go_at_call 19; exact rg_same (cUi _)) | (go_at_call 20; exact rg_same (cUs _))))
        refine wpQuiet_nil ?_
        intro _ hw'
        obtain ⟨⟨dq, osq⟩, hw''⟩ := hw'
        subst hw''
        have gq := gr_rg w7 dq osq
        replace HF := HF.grown gq (by simp)
        replace HX := HX.grown gq (by simp)
        replace hI := hI.kept gq
        replace iX := iX.kept gq
        replace g0 := gr_trans g0 gq
        clear gq d0 d1 d2 d3 d4 d5 d6 d7 d8 f0 f1 f2 x0 x1 x2 y0 y1 y2 HY iY cL cSh cOs cUi cUs
        generalize Go.Sort.grow (redrawn w7 dq) osq = w8 at *
        obtain ⟨f0, f1, f2, _, _, _⟩ := three HF
        obtain ⟨x0, x1, x2, _, _, _⟩ := three HX
        go_wp2_with fail
        refine (cXs _ (hv.kept g0) (Pow.kept hp g0) iX).mono ?_
        rintro e w9 ⟨rfl, g9⟩
        replace HF := HF.grown g9 (by simp)
        replace hI := hI.kept g9
        replace g0 := gr_trans g0 g9
        clear g9 f0 f1 f2 x0 x1 x2
        obtain ⟨f0, f1, f2, _, _, _⟩ := three HF
        go_wp2_with fail
        refine (implRead Sx (some (k, sq, vs)) _ (by omega) hS1 (hv.kept g0) (Pow.kept hp g0)).mono ?_
        rintro e wz ⟨gz, az, cz, rfl, oZ⟩
        have iZ := oZ.ints.kept (World.grownBy_alloc wz (Obj.cells #[.int .i64 k, .int .i64 sq, .slice az vs.length cz] 26) none)
        have HZ := Has.fresh wz 26 #[.int .i64 k, .int .i64 sq, .slice az vs.length cz]
        replace gz := gr_alloc gz (Obj.cells #[.int .i64 k, .int .i64 sq, .slice az vs.length cz] 26)
        replace HF := HF.grown gz (by simp)
        replace hI := hI.kept gz
        replace g0 := gr_trans g0 gz
        clear gz oZ f0 f1 f2
        obtain ⟨f0, f1, f2, _, _, _⟩ := three HF
        obtain ⟨z0, z1, z2, _, _, _⟩ := three HZ
        go_wp2_with fail
        refine (likeFrame k sq az a cz cap vs _ iZ hI hlm).mono ?_
        rintro e wy ⟨rfl, gy⟩
        go_wp2_with fail
        go_ret
        exact ⟨rfl, below_of_none (gr_trans g0 gy)⟩
end Go.Proofs.YtgilpdgomneaoaaDoor.frm
