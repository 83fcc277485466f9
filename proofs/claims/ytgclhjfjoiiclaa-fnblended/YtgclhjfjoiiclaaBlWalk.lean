/- The walk of the law of what is blended. -/
import Derived.Test.YtgclhjfjoiiclaaShEq
import Derived.Test.YtgclhjfjoiiclaaBlBlend
import Derived.Test.YtgclhjfjoiiclaaBlDraw
namespace Go.Proofs.Ytgclhjfjoiiclaa.bl
open Go.ChangeShapes Go.WideShapes Go.ChangeAt Go.RowKit
open Go.Proofs.Ytgclhjfjoiiclaa.nums Go.Proofs.Ytgclhjfjoiiclaa.mem Go.Proofs.Ytgclhjfjoiiclaa.cur
open Go.Proofs.Ytgclhjfjoiiclaa.sh (dem three set3 okD RetD neqD_same guardD)
open Go.Proofs.Ytgclhjfjoiiclaa.fix (ret_int ret_bool)
open Go.Proofs.Ytgclhjfjoiiclaa.tab (Ret quiet_w)
open Go.Proofs.Ytgclhjfjoiiclaa.qt (rg_ret rg_same gr_rg)
set_option linter.unusedVariables false

/-- The size of n, as Go reckons it: of the least number that number itself. -/
def absw (n : Int) : Int := if n = -9223372036854775808 then n else max n (-n)
theorem lawSize (n : Int) (w : World) (h : In64 n) :
    Calls Try.prog 19 #[.int .i64 n] w fun e w' => e = .returned (.int .i64 (absw n)) ∧ w = w' := by
  obtain ⟨h1, h2⟩ := h
  by_cases hn : n = -9223372036854775808
  · subst hn
    go_enter Try.func19, Try.ntmps19
    go_wp2
    all_goals go_ret
    all_goals exact ⟨ret_int (by unfold absw; simp; unfold wrap64; omega), rfl⟩
  · have e : absw n = max n (-n) := if_neg hn
    rw [e]
    exact sh.lawSize n w (by omega)
theorem absw_in {n : Int} (h : inb n (-1000000) 1000000 = true) : absw n = (n.natAbs : Int) := by
  unfold inb at h
  simp only [Bool.and_eq_true, decide_eq_true_eq] at h
  unfold absw
  rw [if_neg (by omega)]
  omega
theorem okD_l {l r p : Int} (h : inb l (-1000000) 1000000 = false) : okD l r p = false := by unfold okD; rw [h]; rfl
theorem okD_in {l r p : Int} (h : okD l r p = true) : (-1000000 ≤ l ∧ l ≤ 1000000) ∧ (-1000000 ≤ r ∧ r ≤ 1000000) ∧ (-1000000 ≤ p ∧ p ≤ 1000000) := by
  unfold okD inb at h
  simp only [Bool.and_eq_true, decide_eq_true_eq] at h
  exact ⟨⟨h.1.1, h.1.2⟩, ⟨h.2.1.1, h.2.1.2⟩, h.2.2.1, h.2.2.2⟩
theorem inb_s {s : Int} (h0 : 0 ≤ s) (h1 : s < 300) : inb s (-1000000) 1000000 = true := by unfold inb; simp; omega
/-- Where nothing is taken off, what is blended is what was wished for. -/
theorem bl_slow {l r p s : Int} (h : okD l r p = true) (h0 : 0 ≤ s) (h1 : s ≤ 100) : bl l r p s l = l ∧ bl l r p s r = r ∧ bl l r p s p = p := by
  have hs : okS l r p s = true := by unfold okS; rw [h, inb_s h0 (by omega)]; rfl
  obtain ⟨hl, hr, hp⟩ := okD_in h
  rw [bl_yes hs, bl_yes hs, bl_yes hs]
  exact ⟨cut_slow h1 hl.1 hl.2, cut_slow h1 hr.1 hr.2, cut_slow h1 hp.1 hp.2⟩
/-- What is left of the lift is no more than was wished for. -/
theorem bl_le {l r p s : Int} (h0 : 0 ≤ s) (h1 : s < 300) (h : inb l (-1000000) 1000000 = true) : absw (bl l r p s l) ≤ absw l := by
  have hl : -1000000 ≤ l ∧ l ≤ 1000000 := by unfold inb at h; simpa using h
  rw [absw_in h]
  cases hs : okS l r p s
  · rw [bl_no hs]
    unfold absw
    rw [if_neg (by omega)]; omega
  · rw [bl_yes hs]
    have hc := cut_in s l
    rw [absw_in (by unfold inb; simp; omega)]
    have := cut_le s l hl.1 hl.2
    omega
theorem bl_in (l r p s v : Int) : In64 (bl l r p s v) := by
  cases hs : okS l r p s
  · rw [bl_no hs]; exact ⟨by omega, by omega⟩
  · rw [bl_yes hs]; have := cut_in s v; exact ⟨by omega, by omega⟩

set_option maxRecDepth 100000 in
set_option maxHeartbeats 2000000 in
theorem blendedLaw (b : Option Addr) (n c : Nat) (w : World) (hb : Bytes w w.heap.size b n) :
    Calls Try.prog 3 #[.slice b n c] w fun e w' => e = .returned (.bool true) ∧ Below w.heap.size w w' := by
  by_cases hbig : 4096 < n
  · have hd : decide (4096 < n) = true := by simp [hbig]
    go_enter Try.func3, Try.ntmps3
    go_wp2_with fail
    refine (big b n c w).mono ?_
    rintro e w1 ⟨rfl, rfl⟩
    go_wp2_with fail
    go_ret
    exact ⟨rfl, Below.refl _ _⟩
  · have hd : decide (4096 < n) = false := by simp [hbig]
    have hn : n ≤ 4096 := by omega
    go_enter Try.func3, Try.ntmps3
    go_wp2_with fail
    refine (big b n c w).mono ?_
    rintro e w1 ⟨rfl, rfl⟩
    go_wp2_with fail
    refine (drawBlended b n c _ hn hb).mono ?_
    rintro e w1 ⟨l, r, p, s, ⟨i1, i2, i3⟩, ⟨s0, s1⟩, rfl, g0⟩
    clear hd hbig
    obtain ⟨L, hL⟩ : ∃ L, bl l r p s l = L := ⟨_, rfl⟩
    obtain ⟨R, hR⟩ : ∃ R, bl l r p s r = R := ⟨_, rfl⟩
    obtain ⟨M, hM⟩ : ∃ M, bl l r p s p = M := ⟨_, rfl⟩
    have cI := implBlended l r p s
    have cS := specBlended l r p s
    unfold RetB at cI cS
    rw [hL, hR, hM] at cI cS
    have cT := implLiftPart s
    have cU := specLiftPart s
    have cV := implLiftPart (s + 1)
    obtain ⟨a0, a1⟩ := lp_in s
    have a2 := lp_down s
    replace hL := Lib.hid hL
    replace hR := Lib.hid hR
    replace hM := Lib.hid hM
    generalize lp s = A at *
    generalize lp (s + 1) = B at *
    have D0 := Has.fresh w1 25 #[.int .i64 l, .int .i64 r, .int .i64 p]
    replace g0 := gr_alloc g0 (Obj.cells #[.int .i64 l, .int .i64 r, .int .i64 p] 25)
    obtain ⟨d0, d1, d2, _, _, _⟩ := three D0
    go_upto_region 4 with fail
    generalize w1.heap.size = X at *
    generalize w1.alloc (Obj.cells #[.int .i64 l, .int .i64 r, .int .i64 p] 25) = w2 at *
    go_wp2_with fail
    refine (cI _).mono ?_
    rintro e w3 ⟨rfl, g3⟩
    have X0 := Has.fresh w3 25 #[.int .i64 L, .int .i64 R, .int .i64 M]
    replace D0 := (D0.grown g3 (by simp)).alloc (Obj.cells #[.int .i64 L, .int .i64 R, .int .i64 M] 25)
    replace g0 := gr_alloc (gr_trans g0 g3) (Obj.cells #[.int .i64 L, .int .i64 R, .int .i64 M] 25)
    clear g3 d0 d1 d2 cI
    go_upto_region 5 with fail
    generalize w3.heap.size = Y at *
    generalize w3.alloc (Obj.cells #[.int .i64 L, .int .i64 R, .int .i64 M] 25) = w4 at *
    go_wp2_with fail
    refine (cT _).mono ?_
    rintro e w5 ⟨rfl, g5⟩
    replace D0 := D0.grown g5 (by simp)
    replace X0 := X0.grown g5 (by simp)
    replace g0 := gr_trans g0 g5
    clear g5 cT
    go_wp2_with fail
    refine (drawPushFor b n c _ hn ((hb.below (Nat.le_refl _) (below_of_none g0)).more g0.size)).mono ?_
    rintro e w6 ⟨m, v, rfl, g6⟩
    replace D0 := D0.grown g6 (by simp)
    replace X0 := X0.grown g6 (by simp)
    replace g0 := gr_trans g0 g6
    clear g6
    have cP := implPushFor m v
    have cQ := specPushFor m v
    obtain ⟨u0, u1⟩ := push_in m v
    generalize push m v = u at *
    go_wp2_with fail
    refine (cP _).mono ?_
    rintro e w' ⟨rfl, rfl⟩
    clear cP
    go_upto_region 8 with fail
    have cB : ∀ W, Calls Try.prog 15 #[dem l r p, .int .i64 s] W (Ret (dem L R M) W) := cS
    clear cS
    obtain ⟨d0, d1, d2, _, _, _⟩ := three D0
    obtain ⟨x0, x1, x2, _, _, _⟩ := three X0
    have q0 : ∀ d os, (Go.Sort.grow (redrawn w6 d) os).cell? ⟨X, 0, none⟩ = some (.int .i64 l) := cell_regrown d0
    have q1 : ∀ d os, (Go.Sort.grow (redrawn w6 d) os).cell? ⟨X, 1, none⟩ = some (.int .i64 r) := cell_regrown d1
    have q2 : ∀ d os, (Go.Sort.grow (redrawn w6 d) os).cell? ⟨X, 2, none⟩ = some (.int .i64 p) := cell_regrown d2
    have p0 : ∀ d os, (Go.Sort.grow (redrawn w6 d) os).cell? ⟨Y, 0, none⟩ = some (.int .i64 L) := cell_regrown x0
    have p1 : ∀ d os, (Go.Sort.grow (redrawn w6 d) os).cell? ⟨Y, 1, none⟩ = some (.int .i64 R) := cell_regrown x1
    have p2 : ∀ d os, (Go.Sort.grow (redrawn w6 d) os).cell? ⟨Y, 2, none⟩ = some (.int .i64 M) := cell_regrown x2
    have hqN := fun W => neqD_same W L R M
    have hGd := guardD
    have W1 : IntKind.i64.wrap (s + 1) = s + 1 := IntWalk.i64_in _ (by omega)
    have e1 : decide (u < 0) = false := by simp; omega
    have e2 : decide (1000 < u) = false := by simp; omega
    have e3 : decide (A < 0) = false := by simp; omega
    have e4 : decide (1000 < A) = false := by simp; omega
    have e5 : decide (A < B) = false := by simp; omega
    clear a0 a1 a2 u0 u1 d0 d1 d2 x0 x1 x2
    refine wp_region_quiet_below (by kernel_rfl) (by kernel_rfl) ?_
    repeat (quiet_step (first | (go_at_call 15; with_reducible exact rg_ret (cB _)) | (go_at_call 16; with_reducible exact rg_ret (cU _)) | (go_at_call 17; with_reducible exact rg_same (cQ _)) | (go_at_call 12; with_reducible exact rg_ret (cV _))))
    refine wpQuiet_nil ?_
    intro _ hw'
    obtain ⟨⟨dq, osq⟩, hw''⟩ := hw'
    subst hw''
    have gq := gr_rg w6 dq osq
    replace D0 := D0.grown gq (by simp)
    replace X0 := X0.grown gq (by simp)
    replace g0 := gr_trans g0 gq
    clear gq q0 q1 q2 p0 p1 p2 hqN W1 e1 e2 e3 e4 e5 cB cU cV cQ
    generalize Go.Sort.grow (redrawn w6 dq) osq = w7 at *
    go_upto_region 10 with fail
    go_cut [92] (fun x wx => x = .bool false ∧ w7 = wx)
    case first =>
      obtain ⟨d0, d1, d2, _, _, _⟩ := three D0
      obtain ⟨x0, x1, x2, _, _, _⟩ := three X0
      have c0 := fix.specSizeOk l
      have c1 := fix.specSizeOk r
      have c2 := fix.specSizeOk p
      clear D0 X0 g0 hb
      by_cases hs : s ≤ 100
      · have hd : decide (s ≤ 100) = true := by simp [hs]
        cases h0 : inb l (-1000000) 1000000
        · rw [h0] at c0
          clear h0 hs
          go_wp2_with fail
          refine (c0 _).mono ?_
          rintro e w' ⟨rfl, rfl⟩
          go_wp2_with fail
          go_meet
          exact ⟨rfl, rfl⟩
        · rw [h0] at c0
          cases h1 : inb r (-1000000) 1000000
          · rw [h1] at c1
            clear h0 h1 hs
            go_wp2_with fail
            refine (c0 _).mono ?_
            rintro e w' ⟨rfl, rfl⟩
            go_wp2_with fail
            refine (c1 _).mono ?_
            rintro e w' ⟨rfl, rfl⟩
            go_wp2_with fail
            go_meet
            exact ⟨rfl, rfl⟩
          · rw [h1] at c1
            cases h2 : inb p (-1000000) 1000000
            · rw [h2] at c2
              clear h0 h1 h2 hs
              go_wp2_with fail
              refine (c0 _).mono ?_
              rintro e w' ⟨rfl, rfl⟩
              go_wp2_with fail
              refine (c1 _).mono ?_
              rintro e w' ⟨rfl, rfl⟩
              go_wp2_with fail
              refine (c2 _).mono ?_
              rintro e w' ⟨rfl, rfl⟩
              go_wp2_with fail
              go_meet
              exact ⟨rfl, rfl⟩
            · rw [h2] at c2
              obtain ⟨eL, eR, eM⟩ := bl_slow (l := l) (r := r) (p := p) (s := s) (by unfold okD; rw [h0, h1, h2]; rfl) s0 hs
              rw [hL.out] at eL
              rw [hR.out] at eR
              rw [hM.out] at eM
              subst eL eR eM
              have hqN := fun W => neqD_same W L R M
              clear h0 h1 h2 hs hL hR hM
              go_wp2_with fail
              refine (c0 _).mono ?_
              rintro e w' ⟨rfl, rfl⟩
              go_wp2_with fail
              refine (c1 _).mono ?_
              rintro e w' ⟨rfl, rfl⟩
              go_wp2_with fail
              refine (c2 _).mono ?_
              rintro e w' ⟨rfl, rfl⟩
              go_wp2_with fail
              go_meet
              exact ⟨rfl, rfl⟩
      · have hd : decide (s ≤ 100) = false := by simp; omega
        clear c0 c1 c2
        go_wp2_with fail
        go_meet
        exact ⟨rfl, rfl⟩
    case rest =>
      obtain ⟨rfl, rfl⟩ := hcut
      go_upto_region 12 with fail
      obtain ⟨d0, d1, d2, _, _, _⟩ := three D0
      obtain ⟨x0, x1, x2, _, _, _⟩ := three X0
      have cA := fun W => lawSize L W (hL.out ▸ bl_in l r p s l)
      have cB := fun W => lawSize l W i1
      have cO := fun W => fix.specSizeOk l W
      have hle := fun h => bl_le (l := l) (r := r) (p := p) (s := s) s0 s1 h
      rw [hL.out] at hle
      generalize absw L = x at *
      generalize absw l = y at *
      clear D0 X0 hL hR hM i1 i2 i3
      by_cases hxy : x ≤ y
      · have hd : decide (x ≤ y) = true := by simp [hxy]
        clear hle cO hxy
        go_quiet (first | (go_at_call 19; with_reducible exact quiet_w (cA _)) | (go_at_call 19; with_reducible exact quiet_w (cB _)))
        go_wp2_with fail
        go_ret
        exact ⟨rfl, below_of_none (gr_drewN g0 _)⟩
      · have hd : decide (x ≤ y) = false := by simp [hxy]
        have ho : inb l (-1000000) 1000000 = false := by
          cases h : inb l (-1000000) 1000000
          · rfl
          · exact absurd (hle h) hxy
        rw [ho] at cO
        clear hle hxy ho
        go_quiet (first | (go_at_call 19; with_reducible exact quiet_w (cA _)) | (go_at_call 19; with_reducible exact quiet_w (cB _)) | (go_at_call 18; with_reducible exact quiet_w (cO _)))
        go_wp2_with fail
        go_ret
        exact ⟨rfl, below_of_none (gr_drewN g0 _)⟩
end Go.Proofs.Ytgclhjfjoiiclaa.bl
