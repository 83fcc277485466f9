/- The model of chapter 2, continued: IsRising, GreatestY, At. -/
import Derived.Test.YtjnkmmdkpdkalaaTabSpec
namespace Go.Proofs.Ytjnkmmdkpdkalaa.tab
open Go.ChangeShapes Go.WideShapes Go.ChangeAt Go.RowKit
open Go.Proofs.Ytjnkmmdkpdkalaa.nums Go.Proofs.Ytjnkmmdkpdkalaa.mem
set_option linter.unusedVariables false

theorem riseB_okB {ps : Pts} (hr : ∀ k, k + 1 < ps.length → py ps k ≤ py ps (k + 1)) : okB ps = riseB ps := by
  by_cases h : OkT ps
  · rw [okB_true h, riseB_true h hr]
  · rw [okB_false h, riseB_notOk h]

set_option maxHeartbeats 1000000 in
theorem specIsRising (g cap : Nat) (ps : Pts) (w : World) (h : Tab w g ps) (hl : ps.length ≤ 1048576) :
    Calls Try.prog 15 #[.slice (some ⟨g, 0, none⟩) ps.length cap] w (Ret (.bool (riseB ps)) w) := by
  go_enter Try.func15, Try.ntmps15
  go_wp2
  go_loopw [3] (fun i wr => ∃ j : Nat, i = .int .i64 ((j + 1 : Nat) : Int) ∧ Hid (∀ k, k + 1 < j + 1 → py ps k ≤ py ps (k + 1)) ∧ w.grownBy wr none) (fun i _ => ps.length - (intOf i).toNat)
  case atStart => exact ⟨0, rfl, Lib.hid (fun k hk => by omega), gr_refl _ _⟩
  case round =>
    obtain ⟨j, rfl, hR, hg⟩ := hrel
    by_cases hlt : j + 1 < ps.length
    · obtain ⟨_, cy⟩ := (h.kept hg).2 j (by omega)
      obtain ⟨_, dy⟩ := (h.kept hg).2 (j + 1) hlt
      by_cases hp : py ps (j + 1) < py ps j
      · have hd : decide (py ps (j + 1) < py ps j) = true := by simp [hp]
        go_wp2_with fail
        go_quiet (fail)
        go_wp2_with fail
        go_ret
        exact ⟨fix.ret_bool (riseB_false hlt hp).symm, gr_drewN hg _⟩
      · have hd : decide (py ps (j + 1) < py ps j) = false := by simp; omega
        go_wp2_with fail
        go_quiet (fail)
        go_wp2_with fail
        go_roundw
        case rel => exact ⟨j + 1, by go_num, Lib.hid (fun k hk => by
          by_cases e : k = j
          · subst e; omega
          · exact hR.out k (by omega)), gr_drewN hg _⟩
        case measure => simp [intOf]; omega
    · go_wp2_with fail
      refine (specTableOk g cap ps _ (h.kept hg) hl).mono ?_
      rintro e w' ⟨rfl, hg'⟩
      go_wp2_with fail
      go_ret
      exact ⟨fix.ret_bool (riseB_okB fun k hk => hR.out k (by omega)), gr_trans hg hg'⟩

set_option maxHeartbeats 1000000 in
theorem specGreatest_no (g cap : Nat) (ps : Pts) (w : World) (h : Tab w g ps) (hl : ps.length ≤ 1048576) (ho : okB ps = false) :
    Calls Try.prog 14 #[.slice (some ⟨g, 0, none⟩) ps.length cap] w (Ret (.int .i64 0) w) := by
  go_enter Try.func14, Try.ntmps14
  go_wp2_with fail
  refine (specTableOk g cap ps _ h hl).mono ?_
  rintro e w' ⟨rfl, hg⟩
  go_wp2_with fail
  go_ret
  exact ⟨rfl, hg⟩

set_option maxHeartbeats 1000000 in
theorem specGreatest_ok (g cap : Nat) (ps : Pts) (w : World) (h : Tab w g ps) (ho : OkT ps) :
    Calls Try.prog 14 #[.slice (some ⟨g, 0, none⟩) ps.length cap] w (Ret (.int .i64 (gr ps (ps.length - 1))) w) := by
  have hb := okB_true ho
  have h2 := ho.1
  have h8 := ho.2.1
  go_enter Try.func14, Try.ntmps14
  go_wp2_with fail
  refine (specTableOk g cap ps _ h (by omega)).mono ?_
  rintro e w1 ⟨rfl, hg⟩
  have h1 := h.kept hg
  obtain ⟨_, cy⟩ := h1.2 0 (by omega)
  simp at cy
  go_wp2_with fail
  go_loop [3, 4] (fun m i => ∃ j : Nat, j + 1 ≤ ps.length ∧ m = .int .i64 (gr ps j) ∧ i = .int .i64 ((j + 1 : Nat) : Int)) (fun _ i => ps.length - (intOf i).toNat)
  case atStart => exact ⟨0, by omega, rfl, rfl⟩
  case round =>
    obtain ⟨j, hj, rfl, rfl⟩ := hrel
    by_cases hlt : j + 1 < ps.length
    · obtain ⟨_, dy⟩ := h1.2 (j + 1) hlt
      go_wp2_with (go_at_call 28; refine (fix.specMax _ _ _).mono ?_; rintro e w' ⟨rfl, rfl⟩)
      go_round
      case rel => exact ⟨j + 1, by omega, rfl, by go_num⟩
      case measure => simp [intOf]; omega
    · go_wp2_with fail
      go_ret
      exact ⟨fix.ret_int (by congr 1; omega), hg⟩

set_option maxHeartbeats 1000000 in
theorem specAt_no (g cap : Nat) (ps : Pts) (x : Int) (w : World) (h : Tab w g ps) (hl : ps.length ≤ 1048576) (ho : okB ps = false) :
    Calls Try.prog 13 #[.slice (some ⟨g, 0, none⟩) ps.length cap, .int .i64 x] w (Ret (.int .i64 0) w) := by
  go_enter Try.func13, Try.ntmps13
  go_wp2_with fail
  refine (specTableOk g cap ps _ h hl).mono ?_
  rintro e w' ⟨rfl, hg⟩
  go_wp2_with fail
  go_ret
  exact ⟨rfl, hg⟩

set_option maxRecDepth 100000 in
set_option maxHeartbeats 1000000 in
theorem specAt_ok (g cap : Nat) (ps : Pts) (x : Int) (w : World) (h : Tab w g ps) (ho : OkT ps) :
    Calls Try.prog 13 #[.slice (some ⟨g, 0, none⟩) ps.length cap, .int .i64 x] w (RetAt ps x w) := by
  have hb := okB_true ho
  have h2 := ho.1
  have h8 := ho.2.1
  go_enter Try.func13, Try.ntmps13
  go_wp2_with fail
  refine (specTableOk g cap ps _ h (by omega)).mono ?_
  rintro e w1 ⟨rfl, hg⟩
  have h1 := h.kept hg
  obtain ⟨cx, cy⟩ := h1.2 0 (by omega)
  simp at cx cy
  obtain ⟨n, hn⟩ : ∃ n, ps.length = n + 2 := ⟨ps.length - 2, by omega⟩
  obtain ⟨lx, ly⟩ := h1.2 (n + 1) (by omega)
  by_cases hx : x ≤ px ps 0
  · go_wp2_with fail
    go_ret
    exact ⟨_, .inl ⟨hx, rfl⟩, rfl, hg⟩
  · rw [hn]
    by_cases hy : px ps (n + 1) ≤ x
    · go_wp2_with fail
      go_ret
      exact ⟨_, .inr (.inl ⟨by omega, by rw [hn]; exact hy, by rw [hn]; rfl⟩), rfl, hg⟩
    · have hn6 : n ≤ 6 := by omega
      have HN := Lib.hid hn
      clear hn
      go_wp2_with fail
      go_loop [6] (fun i => ∃ k : Nat, k < n + 1 ∧ px ps k ≤ x ∧ i = .int .i64 k) (fun i => n + 1 - (intOf i).toNat)
      case atStart => exact ⟨0, by omega, by omega, rfl⟩
      case round =>
        obtain ⟨k, hk, hkx, rfl⟩ := hrel
        obtain ⟨kx, ky⟩ := h1.2 k (by have := HN.out; omega)
        obtain ⟨mx, my⟩ := h1.2 (k + 1) (by have := HN.out; omega)
        by_cases hlt : px ps (k + 1) ≤ x
        · have hk' : k + 1 < n + 1 := by
            by_cases e : k = n
            · subst e; omega
            · omega
          go_wp2_with fail
          go_round
          case rel => exact ⟨k + 1, hk', hlt, by go_num⟩
          case measure => simp [intOf]; omega
        · obtain ⟨⟨a1, a2⟩, b1, b2⟩ := ho.sz (k := k)
          obtain ⟨⟨c1, c2⟩, d1, d2⟩ := ho.sz (k := k + 1)
          go_wp2_with fail
          go_quiet ((first | (go_at_call 27; exact quiet_w (fix.specPart _ _ _ _)) | (go_at_call 26; exact quiet_w (fix.specPlus _ _ _))))
          go_wp2_with fail
          go_ret
          exact ⟨_, .inr (.inr ⟨k, by have := HN.out; omega, by omega, hkx, by omega, rfl⟩), rfl, gr_drewN hg _⟩
end Go.Proofs.Ytjnkmmdkpdkalaa.tab
