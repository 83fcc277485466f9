/- The model of chapter 2, continued: IsRising, GreatestY, At. -/
import Derived.Test.YtdikhdfpcipdbaaGreatDoorTabSpec
namespace Go.Proofs.YtdikhdfpcipdbaaGreatDoor.tab
open Go.ChangeShapes Go.WideShapes Go.ChangeAt Go.RowKit
open Go.Proofs.YtdikhdfpcipdbaaGreatDoor.nums Go.Proofs.YtdikhdfpcipdbaaGreatDoor.mem
set_option linter.unusedVariables false

theorem riseB_okB {ps : Pts} (hr : ∀ k, k + 1 < ps.length → py ps k ≤ py ps (k + 1)) : okB ps = riseB ps := by
  by_cases h : OkT ps
  · rw [okB_true h, riseB_true h hr]
  · rw [okB_false h, riseB_notOk h]

set_option maxHeartbeats 1000000 in
theorem specAt_no (g cap : Nat) (ps : Pts) (x : Int) (w : World) (h : Tab w g ps) (hl : ps.length ≤ 1048576) (ho : okB ps = false) :
    Calls Tryz.prog 193 #[.slice (some ⟨g, 0, none⟩) ps.length cap, .int .i64 x] w (Ret (.int .i64 0) w) := by
  go_enter Tryz.func193, Tryz.ntmps193
  go_wp2_with fail
  refine (specTableOk g cap ps _ h hl).mono ?_
  rintro e w' ⟨rfl, hg⟩
  go_wp2_with fail
  go_ret
  exact ⟨rfl, hg⟩

set_option maxRecDepth 100000 in
set_option maxHeartbeats 1000000 in
theorem specAt_ok (g cap : Nat) (ps : Pts) (x : Int) (w : World) (h : Tab w g ps) (ho : OkT ps) :
    Calls Tryz.prog 193 #[.slice (some ⟨g, 0, none⟩) ps.length cap, .int .i64 x] w (RetAt ps x w) := by
  have hb := okB_true ho
  have h2 := ho.1
  have h8 := ho.2.1
  go_enter Tryz.func193, Tryz.ntmps193
  go_wp2_with fail
  refine (specTableOk g cap ps _ h (by omega)).mono ?_
  rintro e w1 ⟨rfl, hg⟩
  have h1 := h.kept hg
  obtain ⟨cx, cy⟩ := h1.2 0 (by omega)
  simp at cx cy
  obtain ⟨n, hn⟩ : ∃ n, ps.length = n + 2 := ⟨ps.length - 2, by omega⟩
  obtain ⟨lx, ly⟩ := h1.2 (n + 1) (by omega)
  by_cases hx : x ≤ px ps 0
  · go_wp2_with fail
    go_ret
    exact ⟨_, .inl ⟨hx, rfl⟩, rfl, hg⟩
  · rw [hn]
    by_cases hy : px ps (n + 1) ≤ x
    · go_wp2_with fail
      go_ret
      exact ⟨_, .inr (.inl ⟨by omega, by rw [hn]; exact hy, by rw [hn]; rfl⟩), rfl, hg⟩
    · have hn6 : n ≤ 6 := by omega
      have HN := Lib.hid hn
      clear hn
      go_wp2_with fail
      go_loop [6] (fun i => ∃ k : Nat, k < n + 1 ∧ px ps k ≤ x ∧ i = .int .i64 k) (fun i => n + 1 - (intOf i).toNat)
      case atStart => exact ⟨0, by omega, by omega, rfl⟩
      case round =>
        obtain ⟨k, hk, hkx, rfl⟩ := hrel
        obtain ⟨kx, ky⟩ := h1.2 k (by have := HN.out; omega)
        obtain ⟨mx, my⟩ := h1.2 (k + 1) (by have := HN.out; omega)
        by_cases hlt : px ps (k + 1) ≤ x
        · have hk' : k + 1 < n + 1 := by
            by_cases e : k = n
            · subst e; omega
            · omega
          go_wp2_with fail
          go_round
          case rel => exact ⟨k + 1, hk', hlt, by go_num⟩
          case measure => simp [intOf]; omega
        · obtain ⟨⟨a1, a2⟩, b1, b2⟩ := ho.sz (k := k)
          obtain ⟨⟨c1, c2⟩, d1, d2⟩ := ho.sz (k := k + 1)
          go_wp2_with fail
          go_quiet ((first | (go_at_call 169; exact quiet_w (fix.specPart _ _ _ _)) | (go_at_call 190; exact quiet_w (fix.specPlus _ _ _))))
          go_wp2_with fail
          go_ret
          exact ⟨_, .inr (.inr ⟨k, by have := HN.out; omega, by omega, hkx, by omega, rfl⟩), rfl, gr_drewN hg _⟩
end Go.Proofs.YtdikhdfpcipdbaaGreatDoor.tab
