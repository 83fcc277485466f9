/- The vote of two, the program's and the model's. -/
import Derived.Test.YtdikhdfpcipdbaaGreatDoorVtVote
namespace Go.Proofs.YtdikhdfpcipdbaaGreatDoor.vt
open Go.ChangeShapes Go.WideShapes Go.ChangeAt Go.RowKit
open Go.Proofs.YtdikhdfpcipdbaaGreatDoor.nums Go.Proofs.YtdikhdfpcipdbaaGreatDoor.mem Go.Proofs.YtdikhdfpcipdbaaGreatDoor.rd
open Go.Proofs.YtdikhdfpcipdbaaGreatDoor.tab (Ret quiet_w)
set_option linter.unusedVariables false

theorem apart_sorted (x y : Int) : kApart (min x y) (max x y) = kApart x y := by
  rcases Int.le_total x y with h | h
  · rw [Int.min_eq_left h, Int.max_eq_right h]
  · rw [Int.min_eq_right h, Int.max_eq_left h]; unfold kApart; omega
theorem two_sorted (ap x y : Int) : ∃ p q, srt [x, y] = [p, q] ∧ v2 ap [x, y] = (p, decide (kApart p q ≤ ap)) := ⟨_, _, srt_two x y, by rw [apart_sorted]; rfl⟩
theorem inb_iff {x l h : Int} : inb x l h = true ↔ l ≤ x ∧ x ≤ h := by unfold inb; simp
theorem upto2 {l : List Int} (h : l.length ≤ 2) : l = [] ∨ (∃ a, l = [a]) ∨ ∃ a b, l = [a, b] := by
  match l, h with
  | [], _ => exact .inl rfl
  | [a], _ => exact .inr (.inl ⟨a, rfl⟩)
  | [a, b], _ => exact .inr (.inr ⟨a, b, rfl⟩)
  | _ :: _ :: _ :: _, h => simp at h
theorem row_nil {w : World} {base cap : Nat} (h : IRow w base (.slice none 0 cap) []) : cap = 0 := by
  rcases h.2 with ⟨h0, _⟩ | ⟨g, c, cur, hv, _⟩
  · injection h0
  · cases hv

set_option maxRecDepth 100000 in
set_option maxHeartbeats 4000000 in
theorem implVoteTwo (a : Option Addr) (cap : Nat) (l : List R) (m ap : Int) (w : World) (h : Arg w a l) (hl : l.length ≤ 1048576) :
    Calls Tryz.prog 36 #[.slice a l.length cap, .int .i64 m, .int .i64 ap] w (RetV (voteTwo l m ap) w) := by
  unfold voteTwo
  by_cases hin : inb ap 0 1000000 = true
  · rw [if_pos hin]
    obtain ⟨hp1, hp2⟩ := inb_iff.1 hin
    clear hin
    have hV := fun v (hv : v ∈ voters l 2 m) => voters_in hv
    have hF := implFresh a cap l 2 m w h hl (by omega)
    rcases upto2 (voters_length l 2 m) with e | ⟨x, e⟩ | ⟨x, y, e⟩
    · rw [e] at hF ⊢
      clear hV e
      go_enter Tryz.func36, Tryz.ntmps36
      go_wp2_with fail
      refine hF.mono ?_
      rintro e w1 ⟨a1, c1, rfl, g1, o1, ha1⟩
      obtain rfl := ha1 rfl
      obtain rfl := row_nil o1
      go_wp2_with fail
      refine (inOrderNil _).mono ?_
      rintro e w2 ⟨rfl, rfl⟩
      go_wp2_with fail
      go_ret2
      exact ⟨rfl, g1⟩
    · rw [e] at hF hV ⊢
      obtain ⟨hx1, hx2⟩ := hV x (by simp)
      clear hV e
      go_enter Tryz.func36, Tryz.ntmps36
      go_wp2_with fail
      refine hF.mono ?_
      rintro e w1 ⟨a1, c1, rfl, g1, o1, _⟩
      go_wp2_with fail
      refine (inOrder _ a1 c1 [x] _ o1 (by simp) (by simp)).mono ?_
      rw [srt_one]
      rintro e w2 ⟨a2, c2, rfl, g2, o2, _⟩
      obtain ⟨g, rfl, hbg, hlt⟩ := row_some o2 (by simp)
      have k0 := row_cell o2 0 (by simp)
      simp at k0
      go_wp2_with fail
      go_ret2
      exact ⟨rfl, gr_trans g1 g2⟩
    · rw [e] at hF hV ⊢
      obtain ⟨hx1, hx2⟩ := hV x (by simp)
      obtain ⟨hy1, hy2⟩ := hV y (by simp)
      obtain ⟨p, q, hs, hv⟩ := two_sorted ap x y
      rw [hv]
      clear hV e hv
      go_enter Tryz.func36, Tryz.ntmps36
      go_wp2_with fail
      refine hF.mono ?_
      rintro e w1 ⟨a1, c1, rfl, g1, o1, _⟩
      go_wp2_with fail
      refine (inOrder _ a1 c1 [x, y] _ o1 (by simp) (by simp)).mono ?_
      rw [hs]
      rintro e w2 ⟨a2, c2, rfl, g2, o2, _⟩
      obtain ⟨g, rfl, hbg, hlt⟩ := row_some o2 (by simp)
      have k0 := row_cell o2 0 (by simp)
      have k1 := row_cell o2 1 (by simp)
      simp at k0 k1
      go_wp2_with fail
      go_quiet (first | (go_at_call 73; exact quiet_w (fix.implApart _ _ _)))
      go_wp2_with fail
      go_ret2
      exact ⟨rfl, gr_drewN (gr_trans g1 g2) _⟩
  · rw [if_neg hin]
    have hin' : ap < 0 ∨ 1000000 < ap := by
      have hne : ¬ (0 ≤ ap ∧ ap ≤ 1000000) := fun h => hin (inb_iff.2 h)
      omega
    clear hin
    rcases hin' with hp | hp
    · go_enter Tryz.func36, Tryz.ntmps36
      go_wp2_with fail
      go_ret2
      exact ⟨rfl, gr_refl _ _⟩
    · go_enter Tryz.func36, Tryz.ntmps36
      go_wp2_with fail
      go_ret2
      exact ⟨rfl, gr_refl _ _⟩

set_option maxRecDepth 100000 in
set_option maxHeartbeats 4000000 in
theorem specVoteTwo (a : Option Addr) (cap : Nat) (l : List R) (m ap : Int) (w : World) (h : Arg w a l) (hl : l.length ≤ 1048576) :
    Calls Tryz.prog 48 #[.slice a l.length cap, .int .i64 m, .int .i64 ap] w (RetV (voteTwo l m ap) w) := by
  unfold voteTwo
  have hI := fun W => fix.specIn ap 0 1000000 W
  by_cases hlen : l.length = 2
  · have hR := specRight a cap l w h hl
    cases hall : l.all okR with
    | false =>
      rw [voters_bad hall]
      have e0 : (if inb ap 0 1000000 = true then v2 ap [] else ((0 : Int), false)) = (0, false) := by split <;> rfl
      rw [e0]
      rw [hall] at hR
      clear hall e0
      rw [hlen] at hR ⊢
      go_enter Tryz.func48, Tryz.ntmps48
      go_wp2_with (go_at_call 52; refine hR.mono ?_; rintro e w1 ⟨rfl, g1⟩)
      go_ret2
      exact ⟨rfl, g1⟩
    | true =>
      rw [hall] at hR
      cases hin : inb ap 0 1000000 with
      | false =>
        rw [if_neg (by simp)]
        rw [hin] at hI
        clear hall hin
        rw [hlen] at hR ⊢
        go_enter Tryz.func48, Tryz.ntmps48
        go_wp2_with (first | (go_at_call 52; refine hR.mono ?_; rintro e w1 ⟨rfl, g1⟩) | (go_at_call 24; refine (hI _).mono ?_; rintro e w2 ⟨rfl, rfl⟩))
        go_ret2
        exact ⟨rfl, g1⟩
      | true =>
        rw [if_pos rfl]
        rw [hin] at hI
        have hL := voters_length l 2 m
        have hV := fun v (hv : v ∈ voters l 2 m) => voters_in hv
        rw [voters_ok hlen hall] at hL hV ⊢
        have hS := fun W hW => specFresh a cap l m W hW (by omega)
        clear hall hin
        rw [hlen] at hR hS ⊢
        rcases upto2 hL with e | ⟨x, e⟩ | ⟨x, y, e⟩
        · rw [e] at hS ⊢
          clear hV hL e
          go_enter Tryz.func48, Tryz.ntmps48
          go_wp2_with (first | (go_at_call 52; refine hR.mono ?_; rintro e w1 ⟨rfl, g1⟩) | (go_at_call 24; refine (hI _).mono ?_; rintro e w2 ⟨rfl, rfl⟩))
          refine (hS _ (h.kept g1)).mono ?_
          rintro e w2 ⟨a1, c1, rfl, g2, o1⟩
          go_wp2_with fail
          go_ret2
          exact ⟨rfl, gr_trans g1 g2⟩
        · rw [e] at hS hV ⊢
          obtain ⟨hx1, hx2⟩ := hV x (by simp)
          clear hV hL e
          go_enter Tryz.func48, Tryz.ntmps48
          go_wp2_with (first | (go_at_call 52; refine hR.mono ?_; rintro e w1 ⟨rfl, g1⟩) | (go_at_call 24; refine (hI _).mono ?_; rintro e w2 ⟨rfl, rfl⟩))
          refine (hS _ (h.kept g1)).mono ?_
          rintro e w2 ⟨a1, c1, rfl, g2, o1⟩
          obtain ⟨g, rfl, hbg, hlt⟩ := row_some o1 (by simp)
          have k0 := row_cell o1 0 (by simp)
          simp at k0
          go_wp2_with fail
          go_ret2
          exact ⟨rfl, gr_trans g1 g2⟩
        · rw [e] at hS hV ⊢
          obtain ⟨hx1, hx2⟩ := hV x (by simp)
          obtain ⟨hy1, hy2⟩ := hV y (by simp)
          clear hV hL e
          go_enter Tryz.func48, Tryz.ntmps48
          go_wp2_with (first | (go_at_call 52; refine hR.mono ?_; rintro e w1 ⟨rfl, g1⟩) | (go_at_call 24; refine (hI _).mono ?_; rintro e w2 ⟨rfl, rfl⟩))
          refine (hS _ (h.kept g1)).mono ?_
          rintro e w2 ⟨a1, c1, rfl, g2, o1⟩
          obtain ⟨g, rfl, hbg, hlt⟩ := row_some o1 (by simp)
          have k0 := row_cell o1 0 (by simp)
          have k1 := row_cell o1 1 (by simp)
          simp at k0 k1
          go_wp2_with fail
          go_quiet (first | (go_at_call 79; exact quiet_w (fix.specMin _ _ _)) | (go_at_call 82; exact quiet_w (fix.specApart _ _ _)))
          go_wp2_with fail
          go_ret2
          exact ⟨rfl, gr_drewN (gr_trans g1 g2) _⟩
  · rw [voters_len hlen]
    have e0 : (if inb ap 0 1000000 = true then v2 ap [] else ((0 : Int), false)) = (0, false) := by split <;> rfl
    rw [e0]
    go_enter Tryz.func48, Tryz.ntmps48
    go_wp2_with fail
    go_ret2
    exact ⟨rfl, gr_refl _ _⟩
end Go.Proofs.YtdikhdfpcipdbaaGreatDoor.vt
