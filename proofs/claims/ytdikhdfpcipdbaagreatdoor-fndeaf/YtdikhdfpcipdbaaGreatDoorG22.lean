/- The votes of three and of two, the program's and the model's. The vote of two, the program's and the model's. What came in: facts; read, copied into new memory. A list of frames that grows by append. -/
import Derived.Test.YtdikhdfpcipdbaaGreatDoorG21
import Derived.Test.YtdikhdfpcipdbaaGreatDoorG17
import Derived.ChangeSame
import Derived.Deep.Strs
import Derived.StillTailTactics
import Derived.Test.YtdikhdfpcipdbaaGreatDoorG10
/- The votes of three and of two, the program's and the model's. -/
namespace Go.Proofs.YtdikhdfpcipdbaaGreatDoor.vt
open Go.ChangeShapes Go.WideShapes Go.ChangeAt Go.RowKit
open Go.Proofs.YtdikhdfpcipdbaaGreatDoor.nums Go.Proofs.YtdikhdfpcipdbaaGreatDoor.mem Go.Proofs.YtdikhdfpcipdbaaGreatDoor.rd
open Go.Proofs.YtdikhdfpcipdbaaGreatDoor.tab (Ret quiet_w)
set_option linter.unusedVariables false

/-- It answers this vote; of what was there nothing is another. -/
def RetV (v : Int × Bool) (w : World) (e : Ending) (w' : World) : Prop := e = .returned (.tuple #[.int .i64 v.1, .bool v.2]) ∧ w.grownBy w' none

set_option maxRecDepth 100000 in
set_option maxHeartbeats 4000000 in
theorem implVoteThree (a : Option Addr) (cap : Nat) (l : List R) (m : Int) (w : World) (h : Arg w a l) (hl : l.length ≤ 1048576) :
    Calls Tryz.prog 35 #[.slice a l.length cap, .int .i64 m] w (RetV (voteThree l m) w) := by
  unfold voteThree
  have hV := fun v (hv : v ∈ voters l 3 m) => voters_in hv
  have hF := implFresh a cap l 3 m w h hl (by omega)
  rcases upto3 (voters_length l 3 m) with e | ⟨x, e⟩ | ⟨x, y, e⟩ | ⟨x, y, z, e⟩
  · rw [e] at hF ⊢
    clear hV e
    go_enter Tryz.func35, Tryz.ntmps35
    go_wp2_with fail
    refine hF.mono ?_
    rintro e w1 ⟨a1, c1, rfl, g1, o1, _⟩
    go_wp2_with fail
    go_ret2
    exact ⟨rfl, g1⟩
  · rw [e] at hF hV ⊢
    obtain ⟨hx1, hx2⟩ := hV x (by simp)
    clear hV e
    go_enter Tryz.func35, Tryz.ntmps35
    go_wp2_with fail
    refine hF.mono ?_
    rintro e w1 ⟨a1, c1, rfl, g1, o1, _⟩
    obtain ⟨g, rfl, hbg, hlt⟩ := row_some o1 (by simp)
    have k0 := row_cell o1 0 (by simp)
    simp at k0
    go_wp2_with fail
    go_ret2
    exact ⟨rfl, g1⟩
  · rw [e] at hF hV ⊢
    obtain ⟨hx1, hx2⟩ := hV x (by simp)
    obtain ⟨hy1, hy2⟩ := hV y (by simp)
    clear hV e
    go_enter Tryz.func35, Tryz.ntmps35
    go_wp2_with fail
    refine hF.mono ?_
    rintro e w1 ⟨a1, c1, rfl, g1, o1, _⟩
    obtain ⟨g, rfl, hbg, hlt⟩ := row_some o1 (by simp)
    have k0 := row_cell o1 0 (by simp)
    have k1 := row_cell o1 1 (by simp)
    simp at k0 k1
    go_wp2_with fail
    go_quiet (fail)
    go_wp2_with fail
    go_ret2
    exact ⟨rfl, gr_drewN g1 _⟩
  · rw [e] at hF hV ⊢
    clear hV e
    go_enter Tryz.func35, Tryz.ntmps35
    go_wp2_with fail
    refine hF.mono ?_
    rintro e w1 ⟨a1, c1, rfl, g1, o1, _⟩
    obtain ⟨g, rfl, hbg, hlt⟩ := row_some o1 (by simp)
    have k0 := row_cell o1 0 (by simp)
    have k1 := row_cell o1 1 (by simp)
    have k2 := row_cell o1 2 (by simp)
    simp at k0 k1 k2
    have o2 : IRow w1.drew w.heap.size (.slice (some ⟨g, 0, none⟩) 3 c1) [x, y, z] := o1
    go_wp2_with fail
    go_region_held3 (fun W => W.cell? ⟨g, 0, none⟩ = some (.int .i64 x) ∧ W.cell? ⟨g, 1, none⟩ = some (.int .i64 y) ∧ W.cell? ⟨g, 2, none⟩ = some (.int .i64 z)) (first | exact ⟨row_cell o3 0 (by simp), row_cell o3 1 (by simp), row_cell o3 2 (by simp)⟩ | exact ⟨row_cell o2 0 (by simp), row_cell o2 1 (by simp), row_cell o2 2 (by simp)⟩) (first | (go_at_call 71; refine (implMiddle _ _ _ _).mono ?_; rintro e w2 ⟨rfl, g2⟩; have o3 := o2.kept g2 (.inr (by simp [Value.ownBlock]))))
    go_wp2_with fail
    go_ret2
    exact ⟨rfl, gr_trans (gr_drewN g1 1) g2⟩

set_option maxRecDepth 100000 in
set_option maxHeartbeats 4000000 in
theorem specVoteThree (a : Option Addr) (cap : Nat) (l : List R) (m : Int) (w : World) (h : Arg w a l) (hl : l.length ≤ 1048576) :
    Calls Tryz.prog 47 #[.slice a l.length cap, .int .i64 m] w (RetV (voteThree l m) w) := by
  unfold voteThree
  by_cases hlen : l.length = 3
  · have hR := specRight a cap l w h hl
    cases hall : l.all okR with
    | false =>
      rw [voters_bad hall]
      rw [hall] at hR
      clear hall
      rw [hlen] at hR ⊢
      go_enter Tryz.func47, Tryz.ntmps47
      go_wp2_with (go_at_call 52; refine hR.mono ?_; rintro e w1 ⟨rfl, g1⟩)
      go_ret2
      exact ⟨rfl, g1⟩
    | true =>
      have hL := voters_length l 3 m
      have hV := fun v (hv : v ∈ voters l 3 m) => voters_in hv
      rw [voters_ok hlen hall] at hL hV ⊢
      rw [hall] at hR
      have hS := fun W hW => specFresh a cap l m W hW (by omega)
      clear hall
      rw [hlen] at hR hS ⊢
      rcases upto3 hL with e | ⟨x, e⟩ | ⟨x, y, e⟩ | ⟨x, y, z, e⟩
      · rw [e] at hS ⊢
        clear hV hL e
        go_enter Tryz.func47, Tryz.ntmps47
        go_wp2_with (go_at_call 52; refine hR.mono ?_; rintro e w1 ⟨rfl, g1⟩)
        refine (hS _ (h.kept g1)).mono ?_
        rintro e w2 ⟨a1, c1, rfl, g2, o1⟩
        go_wp2_with fail
        go_ret2
        exact ⟨rfl, gr_trans g1 g2⟩
      · rw [e] at hS hV ⊢
        obtain ⟨hx1, hx2⟩ := hV x (by simp)
        clear hV hL e
        go_enter Tryz.func47, Tryz.ntmps47
        go_wp2_with (go_at_call 52; refine hR.mono ?_; rintro e w1 ⟨rfl, g1⟩)
        refine (hS _ (h.kept g1)).mono ?_
        rintro e w2 ⟨a1, c1, rfl, g2, o1⟩
        obtain ⟨g, rfl, hbg, hlt⟩ := row_some o1 (by simp)
        have k0 := row_cell o1 0 (by simp)
        simp at k0
        go_wp2_with fail
        go_ret2
        exact ⟨rfl, gr_trans g1 g2⟩
      · rw [e] at hS hV ⊢
        obtain ⟨hx1, hx2⟩ := hV x (by simp)
        obtain ⟨hy1, hy2⟩ := hV y (by simp)
        clear hV hL e
        go_enter Tryz.func47, Tryz.ntmps47
        go_wp2_with (go_at_call 52; refine hR.mono ?_; rintro e w1 ⟨rfl, g1⟩)
        refine (hS _ (h.kept g1)).mono ?_
        rintro e w2 ⟨a1, c1, rfl, g2, o1⟩
        obtain ⟨g, rfl, hbg, hlt⟩ := row_some o1 (by simp)
        have k0 := row_cell o1 0 (by simp)
        have k1 := row_cell o1 1 (by simp)
        simp at k0 k1
        go_wp2_with fail
        go_quiet (fail)
        go_wp2_with fail
        go_ret2
        exact ⟨rfl, gr_drewN (gr_trans g1 g2) _⟩
      · rw [e] at hS hV ⊢
        clear hV hL e
        go_enter Tryz.func47, Tryz.ntmps47
        go_wp2_with (go_at_call 52; refine hR.mono ?_; rintro e w1 ⟨rfl, g1⟩)
        refine (hS _ (h.kept g1)).mono ?_
        rintro e w2 ⟨a1, c1, rfl, g2, o1⟩
        obtain ⟨g, rfl, hbg, hlt⟩ := row_some o1 (by simp)
        have k0 := row_cell o1 0 (by simp)
        have k1 := row_cell o1 1 (by simp)
        have k2 := row_cell o1 2 (by simp)
        simp at k0 k1 k2
        go_wp2_with fail
        go_quiet (first | (go_at_call 81; exact quiet_w (specMiddle _ _ _ _)))
        go_wp2_with fail
        go_ret2
        exact ⟨rfl, gr_drewN (gr_trans g1 g2) _⟩
  · rw [voters_len hlen]
    go_enter Tryz.func47, Tryz.ntmps47
    go_wp2_with fail
    go_ret2
    exact ⟨rfl, gr_refl _ _⟩
end Go.Proofs.YtdikhdfpcipdbaaGreatDoor.vt

/- The vote of two, the program's and the model's. -/
namespace Go.Proofs.YtdikhdfpcipdbaaGreatDoor.vt
open Go.ChangeShapes Go.WideShapes Go.ChangeAt Go.RowKit
open Go.Proofs.YtdikhdfpcipdbaaGreatDoor.nums Go.Proofs.YtdikhdfpcipdbaaGreatDoor.mem Go.Proofs.YtdikhdfpcipdbaaGreatDoor.rd
open Go.Proofs.YtdikhdfpcipdbaaGreatDoor.tab (Ret quiet_w)
set_option linter.unusedVariables false

theorem apart_sorted (x y : Int) : kApart (min x y) (max x y) = kApart x y := by
  rcases Int.le_total x y with h | h
  · rw [Int.min_eq_left h, Int.max_eq_right h]
  · rw [Int.min_eq_right h, Int.max_eq_left h]; unfold kApart; omega
theorem two_sorted (ap x y : Int) : ∃ p q, srt [x, y] = [p, q] ∧ v2 ap [x, y] = (p, decide (kApart p q ≤ ap)) := ⟨_, _, srt_two x y, by rw [apart_sorted]; rfl⟩
theorem inb_iff {x l h : Int} : inb x l h = true ↔ l ≤ x ∧ x ≤ h := by unfold inb; simp
theorem upto2 {l : List Int} (h : l.length ≤ 2) : l = [] ∨ (∃ a, l = [a]) ∨ ∃ a b, l = [a, b] := by
  match l, h with
  | [], _ => exact .inl rfl
  | [a], _ => exact .inr (.inl ⟨a, rfl⟩)
  | [a, b], _ => exact .inr (.inr ⟨a, b, rfl⟩)
  | _ :: _ :: _ :: _, h => simp at h
theorem row_nil {w : World} {base cap : Nat} (h : IRow w base (.slice none 0 cap) []) : cap = 0 := by
  rcases h.2 with ⟨h0, _⟩ | ⟨g, c, cur, hv, _⟩
  · injection h0
  · cases hv

set_option maxRecDepth 100000 in
set_option maxHeartbeats 4000000 in
theorem implVoteTwo (a : Option Addr) (cap : Nat) (l : List R) (m ap : Int) (w : World) (h : Arg w a l) (hl : l.length ≤ 1048576) :
    Calls Tryz.prog 36 #[.slice a l.length cap, .int .i64 m, .int .i64 ap] w (RetV (voteTwo l m ap) w) := by
  unfold voteTwo
  by_cases hin : inb ap 0 1000000 = true
  · rw [if_pos hin]
    obtain ⟨hp1, hp2⟩ := inb_iff.1 hin
    clear hin
    have hV := fun v (hv : v ∈ voters l 2 m) => voters_in hv
    have hF := implFresh a cap l 2 m w h hl (by omega)
    rcases upto2 (voters_length l 2 m) with e | ⟨x, e⟩ | ⟨x, y, e⟩
    · rw [e] at hF ⊢
      clear hV e
      go_enter Tryz.func36, Tryz.ntmps36
      go_wp2_with fail
      refine hF.mono ?_
      rintro e w1 ⟨a1, c1, rfl, g1, o1, ha1⟩
      obtain rfl := ha1 rfl
      obtain rfl := row_nil o1
      go_wp2_with fail
      refine (inOrderNil _).mono ?_
      rintro e w2 ⟨rfl, rfl⟩
      go_wp2_with fail
      go_ret2
      exact ⟨rfl, g1⟩
    · rw [e] at hF hV ⊢
      obtain ⟨hx1, hx2⟩ := hV x (by simp)
      clear hV e
      go_enter Tryz.func36, Tryz.ntmps36
      go_wp2_with fail
      refine hF.mono ?_
      rintro e w1 ⟨a1, c1, rfl, g1, o1, _⟩
      go_wp2_with fail
      refine (inOrder _ a1 c1 [x] _ o1 (by simp) (by simp)).mono ?_
      rw [srt_one]
      rintro e w2 ⟨a2, c2, rfl, g2, o2, _⟩
      obtain ⟨g, rfl, hbg, hlt⟩ := row_some o2 (by simp)
      have k0 := row_cell o2 0 (by simp)
      simp at k0
      go_wp2_with fail
      go_ret2
      exact ⟨rfl, gr_trans g1 g2⟩
    · rw [e] at hF hV ⊢
      obtain ⟨hx1, hx2⟩ := hV x (by simp)
      obtain ⟨hy1, hy2⟩ := hV y (by simp)
      obtain ⟨p, q, hs, hv⟩ := two_sorted ap x y
      rw [hv]
      clear hV e hv
      go_enter Tryz.func36, Tryz.ntmps36
      go_wp2_with fail
      refine hF.mono ?_
      rintro e w1 ⟨a1, c1, rfl, g1, o1, _⟩
      go_wp2_with fail
      refine (inOrder _ a1 c1 [x, y] _ o1 (by simp) (by simp)).mono ?_
      rw [hs]
      rintro e w2 ⟨a2, c2, rfl, g2, o2, _⟩
      obtain ⟨g, rfl, hbg, hlt⟩ := row_some o2 (by simp)
      have k0 := row_cell o2 0 (by simp)
      have k1 := row_cell o2 1 (by simp)
      simp at k0 k1
      go_wp2_with fail
      go_quiet (first | (go_at_call 73; exact quiet_w (fix.implApart _ _ _)))
      go_wp2_with fail
      go_ret2
      exact ⟨rfl, gr_drewN (gr_trans g1 g2) _⟩
  · rw [if_neg hin]
    have hin' : ap < 0 ∨ 1000000 < ap := by
      have hne : ¬ (0 ≤ ap ∧ ap ≤ 1000000) := fun h => hin (inb_iff.2 h)
      omega
    clear hin
    rcases hin' with hp | hp
    · go_enter Tryz.func36, Tryz.ntmps36
      go_wp2_with fail
      go_ret2
      exact ⟨rfl, gr_refl _ _⟩
    · go_enter Tryz.func36, Tryz.ntmps36
      go_wp2_with fail
      go_ret2
      exact ⟨rfl, gr_refl _ _⟩

set_option maxRecDepth 100000 in
set_option maxHeartbeats 4000000 in
theorem specVoteTwo (a : Option Addr) (cap : Nat) (l : List R) (m ap : Int) (w : World) (h : Arg w a l) (hl : l.length ≤ 1048576) :
    Calls Tryz.prog 48 #[.slice a l.length cap, .int .i64 m, .int .i64 ap] w (RetV (voteTwo l m ap) w) := by
  unfold voteTwo
  have hI := fun W => fix.specIn ap 0 1000000 W
  by_cases hlen : l.length = 2
  · have hR := specRight a cap l w h hl
    cases hall : l.all okR with
    | false =>
      rw [voters_bad hall]
      have e0 : (if inb ap 0 1000000 = true then v2 ap [] else ((0 : Int), false)) = (0, false) := by split <;> rfl
      rw [e0]
      rw [hall] at hR
      clear hall e0
      rw [hlen] at hR ⊢
      go_enter Tryz.func48, Tryz.ntmps48
      go_wp2_with (go_at_call 52; refine hR.mono ?_; rintro e w1 ⟨rfl, g1⟩)
      go_ret2
      exact ⟨rfl, g1⟩
    | true =>
      rw [hall] at hR
      cases hin : inb ap 0 1000000 with
      | false =>
        rw [if_neg (by simp)]
        rw [hin] at hI
        clear hall hin
        rw [hlen] at hR ⊢
        go_enter Tryz.func48, Tryz.ntmps48
        go_wp2_with (first | (go_at_call 52; refine hR.mono ?_; rintro e w1 ⟨rfl, g1⟩) | (go_at_call 24; refine (hI _).mono ?_; rintro e w2 ⟨rfl, rfl⟩))
        go_ret2
        exact ⟨rfl, g1⟩
      | true =>
        rw [if_pos rfl]
        rw [hin] at hI
        have hL := voters_length l 2 m
        have hV := fun v (hv : v ∈ voters l 2 m) => voters_in hv
        rw [voters_ok hlen hall] at hL hV ⊢
        have hS := fun W hW => specFresh a cap l m W hW (by omega)
        clear hall hin
        rw [hlen] at hR hS ⊢
        rcases upto2 hL with e | ⟨x, e⟩ | ⟨x, y, e⟩
        · rw [e] at hS ⊢
          clear hV hL e
          go_enter Tryz.func48, Tryz.ntmps48
          go_wp2_with (first | (go_at_call 52; refine hR.mono ?_; rintro e w1 ⟨rfl, g1⟩) | (go_at_call 24; refine (hI _).mono ?_; rintro e w2 ⟨rfl, rfl⟩))
          refine (hS _ (h.kept g1)).mono ?_
          rintro e w2 ⟨a1, c1, rfl, g2, o1⟩
          go_wp2_with fail
          go_ret2
          exact ⟨rfl, gr_trans g1 g2⟩
        · rw [e] at hS hV ⊢
          obtain ⟨hx1, hx2⟩ := hV x (by simp)
          clear hV hL e
          go_enter Tryz.func48, Tryz.ntmps48
          go_wp2_with (first | (go_at_call 52; refine hR.mono ?_; rintro e w1 ⟨rfl, g1⟩) | (go_at_call 24; refine (hI _).mono ?_; rintro e w2 ⟨rfl, rfl⟩))
          refine (hS _ (h.kept g1)).mono ?_
          rintro e w2 ⟨a1, c1, rfl, g2, o1⟩
          obtain ⟨g, rfl, hbg, hlt⟩ := row_some o1 (by simp)
          have k0 := row_cell o1 0 (by simp)
          simp at k0
          go_wp2_with fail
          go_ret2
          exact ⟨rfl, gr_trans g1 g2⟩
        · rw [e] at hS hV ⊢
          obtain ⟨hx1, hx2⟩ := hV x (by simp)
          obtain ⟨hy1, hy2⟩ := hV y (by simp)
          clear hV hL e
          go_enter Tryz.func48, Tryz.ntmps48
          go_wp2_with (first | (go_at_call 52; refine hR.mono ?_; rintro e w1 ⟨rfl, g1⟩) | (go_at_call 24; refine (hI _).mono ?_; rintro e w2 ⟨rfl, rfl⟩))
          refine (hS _ (h.kept g1)).mono ?_
          rintro e w2 ⟨a1, c1, rfl, g2, o1⟩
          obtain ⟨g, rfl, hbg, hlt⟩ := row_some o1 (by simp)
          have k0 := row_cell o1 0 (by simp)
          have k1 := row_cell o1 1 (by simp)
          simp at k0 k1
          go_wp2_with fail
          go_quiet (first | (go_at_call 79; exact quiet_w (fix.specMin _ _ _)) | (go_at_call 82; exact quiet_w (fix.specApart _ _ _)))
          go_wp2_with fail
          go_ret2
          exact ⟨rfl, gr_drewN (gr_trans g1 g2) _⟩
  · rw [voters_len hlen]
    have e0 : (if inb ap 0 1000000 = true then v2 ap [] else ((0 : Int), false)) = (0, false) := by split <;> rfl
    rw [e0]
    go_enter Tryz.func48, Tryz.ntmps48
    go_wp2_with fail
    go_ret2
    exact ⟨rfl, gr_refl _ _⟩
end Go.Proofs.YtdikhdfpcipdbaaGreatDoor.vt

/- What came in: facts; read, copied into new memory. -/
namespace Go.Proofs.YtdikhdfpcipdbaaGreatDoor.md
open Go.ChangeShapes Go.WideShapes Go.ChangeAt Go.RowKit
open Go.Proofs.YtdikhdfpcipdbaaGreatDoor.nums Go.Proofs.YtdikhdfpcipdbaaGreatDoor.mem
open Go.Proofs.YtdikhdfpcipdbaaGreatDoor.tab (Ret quiet_w)
set_option linter.unusedVariables false

section
variable {H : Type} {enc : TypeId × Value → H} {P : Program} {w : World} {base : Nat} {spare : Nat → Bool} {held : Bool}
end

/-- These facts come back. -/
abbrev RetF (f : Fx) (w : World) (e : Ending) (w' : World) : Prop := Ret (fac f) w e w'

end Go.Proofs.YtdikhdfpcipdbaaGreatDoor.md

/- A list of frames that grows by append. -/
namespace Go.Proofs.YtdikhdfpcipdbaaGreatDoor.stm
open Go.ChangeShapes Go.WideShapes Go.ChangeAt Go.RowKit
open Go.Proofs.YtdikhdfpcipdbaaGreatDoor.nums Go.Proofs.YtdikhdfpcipdbaaGreatDoor.mem Go.Proofs.YtdikhdfpcipdbaaGreatDoor.txt Go.Proofs.YtdikhdfpcipdbaaGreatDoor.fix Go.Proofs.YtdikhdfpcipdbaaGreatDoor.frm
open Go.Proofs.YtdikhdfpcipdbaaGreatDoor.tab (Ret quiet_w wpList_make_has add_off)
set_option linter.unusedVariables false

/-- The cells of a frame. -/
abbrev cel (f : Fr) (p : Pl) : List Value := [.int .i64 f.1, .int .i64 f.2.1, .slice p.1 f.2.2.length p.2]
/-- The cells of a list of frames. -/
def rowF : List Fr → List Pl → List Value
  | f :: fs, p :: ps => .int .i64 f.1 :: .int .i64 f.2.1 :: .slice p.1 f.2.2.length p.2 :: rowF fs ps
  | _, _ => []
theorem rowF_snoc : ∀ (fs : List Fr) (ps : List Pl) (f : Fr) (p : Pl), ps.length = fs.length → rowF (fs ++ [f]) (ps ++ [p]) = rowF fs ps ++ cel f p := by
  intro fs
  induction fs with
  | nil => intro ps f p h; have : ps = [] := List.length_eq_zero_iff.1 h
           subst this; rfl
  | cons x fs ih =>
    intro ps f p h
    cases ps with
    | nil => simp at h
    | cons y ps =>
      have := ih ps f p (by simpa using h)
      simp only [List.cons_append, rowF, this]
theorem rowF_at : ∀ (fs : List Fr) (ps : List Pl) (k : Nat), ps.length = fs.length → k < fs.length →
    (rowF fs ps)[k * 3]? = some (.int .i64 (fk fs k)) ∧ (rowF fs ps)[k * 3 + 1]? = some (.int .i64 (fq fs k)) ∧ (rowF fs ps)[k * 3 + 2]? = some (.slice (pa ps k) (fv fs k).length (pc ps k)) := by
  intro fs
  induction fs with
  | nil => intro ps k _ h; simp at h
  | cons x fs ih =>
    intro ps k hl hk
    cases ps with
    | nil => simp at hl
    | cons y ps =>
      cases k with
      | zero => exact ⟨rfl, rfl, rfl⟩
      | succ k =>
        obtain ⟨h0, h1, h2⟩ := ih ps k (by simpa using hl) (by simpa using hk)
        rw [show (k + 1) * 3 = k * 3 + 1 + 1 + 1 by omega]
        refine ⟨?_, ?_, ?_⟩
        · simp only [rowF, List.getElem?_cons_succ]; exact h0
        · simp only [rowF, List.getElem?_cons_succ]; exact h1
        · simp only [rowF, List.getElem?_cons_succ]; exact h2
theorem fk_lt {fs : List Fr} {f : Fr} {k : Nat} (h : k < fs.length) : fk (fs ++ [f]) k = fk fs k ∧ fq (fs ++ [f]) k = fq fs k ∧ fv (fs ++ [f]) k = fv fs k := by
  simp [fk, fq, fv, List.getD, List.getElem?_append_left h]
theorem fk_eq {fs : List Fr} {f : Fr} : fk (fs ++ [f]) fs.length = f.1 ∧ fq (fs ++ [f]) fs.length = f.2.1 ∧ fv (fs ++ [f]) fs.length = f.2.2 := by
  simp [fk, fq, fv, List.getD]
theorem pa_lt {ps : List Pl} {p : Pl} {k : Nat} (h : k < ps.length) : pa (ps ++ [p]) k = pa ps k ∧ pc (ps ++ [p]) k = pc ps k := by
  simp [pa, pc, List.getD, List.getElem?_append_left h]
theorem pa_eq {ps : List Pl} {p : Pl} : pa (ps ++ [p]) ps.length = p.1 ∧ pc (ps ++ [p]) ps.length = p.2 := by
  simp [pa, pc, List.getD]

/-- The value v is a list of these frames, in a row of its own that is not below base, nor are their values, nor do these lie in that row. -/
structure Lst (base : Nat) (w : World) (v : Value) (fs : List Fr) (ps : List Pl) : Prop where
  len : ps.length = fs.length
  row : w.ownsRow base 50 3 v fs.length (rowF fs ps)
  vals : ∀ k, k < fs.length → Ints w (pa ps k) (fv fs k)
  off : ∀ k b, k < fs.length → blkV (pa ps k) (fv fs k) b → base ≤ b ∧ v.ownBlock ≠ some b
theorem Lst.nil (base : Nat) (w : World) : Lst base w (.slice none 0 0) [] [] := ⟨rfl, World.ownsRow_nil _ _ _ _, fun k hk => by simp at hk, fun k b hk => by simp at hk⟩
theorem Lst.made (base : Nat) (w : World) (hb : base ≤ w.heap.size) : Lst base (w.alloc (Obj.cells #[] 50)) (.slice (some ⟨w.heap.size, 0, none⟩) 0 0) [] [] :=
  ⟨rfl, World.ownsRow_made w #[] 0 hb (Nat.zero_le _) rfl, fun k hk => by simp at hk, fun k b hk => by simp at hk⟩
theorem Lst.grown {base : Nat} {w w' : World} {v : Value} {fs : List Fr} {ps : List Pl} {row : Option Nat} (h : Lst base w v fs ps) (hg : w.grownBy w' row) (hq : ∀ q, row = some q → q < base) : Lst base w' v fs ps := by
  have hrow : w'.ownsRow base 50 3 v fs.length (rowF fs ps) := h.row.kept hg (by
    cases hv : v.ownBlock with
    | none => exact Or.inl rfl
    | some b => exact Or.inr (fun e => by have := (h.row.lt b hv).1; have := hq b e.symm; omega))
  exact ⟨h.len, hrow, fun k hk => (chg_of_gr (S := fun b => some b = row) hg (fun b e => e)).ints (h.vals k hk) (fun x e hl er => by
    have := (h.off k x.block hk ⟨fun e => by rw [e] at hl; simp at hl, x, e, rfl⟩).1
    have := hq _ er.symm
    omega), h.off⟩
theorem Lst.chg {S : Nat → Prop} {base : Nat} {w w' : World} {v : Value} {fs : List Fr} {ps : List Pl} (h : Lst base w v fs ps) (hc : Chg S w w') (h1 : ∀ b, v.ownBlock = some b → ¬ S b) (h2 : ∀ k b, k < fs.length → blkV (pa ps k) (fv fs k) b → ¬ S b) : Lst base w' v fs ps := by
  refine ⟨h.len, ⟨h.row.1, ?_⟩, fun k hk => hc.ints (h.vals k hk) (fun x e hl => h2 k x.block hk ⟨fun e => by rw [e] at hl; simp at hl, x, e, rfl⟩), h.off⟩
  rcases h.row.2 with hn | ⟨g, cap, cur, hv, hb, hcur, rest⟩
  · exact Or.inl hn
  · exact Or.inr ⟨g, cap, cur, hv, hb, hc.has (show Has w g 50 cur from hcur) (h1 g (by rw [hv]; rfl)), rest⟩
theorem Lst.lt {base : Nat} {w : World} {v : Value} {fs : List Fr} {ps : List Pl} (h : Lst base w v fs ps) : (∀ b, v.ownBlock = some b → b < w.heap.size) ∧ ∀ k b, k < fs.length → blkV (pa ps k) (fv fs k) b → b < w.heap.size := by
  refine ⟨fun b e => (h.row.lt b e).2, fun k b hk hb => ?_⟩
  obtain ⟨hne, x, ex, rfl⟩ := hb
  obtain ⟨y, ey, hy, _⟩ := h.vals k hk 0 (List.length_pos_iff.2 hne)
  rw [ex] at ey
  injection ey with ey
  subst ey
  exact hy
theorem Lst.kept {base : Nat} {w w' : World} {v : Value} {fs : List Fr} {ps : List Pl} (h : Lst base w v fs ps) (hg : w.grownBy w' none) : Lst base w' v fs ps := h.grown hg (fun q e => by cases e)
theorem Lst.form {base : Nat} {w : World} {v : Value} {fs : List Fr} {ps : List Pl} (h : Lst base w v fs ps) : ∃ a cap, v = .slice a fs.length cap := by
  rcases h.row.2 with ⟨hv, hn⟩ | ⟨g, cap, cur, hv, _⟩
  · exact ⟨none, 0, by rw [hv, hn]⟩
  · exact ⟨_, _, hv⟩
theorem Lst.frs {base : Nat} {w : World} {a : Option Addr} {m cap : Nat} {fs : List Fr} {ps : List Pl} (h : Lst base w (.slice a m cap) fs ps) : Frs w a fs ps := by
  intro k hk
  rcases h.row.2 with ⟨_, hn⟩ | ⟨g, cap', cur, hv, _, hc, _⟩
  · omega
  · injection hv with hv1 hv2 hv3
    subst hv1
    have hrow := h.row
    obtain ⟨h0, h1, h2⟩ := rowF_at fs ps k h.len hk
    have hl := hrow.1
    rw [hv2] at hrow
    refine ⟨_, rfl, Has.lt hc, ?_, ?_, ?_, h.vals k hk⟩
    · rw [add0, hrow.cellAt (k * 3) (by omega)]; exact h0
    · rw [add0]; show w.cell? ⟨g, k * 3 + 1, none⟩ = _; rw [hrow.cellAt (k * 3 + 1) (by omega)]; exact h1
    · rw [add0]; show w.cell? ⟨g, k * 3 + 2, none⟩ = _; rw [hrow.cellAt (k * 3 + 2) (by omega)]; exact h2
/-- One more is appended. -/
theorem Lst.snoc {base : Nat} {w w' : World} {o : Obj} {v : Value} {fs : List Fr} {ps : List Pl} {f : Fr} {p : Pl} {g cap : Nat} (h : Lst base w v fs ps) (hI : Ints w p.1 f.2.2) (hoff : ∀ b, blkV p.1 f.2.2 b → base ≤ b ∧ v.ownBlock ≠ some b)
    (hown : w'.ownsRow base 50 3 (.slice (some ⟨g, 0, none⟩) (fs.length + 1) cap) (fs.length + 1) (rowF fs ps ++ cel f p)) (hg : (w.alloc o).grownBy w' v.ownBlock) (hat : v.ownBlock = some g ∨ g = w.heap.size + 1) :
    Lst base w' (.slice (some ⟨g, 0, none⟩) (fs.length + 1) cap) (fs ++ [f]) (ps ++ [p]) := by
  have hl := h.len
  have ints : ∀ a vs, Ints w a vs → (∀ b, blkV a vs b → base ≤ b ∧ v.ownBlock ≠ some b) → Ints w' a vs ∧ ∀ b, blkV a vs b → base ≤ b ∧ some g ≠ some b := fun a vs hI hb => by
    refine ⟨(chg_of_gr (S := fun b => some b = v.ownBlock) hg (fun b e => e)).ints (hI.kept (World.grownBy_alloc w o none)) (fun x e hl er => (hb x.block ⟨fun e => by rw [e] at hl; simp at hl, x, e, rfl⟩).2 er.symm), fun b hbb => ⟨(hb b hbb).1, fun e => ?_⟩⟩
    injection e with e
    rcases hat with hat | hat
    · exact (hb b hbb).2 (by rw [hat, e])
    · obtain ⟨hne, x, ex, ebx⟩ := hbb
      obtain ⟨y, ey, hy, _⟩ := hI 0 (List.length_pos_iff.2 hne)
      rw [ex] at ey
      injection ey with ey
      subst ey
      omega
  refine ⟨by simp [hl], ?_, fun k hk => ?_, fun k b hk hb => ?_⟩
  · rw [List.length_append, rowF_snoc fs ps f p hl]; exact hown
  · by_cases e : k < fs.length
    · rw [(fk_lt e).2.2, (pa_lt (by omega)).1]
      exact (ints _ _ (h.vals k e) (fun b hb => h.off k b e hb)).1
    · have e' : k = fs.length := by simp at hk; omega
      subst e'
      rw [fk_eq.2.2, ← hl, pa_eq.1]
      exact (ints _ _ hI hoff).1
  · by_cases e : k < fs.length
    · rw [(fk_lt e).2.2, (pa_lt (by omega)).1] at hb
      exact (ints _ _ (h.vals k e) (fun b hb => h.off k b e hb)).2 b hb
    · have e' : k = fs.length := by simp at hk; omega
      subst e'
      rw [fk_eq.2.2, ← hl, pa_eq.1] at hb
      exact (ints _ _ hI hoff).2 b hb
end Go.Proofs.YtdikhdfpcipdbaaGreatDoor.stm

