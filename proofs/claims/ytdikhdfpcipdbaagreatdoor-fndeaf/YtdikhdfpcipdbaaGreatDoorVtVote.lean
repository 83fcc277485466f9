/- The votes of three and of two, the program's and the model's. -/
import Derived.Test.YtdikhdfpcipdbaaGreatDoorVtSort
import Derived.Test.YtdikhdfpcipdbaaGreatDoorVtFresh
namespace Go.Proofs.YtdikhdfpcipdbaaGreatDoor.vt
open Go.ChangeShapes Go.WideShapes Go.ChangeAt Go.RowKit
open Go.Proofs.YtdikhdfpcipdbaaGreatDoor.nums Go.Proofs.YtdikhdfpcipdbaaGreatDoor.mem Go.Proofs.YtdikhdfpcipdbaaGreatDoor.rd
open Go.Proofs.YtdikhdfpcipdbaaGreatDoor.tab (Ret quiet_w)
set_option linter.unusedVariables false

/-- It answers this vote; of what was there nothing is another. -/
def RetV (v : Int × Bool) (w : World) (e : Ending) (w' : World) : Prop := e = .returned (.tuple #[.int .i64 v.1, .bool v.2]) ∧ w.grownBy w' none

theorem tdiv2_bd {a b : Int} (h1 : -1000000 ≤ a) (h2 : a ≤ 1000000) (h3 : -1000000 ≤ b) (h4 : b ≤ 1000000) : -1000000 ≤ (a + b).tdiv 2 ∧ (a + b).tdiv 2 ≤ 1000000 := by
  rcases Int.le_total 0 (a + b) with h | h
  · rw [Int.tdiv_eq_ediv_of_nonneg h]; omega
  · have e : (a + b).tdiv 2 = -((-(a + b)).tdiv 2) := by rw [Int.neg_tdiv, Int.neg_neg]
    rw [e, Int.tdiv_eq_ediv_of_nonneg (by omega)]; omega

set_option maxRecDepth 100000 in
set_option maxHeartbeats 4000000 in
theorem implVoteThree (a : Option Addr) (cap : Nat) (l : List R) (m : Int) (w : World) (h : Arg w a l) (hl : l.length ≤ 1048576) :
    Calls Tryz.prog 35 #[.slice a l.length cap, .int .i64 m] w (RetV (voteThree l m) w) := by
  unfold voteThree
  have hV := fun v (hv : v ∈ voters l 3 m) => voters_in hv
  have hF := implFresh a cap l 3 m w h hl (by omega)
  rcases upto3 (voters_length l 3 m) with e | ⟨x, e⟩ | ⟨x, y, e⟩ | ⟨x, y, z, e⟩
  · rw [e] at hF ⊢
    clear hV e
    go_enter Tryz.func35, Tryz.ntmps35
    go_wp2_with fail
    refine hF.mono ?_
    rintro e w1 ⟨a1, c1, rfl, g1, o1, _⟩
    go_wp2_with fail
    go_ret2
    exact ⟨rfl, g1⟩
  · rw [e] at hF hV ⊢
    obtain ⟨hx1, hx2⟩ := hV x (by simp)
    clear hV e
    go_enter Tryz.func35, Tryz.ntmps35
    go_wp2_with fail
    refine hF.mono ?_
    rintro e w1 ⟨a1, c1, rfl, g1, o1, _⟩
    obtain ⟨g, rfl, hbg, hlt⟩ := row_some o1 (by simp)
    have k0 := row_cell o1 0 (by simp)
    simp at k0
    go_wp2_with fail
    go_ret2
    exact ⟨rfl, g1⟩
  · rw [e] at hF hV ⊢
    obtain ⟨hx1, hx2⟩ := hV x (by simp)
    obtain ⟨hy1, hy2⟩ := hV y (by simp)
    clear hV e
    go_enter Tryz.func35, Tryz.ntmps35
    go_wp2_with fail
    refine hF.mono ?_
    rintro e w1 ⟨a1, c1, rfl, g1, o1, _⟩
    obtain ⟨g, rfl, hbg, hlt⟩ := row_some o1 (by simp)
    have k0 := row_cell o1 0 (by simp)
    have k1 := row_cell o1 1 (by simp)
    simp at k0 k1
    go_wp2_with fail
    go_quiet (fail)
    go_wp2_with fail
    go_ret2
    exact ⟨rfl, gr_drewN g1 _⟩
  · rw [e] at hF hV ⊢
    clear hV e
    go_enter Tryz.func35, Tryz.ntmps35
    go_wp2_with fail
    refine hF.mono ?_
    rintro e w1 ⟨a1, c1, rfl, g1, o1, _⟩
    obtain ⟨g, rfl, hbg, hlt⟩ := row_some o1 (by simp)
    have k0 := row_cell o1 0 (by simp)
    have k1 := row_cell o1 1 (by simp)
    have k2 := row_cell o1 2 (by simp)
    simp at k0 k1 k2
    have o2 : IRow w1.drew w.heap.size (.slice (some ⟨g, 0, none⟩) 3 c1) [x, y, z] := o1
    go_wp2_with fail
    go_region_held3 (fun W => W.cell? ⟨g, 0, none⟩ = some (.int .i64 x) ∧ W.cell? ⟨g, 1, none⟩ = some (.int .i64 y) ∧ W.cell? ⟨g, 2, none⟩ = some (.int .i64 z)) (first | exact ⟨row_cell o3 0 (by simp), row_cell o3 1 (by simp), row_cell o3 2 (by simp)⟩ | exact ⟨row_cell o2 0 (by simp), row_cell o2 1 (by simp), row_cell o2 2 (by simp)⟩) (first | (go_at_call 71; refine (implMiddle _ _ _ _).mono ?_; rintro e w2 ⟨rfl, g2⟩; have o3 := o2.kept g2 (.inr (by simp [Value.ownBlock]))))
    go_wp2_with fail
    go_ret2
    exact ⟨rfl, gr_trans (gr_drewN g1 1) g2⟩

set_option maxRecDepth 100000 in
set_option maxHeartbeats 4000000 in
theorem specVoteThree (a : Option Addr) (cap : Nat) (l : List R) (m : Int) (w : World) (h : Arg w a l) (hl : l.length ≤ 1048576) :
    Calls Tryz.prog 47 #[.slice a l.length cap, .int .i64 m] w (RetV (voteThree l m) w) := by
  unfold voteThree
  by_cases hlen : l.length = 3
  · have hR := specRight a cap l w h hl
    cases hall : l.all okR with
    | false =>
      rw [voters_bad hall]
      rw [hall] at hR
      clear hall
      rw [hlen] at hR ⊢
      go_enter Tryz.func47, Tryz.ntmps47
      go_wp2_with (go_at_call 52; refine hR.mono ?_; rintro e w1 ⟨rfl, g1⟩)
      go_ret2
      exact ⟨rfl, g1⟩
    | true =>
      have hL := voters_length l 3 m
      have hV := fun v (hv : v ∈ voters l 3 m) => voters_in hv
      rw [voters_ok hlen hall] at hL hV ⊢
      rw [hall] at hR
      have hS := fun W hW => specFresh a cap l m W hW (by omega)
      clear hall
      rw [hlen] at hR hS ⊢
      rcases upto3 hL with e | ⟨x, e⟩ | ⟨x, y, e⟩ | ⟨x, y, z, e⟩
      · rw [e] at hS ⊢
        clear hV hL e
        go_enter Tryz.func47, Tryz.ntmps47
        go_wp2_with (go_at_call 52; refine hR.mono ?_; rintro e w1 ⟨rfl, g1⟩)
        refine (hS _ (h.kept g1)).mono ?_
        rintro e w2 ⟨a1, c1, rfl, g2, o1⟩
        go_wp2_with fail
        go_ret2
        exact ⟨rfl, gr_trans g1 g2⟩
      · rw [e] at hS hV ⊢
        obtain ⟨hx1, hx2⟩ := hV x (by simp)
        clear hV hL e
        go_enter Tryz.func47, Tryz.ntmps47
        go_wp2_with (go_at_call 52; refine hR.mono ?_; rintro e w1 ⟨rfl, g1⟩)
        refine (hS _ (h.kept g1)).mono ?_
        rintro e w2 ⟨a1, c1, rfl, g2, o1⟩
        obtain ⟨g, rfl, hbg, hlt⟩ := row_some o1 (by simp)
        have k0 := row_cell o1 0 (by simp)
        simp at k0
        go_wp2_with fail
        go_ret2
        exact ⟨rfl, gr_trans g1 g2⟩
      · rw [e] at hS hV ⊢
        obtain ⟨hx1, hx2⟩ := hV x (by simp)
        obtain ⟨hy1, hy2⟩ := hV y (by simp)
        clear hV hL e
        go_enter Tryz.func47, Tryz.ntmps47
        go_wp2_with (go_at_call 52; refine hR.mono ?_; rintro e w1 ⟨rfl, g1⟩)
        refine (hS _ (h.kept g1)).mono ?_
        rintro e w2 ⟨a1, c1, rfl, g2, o1⟩
        obtain ⟨g, rfl, hbg, hlt⟩ := row_some o1 (by simp)
        have k0 := row_cell o1 0 (by simp)
        have k1 := row_cell o1 1 (by simp)
        simp at k0 k1
        go_wp2_with fail
        go_quiet (fail)
        go_wp2_with fail
        go_ret2
        exact ⟨rfl, gr_drewN (gr_trans g1 g2) _⟩
      · rw [e] at hS hV ⊢
        clear hV hL e
        go_enter Tryz.func47, Tryz.ntmps47
        go_wp2_with (go_at_call 52; refine hR.mono ?_; rintro e w1 ⟨rfl, g1⟩)
        refine (hS _ (h.kept g1)).mono ?_
        rintro e w2 ⟨a1, c1, rfl, g2, o1⟩
        obtain ⟨g, rfl, hbg, hlt⟩ := row_some o1 (by simp)
        have k0 := row_cell o1 0 (by simp)
        have k1 := row_cell o1 1 (by simp)
        have k2 := row_cell o1 2 (by simp)
        simp at k0 k1 k2
        go_wp2_with fail
        go_quiet (first | (go_at_call 81; exact quiet_w (specMiddle _ _ _ _)))
        go_wp2_with fail
        go_ret2
        exact ⟨rfl, gr_drewN (gr_trans g1 g2) _⟩
  · rw [voters_len hlen]
    go_enter Tryz.func47, Tryz.ntmps47
    go_wp2_with fail
    go_ret2
    exact ⟨rfl, gr_refl _ _⟩
end Go.Proofs.YtdikhdfpcipdbaaGreatDoor.vt
