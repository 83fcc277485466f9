/- Numbers copied and put in order; the one in the middle, the program's and the model's. -/
import Derived.Test.YtdikhdfpcipdbaaGreatDoorVt
import Derived.Test.YtdikhdfpcipdbaaGreatDoorShelf
import Derived.Sort.OwnSortedInts
namespace Go.Proofs.YtdikhdfpcipdbaaGreatDoor.vt
open Go.ChangeShapes Go.WideShapes Go.ChangeAt Go.RowKit
open Go.Proofs.YtdikhdfpcipdbaaGreatDoor.nums Go.Proofs.YtdikhdfpcipdbaaGreatDoor.mem Go.Proofs.YtdikhdfpcipdbaaGreatDoor.rd
open Go.Proofs.YtdikhdfpcipdbaaGreatDoor.tab (Ret quiet_w)
set_option linter.unusedVariables false

/-- It is put in order where it lies. -/
def Sorted (base g cap : Nat) (l : List Int) (w : World) (e : Ending) (w' : World) : Prop :=
  e = .returned (.tuple #[]) ∧ IRow w' base (.slice (some ⟨g, 0, none⟩) l.length cap) (srt l) ∧ w.grownBy w' (some g)
theorem sortSome (base g cap : Nat) (l : List Int) (w : World) (h : IRow w base (.slice (some ⟨g, 0, none⟩) l.length cap) l) (hl : l.length ≤ 1000) :
    Calls Tryz.prog 97 #[.slice (some ⟨g, 0, none⟩) l.length cap] w (Sorted base g cap l w) := by
  rcases h.2 with ⟨h0, _⟩ | ⟨g', cap', cur, hv, hb, hc, h1, h2, h3, h4⟩
  · cases h0
  · injection hv with hv1 hv2 hv3
    injection hv1 with hv1
    injection hv1 with hv1 _ _
    subst hv1 hv3
    refine (Tryz.slices_Sort_int g 0 cap l w (holds_of_blockI hc (by simpa using h4)) (Has.lt hc) (by omega)).mono ?_
    rintro e w' ⟨rfl, n, os, rfl⟩
    refine ⟨rfl, ?_, grownBy_sortedI _⟩
    have := ownsRow_sortedI (n := n) (os := os) (ts := srt l) (srt_length l) hb hc h1 h2 h3
    unfold IRow
    rw [srt_length]
    exact this

theorem eqlNil (w : World) (a : Option Addr) (l c : Nat) : (binOp .eql 25 (.slice a l c) (.slice none 0 0)).run Tryz.prog w = .ok (.bool a.isNone) w := by
  have h : ∀ d : Nat, (Op.equalIn (d + 1) 25 (.slice a l c) (.slice none 0 0)).run Tryz.prog w = .ok a.isNone w := fun d => by
    cases a <;> simp [Op.equalIn, run_underlying Tryz.underlying25]
  have h' : (Op.equal 25 (.slice a l c) (.slice none 0 0)).run Tryz.prog w = .ok a.isNone w := h 9999
  simp [binOp, h']

set_option maxRecDepth 100000 in
set_option maxHeartbeats 1000000 in
theorem clone (base : Nat) (a : Option Addr) (cap : Nat) (l : List Int) (w : World) (h : IRow w base (.slice a l.length cap) l) (h0 : l ≠ []) (hl : l.length ≤ 1000) :
    Calls Tryz.prog 64 #[.slice a l.length cap] w (RetI l w) := by
  obtain ⟨i0, hi, hz0, hz1, hz2⟩ := info_parts infoInt
  have hlp : 0 < l.length := List.length_pos_iff.2 h0
  obtain ⟨g, rfl, hbg, hlt⟩ := row_some h h0
  have o0 := World.ownsRow_made (base := w.heap.size) (e := 2) (size := 1) w #[] 0 (Nat.le_refl _) (Nat.zero_le _) rfl
  have hI := h.alloc (Obj.cells #[] 2)
  have hnil : (binOp .eql 25 (.slice (some ⟨g, 0, none⟩) l.length cap) (.slice none 0 0)).run Tryz.prog w = .ok (.bool false) w := eqlNil w (some ⟨g, 0, none⟩) _ _
  go_enter Tryz.func64, Tryz.ntmps64
  go_wp2_with (at_builtin; refine wpList_append_lies _ rfl _ _ _ rfl w.heap.size 2 i0 _ 1 8 Tryz.underlying25 hi hz0 hz1 hz2 rfl (by omega) (.slice (some ⟨w.heap.size, 0, none⟩) 0 0) 0 [] rfl o0 ⟨g, 0, none⟩ l.length cap (vals l) rfl (by simp) (hI.cells rfl) (vals_one _) hlp (by unfold maxLen; omega) (by omega) (by simp) (w.heap.size + 1) (by simp) ?_; intro gg cap1 w1 hown hgrow hat hlt)
  simp only [Nat.zero_add, List.nil_append] at hown
  go_ret
  exact ⟨_, cap1, rfl, gr_past (World.grownBy_alloc w _ none) hgrow (Nat.le_refl _), hown, fun e => absurd e h0⟩

set_option maxRecDepth 100000 in
theorem cloneNil (w : World) : Calls Tryz.prog 64 #[.slice none 0 0] w fun e w' => e = .returned (.slice none 0 0) ∧ w = w' := by
  have hnil : (binOp .eql 25 (.slice none 0 0) (.slice none 0 0)).run Tryz.prog w = .ok (.bool true) w := eqlNil w none _ _
  go_enter Tryz.func64, Tryz.ntmps64
  go_wp2_with fail
  go_ret
  exact ⟨rfl, rfl⟩

set_option maxRecDepth 100000 in
set_option maxHeartbeats 1000000 in
theorem inOrder (base : Nat) (a : Option Addr) (cap : Nat) (l : List Int) (w : World) (h : IRow w base (.slice a l.length cap) l) (h0 : l ≠ []) (hl : l.length ≤ 1000) :
    Calls Tryz.prog 72 #[.slice a l.length cap] w (RetI (srt l) w) := by
  go_enter Tryz.func72, Tryz.ntmps72
  go_wp2_with fail
  refine (clone base a cap l w h h0 hl).mono ?_
  rintro e w1 ⟨a1, c1, rfl, g1, o1, _⟩
  obtain ⟨g, rfl, hbg, hlt⟩ := row_some o1 h0
  go_wp2_with fail
  refine (sortSome _ g c1 l w1 o1 hl).mono ?_
  rintro e w2 ⟨rfl, o2, g2⟩
  go_wp2_with fail
  go_ret
  refine ⟨some ⟨g, 0, none⟩, c1, by rw [srt_length]; rfl, gr_past g1 g2 hbg, by rw [srt_length]; exact o2, fun e => ?_⟩
  have := srt_length l
  rw [e] at this
  exact absurd (List.length_eq_zero_iff.1 this.symm) h0

set_option maxRecDepth 100000 in
theorem inOrderNil (w : World) : Calls Tryz.prog 72 #[.slice none 0 0] w fun e w' => e = .returned (.slice none 0 0) ∧ w = w' := by
  go_enter Tryz.func72, Tryz.ntmps72
  go_wp2_with fail
  refine (cloneNil w).mono ?_
  rintro e w1 ⟨rfl, rfl⟩
  go_wp2_with fail
  refine (Tryz.slices_Sort_int_none none 0 w).mono ?_
  rintro e w1 ⟨rfl, rfl⟩
  go_wp2_with fail
  go_ret
  exact ⟨rfl, rfl⟩

theorem specMiddle (a b c : Int) (w : World) : Calls Tryz.prog 81 #[.int .i64 a, .int .i64 b, .int .i64 c] w fun e w' => e = .returned (.int .i64 (mid a b c)) ∧ w = w' := by
  go_enter Tryz.func81, Tryz.ntmps81
  go_wp2_with (first | (go_at_call 79; refine (fix.specMin _ _ _).mono ?_; rintro e w' ⟨rfl, rfl⟩) | (go_at_call 26; refine (fix.specMax _ _ _).mono ?_; rintro e w' ⟨rfl, rfl⟩))
  go_ret
  exact ⟨rfl, rfl⟩

set_option maxRecDepth 100000 in
set_option maxHeartbeats 1000000 in
theorem implMiddle (a b c : Int) (w : World) : Calls Tryz.prog 71 #[.int .i64 a, .int .i64 b, .int .i64 c] w (Ret (.int .i64 (mid a b c)) w) := by
  have o0 : IRow (w.alloc (.cells #[.int .i64 a, .int .i64 b, .int .i64 c] 2)) w.heap.size (.slice (some ⟨w.heap.size, 0, none⟩) 3 3) [a, b, c] :=
    World.ownsRow_lit (base := w.heap.size) (e := 2) (size := 1) w #[.int .i64 a, .int .i64 b, .int .i64 c] 3 (Nat.le_refl _) (by unfold maxLen; omega) rfl
  obtain ⟨x, z, hs⟩ := srt_three a b c
  go_enter Tryz.func71, Tryz.ntmps71
  go_wp2_with fail
  refine (inOrder w.heap.size _ 3 [a, b, c] _ o0 (by simp) (by simp)).mono ?_
  rw [hs]
  rintro e w1 ⟨a1, c1, rfl, g1, o1, _⟩
  obtain ⟨g, rfl, hbg, hlt⟩ := row_some o1 (by simp)
  have hc := row_cell o1 1 (by simp)
  simp at hc
  go_wp2_with fail
  go_ret
  exact ⟨rfl, gr_trans (World.grownBy_alloc _ _ _) g1⟩
end Go.Proofs.YtdikhdfpcipdbaaGreatDoor.vt
