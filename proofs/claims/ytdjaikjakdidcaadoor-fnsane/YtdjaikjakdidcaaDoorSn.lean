/- Chapter 8: ranges: the plain triples, RangeOk of the model and of the program, what came in. -/
import Derived.Test.YtdjaikjakdidcaaDoorTabArg
import Derived.Laws.Small
import Derived.Laws.Entries
import Derived.ChangeSame
import Derived.Deep.Strs
import Derived.StillTailTactics
import Derived.Deep.RegionHeld3
import Derived.WalkMore
namespace Go.Proofs.YtdjaikjakdidcaaDoor.sane
open Go.ChangeShapes Go.WideShapes Go.ChangeAt Go.RowKit
open Go.Proofs.YtdjaikjakdidcaaDoor.nums Go.Proofs.YtdjaikjakdidcaaDoor.mem
open Go.Proofs.YtdjaikjakdidcaaDoor.tab (Ret quiet_w wpList_make_has)
set_option linter.unusedVariables false

/-- A range is right. -/
def okG (lo hi ra : Int) : Bool := inb lo (-1000000) 1000000 && (inb hi (-1000000) 1000000 && (decide (lo ≤ hi) && inb ra 1 1000000))
theorem okG_iff {lo hi ra : Int} : okG lo hi ra = true ↔ (-1000000 ≤ lo ∧ lo ≤ 1000000) ∧ (-1000000 ≤ hi ∧ hi ≤ 1000000) ∧ lo ≤ hi ∧ 1 ≤ ra ∧ ra ≤ 1000000 := by
  unfold okG inb; simp
theorem okG_no {lo hi ra : Int} (h : ¬ ((-1000000 ≤ lo ∧ lo ≤ 1000000) ∧ (-1000000 ≤ hi ∧ hi ≤ 1000000) ∧ lo ≤ hi ∧ 1 ≤ ra ∧ ra ≤ 1000000)) : okG lo hi ra = false := by
  cases hk : okG lo hi ra with
  | false => rfl
  | true => exact absurd (okG_iff.1 hk) h
theorem inb_iff {x l h : Int} : inb x l h = true ↔ l ≤ x ∧ x ≤ h := by unfold inb; simp
theorem inb_no {x l h : Int} : inb x l h = false ↔ ¬ (l ≤ x ∧ x ≤ h) := by
  rw [← inb_iff]; simp

set_option maxHeartbeats 1000000 in
theorem specRangeOk (lo hi ra : Int) (w : World) : Calls Tryd.prog 13 #[.agg #[.int .i64 lo, .int .i64 hi, .int .i64 ra]] w (Ret (.bool (okG lo hi ra)) w) := by
  rcases Bool.eq_false_or_eq_true (inb lo (-1000000) 1000000) with h0 | h0
  rotate_left
  · go_enter Tryd.func13, Tryd.ntmps13
    go_wp2_with (first | (go_at_call 31; refine (fix.specSizeOk _ _).mono ?_; rintro e w' ⟨rfl, rfl⟩) | (go_at_call 28; refine (fix.specIn _ _ _ _).mono ?_; rintro e w' ⟨rfl, rfl⟩))
    go_ret
    exact ⟨fix.ret_bool (by unfold okG; simp [h0]), World.grownBy_alloc _ _ _⟩
  rcases Bool.eq_false_or_eq_true (inb hi (-1000000) 1000000) with h1 | h1
  rotate_left
  · go_enter Tryd.func13, Tryd.ntmps13
    go_wp2_with (first | (go_at_call 31; refine (fix.specSizeOk _ _).mono ?_; rintro e w' ⟨rfl, rfl⟩) | (go_at_call 28; refine (fix.specIn _ _ _ _).mono ?_; rintro e w' ⟨rfl, rfl⟩))
    go_ret
    exact ⟨fix.ret_bool (by unfold okG; simp [h0, h1]), World.grownBy_alloc _ _ _⟩
  rcases Bool.eq_false_or_eq_true (decide (lo ≤ hi)) with h2 | h2
  rotate_left
  · go_enter Tryd.func13, Tryd.ntmps13
    go_wp2_with (first | (go_at_call 31; refine (fix.specSizeOk _ _).mono ?_; rintro e w' ⟨rfl, rfl⟩) | (go_at_call 28; refine (fix.specIn _ _ _ _).mono ?_; rintro e w' ⟨rfl, rfl⟩))
    go_ret
    exact ⟨fix.ret_bool (by unfold okG; simp [h0, h1, h2]), World.grownBy_alloc _ _ _⟩
  · go_enter Tryd.func13, Tryd.ntmps13
    go_wp2_with (first | (go_at_call 31; refine (fix.specSizeOk _ _).mono ?_; rintro e w' ⟨rfl, rfl⟩) | (go_at_call 28; refine (fix.specIn _ _ _ _).mono ?_; rintro e w' ⟨rfl, rfl⟩))
    go_ret
    exact ⟨fix.ret_bool (by unfold okG; simp [h0, h1, h2]), World.grownBy_alloc _ _ _⟩

theorem okG_other (lo hi ra : Int) : okG lo hi ra = (inb lo (-1000000) 1000000 && (inb hi (-1000000) 1000000 && (inb ra (-1000000) 1000000 && (decide (lo ≤ hi) && decide (ra ≥ 1))))) := by
  apply Bool.eq_iff_iff.2
  rw [okG_iff]
  simp only [inb, Bool.and_eq_true, decide_eq_true_eq]
  omega
set_option maxHeartbeats 1000000 in
theorem implRangeOk (lo hi ra : Int) (w : World) : Calls Tryd.prog 12 #[.agg #[.int .i64 lo, .int .i64 hi, .int .i64 ra]] w (Ret (.bool (okG lo hi ra)) w) := by
  rcases Bool.eq_false_or_eq_true (inb lo (-1000000) 1000000) with h0 | h0
  rotate_left
  · go_enter Tryd.func12, Tryd.ntmps12
    go_wp2_with (go_at_call 30; refine (fix.implSizeOk _ _).mono ?_; rintro e w' ⟨rfl, rfl⟩)
    go_ret
    exact ⟨fix.ret_bool (by rw [okG_other]; simp [h0]), World.grownBy_alloc _ _ _⟩
  rcases Bool.eq_false_or_eq_true (inb hi (-1000000) 1000000) with h1 | h1
  rotate_left
  · go_enter Tryd.func12, Tryd.ntmps12
    go_wp2_with (go_at_call 30; refine (fix.implSizeOk _ _).mono ?_; rintro e w' ⟨rfl, rfl⟩)
    go_ret
    exact ⟨fix.ret_bool (by rw [okG_other]; simp [h0, h1]), World.grownBy_alloc _ _ _⟩
  rcases Bool.eq_false_or_eq_true (inb ra (-1000000) 1000000) with h3 | h3
  rotate_left
  · go_enter Tryd.func12, Tryd.ntmps12
    go_wp2_with (go_at_call 30; refine (fix.implSizeOk _ _).mono ?_; rintro e w' ⟨rfl, rfl⟩)
    go_ret
    exact ⟨fix.ret_bool (by rw [okG_other]; simp [h0, h1, h3]), World.grownBy_alloc _ _ _⟩
  rcases Bool.eq_false_or_eq_true (decide (lo ≤ hi)) with h2 | h2
  rotate_left
  · go_enter Tryd.func12, Tryd.ntmps12
    go_wp2_with (go_at_call 30; refine (fix.implSizeOk _ _).mono ?_; rintro e w' ⟨rfl, rfl⟩)
    go_ret
    exact ⟨fix.ret_bool (by rw [okG_other]; simp [h0, h1, h3, h2]), World.grownBy_alloc _ _ _⟩
  rcases Bool.eq_false_or_eq_true (decide (ra ≥ 1)) with h4 | h4
  rotate_left
  · go_enter Tryd.func12, Tryd.ntmps12
    go_wp2_with (go_at_call 30; refine (fix.implSizeOk _ _).mono ?_; rintro e w' ⟨rfl, rfl⟩)
    go_ret
    exact ⟨fix.ret_bool (by rw [okG_other]; simp [h0, h1, h3, h2, h4]), World.grownBy_alloc _ _ _⟩
  · go_enter Tryd.func12, Tryd.ntmps12
    go_wp2_with (go_at_call 30; refine (fix.implSizeOk _ _).mono ?_; rintro e w' ⟨rfl, rfl⟩)
    go_ret
    exact ⟨fix.ret_bool (by rw [okG_other]; simp [h0, h1, h3, h2, h4]), World.grownBy_alloc _ _ _⟩

/-- It returns this range; of what was there nothing is another. -/
def RetG (lo hi ra : Int) (w : World) (e : Ending) (w' : World) : Prop := e = .returned (.agg #[.int .i64 lo, .int .i64 hi, .int .i64 ra]) ∧ w.grownBy w' none

set_option maxRecDepth 100000 in
theorem open_range {H : Type} {enc : TypeId × Value → H} {w : World} {r : Reach} {b0 base : Nat} {spare : Nat → Bool} {held : Bool} {v : Value} {d : DataW H} {p : List MemPlace}
    (hval : Value.okWide Tryd.prog w r b0 36 v) (h : DataW.Trod enc Tryd.prog w base spare held 36 v d p) : ∃ (x a b : Int), v = .agg #[.int .i64 x, .int .i64 a, .int .i64 b] ∧ (Lit.int .i64 x).wf = true ∧ (Lit.int .i64 a).wf = true ∧ (Lit.int .i64 b).wf = true := by
  obtain ⟨cs, rfl, hs⟩ := okWide_struct Tryd.underlying36 hval
  obtain ⟨fuel, hf⟩ := h
  have h2 : Tryd.prog.cellsOf 36 = 3 := by kernel_rfl
  rw [h2] at hs
  obtain ⟨y0, y1, y2, n, _, hl, t0, t1, t2⟩ := Go.Deep.trod_struct3 Tryd.underlying36 hf
  obtain ⟨z, e0, _, hw⟩ := DataW.trod_int Tryd.underlying2 t0
  obtain ⟨z1, e1, _, hw1⟩ := DataW.trod_int Tryd.underlying2 t1
  obtain ⟨z2, e2, _, hw2⟩ := DataW.trod_int Tryd.underlying2 t2
  have c1 : Tryd.prog.cellsOf 2 = 1 := by kernel_rfl
  obtain ⟨l⟩ := cs
  match l, hs with
  | [x, y, u], _ =>
    simp [Value.cells, c1] at e0 e1 e2
    refine ⟨z, z1, z2, ?_, hw, hw1, hw2⟩
    rw [e0, e1, e2]

set_option maxHeartbeats 1000000 in
theorem toRange (lo hi ra : Int) (w : World) : Calls Tryd.prog 17 #[.agg #[.int .i64 lo, .int .i64 hi, .int .i64 ra]] w (RetG lo hi ra w) := by
  go_enter Tryd.func17, Tryd.ntmps17
  go_wp2
  exact bodyPost_ret (v := .agg #[.int .i64 lo, .int .i64 hi, .int .i64 ra]) (by simp [results, Tryd.results17, go_sem]) rfl ⟨rfl, gr_alloc (gr_alloc (World.grownBy_alloc _ _ _) _) _⟩
end Go.Proofs.YtdjaikjakdidcaaDoor.sane
