/- Heard, the program's and the model's. -/
import Derived.Test.YtdikhdfpcipdbaaGreatDoorStArg
import Derived.Test.YtdikhdfpcipdbaaGreatDoorStNew
namespace Go.Proofs.YtdikhdfpcipdbaaGreatDoor.stm
open Go.ChangeShapes Go.WideShapes Go.ChangeAt Go.RowKit
open Go.Proofs.YtdikhdfpcipdbaaGreatDoor.nums Go.Proofs.YtdikhdfpcipdbaaGreatDoor.mem Go.Proofs.YtdikhdfpcipdbaaGreatDoor.txt Go.Proofs.YtdikhdfpcipdbaaGreatDoor.fix Go.Proofs.YtdikhdfpcipdbaaGreatDoor.frm
open Go.Proofs.YtdikhdfpcipdbaaGreatDoor.tab (Ret quiet_w wpList_make_has add_off)
set_option linter.unusedVariables false

/-- One more frame is heard. -/
def hst (kind : Int) (s : Int × Option Fr) (f : Fr) : Int × Option Fr := if (decide (f.1 = kind) && (okF f.1 f.2.1 f.2.2 && newer s.1 f.2.1)) = true then (f.2.1, some f) else s
/-- What is heard of the first frames: the newest number, and the frame. -/
def hfold (kind old : Int) (fs : List Fr) (k : Nat) : Int × Option Fr := (fs.take k).foldl (hst kind) (old, none)
theorem hfold_zero (kind old : Int) (fs : List Fr) : hfold kind old fs 0 = (old, none) := by simp [hfold]
theorem hfold_succ {kind old : Int} {fs : List Fr} {k : Nat} (h : k < fs.length) : hfold kind old fs (k + 1) = hst kind (hfold kind old fs k) (fk fs k, fq fs k, fv fs k) := by
  have e : fs.take (k + 1) = fs.take k ++ [(fk fs k, fq fs k, fv fs k)] := by rw [List.take_add_one, List.getElem?_eq_getElem h, fat h]; rfl
  rw [hfold, e, List.foldl_append]; rfl
def heard (kind old : Int) (fs : List Fr) : Option Fr := (hfold kind old fs fs.length).2
theorem hst_no {kind : Int} {s : Int × Option Fr} {f : Fr} (h : (decide (f.1 = kind) && (okF f.1 f.2.1 f.2.2 && newer s.1 f.2.1)) = false) : hst kind s f = s := by rw [hst, h]; rfl
theorem hst_yes {kind : Int} {s : Int × Option Fr} {f : Fr} (h : (decide (f.1 = kind) && (okF f.1 f.2.1 f.2.2 && newer s.1 f.2.1)) = true) : hst kind s f = (f.2.1, some f) := by rw [hst, h]; rfl
/-- What is heard is right, and of that kind. -/
theorem hfold_ok (kind old : Int) (fs : List Fr) (k : Nat) : ∀ f, (hfold kind old fs k).2 = some f → okF f.1 f.2.1 f.2.2 = true ∧ f.1 = kind := by
  induction k with
  | zero => intro f h; rw [hfold_zero] at h; cases h
  | succ k ih =>
    intro f h
    by_cases hk : k < fs.length
    · rw [hfold_succ hk] at h
      unfold hst at h
      split at h
      · rename_i hc
        simp only [Bool.and_eq_true, decide_eq_true_eq] at hc
        simp only [Option.some.injEq] at h
        subst h
        exact ⟨hc.2.1, hc.1⟩
      · exact ih f h
    · have e : hfold kind old fs (k + 1) = hfold kind old fs k := by unfold hfold; rw [List.take_of_length_le (by omega), List.take_of_length_le (by omega)]
      rw [e] at h; exact ih f h
theorem okF_ne {k sq : Int} {vs : List Int} (h : okF k sq vs = true) : vs ≠ [] := by
  intro e
  subst e
  obtain ⟨h1, h2, _, _, h5, _⟩ := okF_parts h
  have := many_ge h1 h2
  simp at h5; omega

theorem eqlNil (w : World) (a : Option Addr) (l c : Nat) : (binOp .eql 25 (.slice a l c) (.slice none 0 0)).run Tryz.prog w = .ok (.bool a.isNone) w := by
  have h : ∀ d : Nat, (Op.equalIn (d + 1) 25 (.slice a l c) (.slice none 0 0)).run Tryz.prog w = .ok a.isNone w := fun d => by
    cases a <;> simp [Op.equalIn, run_underlying Tryz.underlying25]
  have h' : (Op.equal 25 (.slice a l c) (.slice none 0 0)).run Tryz.prog w = .ok a.isNone w := h 9999
  simp [binOp, h']

/-- A copy of its own. -/
def CopN (vs : List Int) (w : World) (e : Ending) (w' : World) : Prop := ∃ a cap, e = .returned (.slice a vs.length cap) ∧ w.grownBy w' none ∧ Own w.heap.size w' a vs

set_option maxRecDepth 100000 in
set_option maxHeartbeats 1000000 in
theorem specCopy (a : Option Addr) (cap : Nat) (vs : List Int) (w : World) (h : Ints w a vs) (h0 : vs ≠ []) (hl : vs.length ≤ 100) : Calls Tryz.prog 74 #[.slice a vs.length cap] w (CopN vs w) := by
  obtain ⟨i0, hi, hz0, hz1, hz2⟩ := info_parts infoInt
  have hlp : 0 < vs.length := List.length_pos_iff.2 h0
  cases a with
  | none => exact absurd (h 0 hlp) (by rintro ⟨x, e, _⟩; cases e)
  | some ad =>
    have o0 := World.ownsRow_made (base := w.heap.size) (e := 2) (size := 1) w #[] 0 (Nat.le_refl _) (Nat.zero_le _) rfl
    have hI := h.kept (World.grownBy_alloc w (Obj.cells #[] 2) none)
    go_enter Tryz.func74, Tryz.ntmps74
    go_wp2_with (at_builtin; refine wpList_append_lies _ rfl _ _ _ rfl w.heap.size 2 i0 _ 1 8 Tryz.underlying25 hi hz0 hz1 hz2 rfl (by omega) (.slice (some ⟨w.heap.size, 0, none⟩) 0 0) 0 [] rfl o0 ad vs.length cap (vals vs) rfl (by simp) hI.news (vals_one _) hlp (by unfold maxLen; omega) (by omega) (by simp) (w.heap.size + 1) (by simp) ?_; intro gg cap1 w1 hown hgrow hat hlt)
    simp only [Nat.zero_add, List.nil_append] at hown
    go_ret
    exact ⟨_, cap1, rfl, gr_past (World.grownBy_alloc w _ none) hgrow (Nat.le_refl _), row_own hown (Nat.le_refl _) h0⟩

set_option maxRecDepth 100000 in
set_option maxHeartbeats 1000000 in
theorem implClone (a : Option Addr) (cap : Nat) (vs : List Int) (w : World) (h : Ints w a vs) (h0 : vs ≠ []) (hl : vs.length ≤ 100) : Calls Tryz.prog 64 #[.slice a vs.length cap] w (CopN vs w) := by
  obtain ⟨i0, hi, hz0, hz1, hz2⟩ := info_parts infoInt
  have hlp : 0 < vs.length := List.length_pos_iff.2 h0
  cases a with
  | none => exact absurd (h 0 hlp) (by rintro ⟨x, e, _⟩; cases e)
  | some ad =>
    have o0 := World.ownsRow_made (base := w.heap.size) (e := 2) (size := 1) w #[] 0 (Nat.le_refl _) (Nat.zero_le _) rfl
    have hI := h.kept (World.grownBy_alloc w (Obj.cells #[] 2) none)
    have hnil : (binOp .eql 25 (.slice (some ad) vs.length cap) (.slice none 0 0)).run Tryz.prog w = .ok (.bool false) w := eqlNil w (some ad) _ _
    go_enter Tryz.func64, Tryz.ntmps64
    go_wp2_with (at_builtin; refine wpList_append_lies _ rfl _ _ _ rfl w.heap.size 2 i0 _ 1 8 Tryz.underlying25 hi hz0 hz1 hz2 rfl (by omega) (.slice (some ⟨w.heap.size, 0, none⟩) 0 0) 0 [] rfl o0 ad vs.length cap (vals vs) rfl (by simp) hI.news (vals_one _) hlp (by unfold maxLen; omega) (by omega) (by simp) (w.heap.size + 1) (by simp) ?_; intro gg cap1 w1 hown hgrow hat hlt)
    simp only [Nat.zero_add, List.nil_append] at hown
    go_ret
    exact ⟨_, cap1, rfl, gr_past (World.grownBy_alloc w _ none) hgrow (Nat.le_refl _), row_own hown (Nat.le_refl _) h0⟩

set_option maxRecDepth 100000 in
theorem implCloneNil (w : World) : Calls Tryz.prog 64 #[.slice none 0 0] w fun e w' => e = .returned (.slice none 0 0) ∧ w = w' := by
  have hnil : (binOp .eql 25 (.slice none 0 0) (.slice none 0 0)).run Tryz.prog w = .ok (.bool true) w := eqlNil w none _ _
  go_enter Tryz.func64, Tryz.ntmps64
  go_wp2_with fail
  go_ret
  exact ⟨rfl, rfl⟩

set_option maxRecDepth 100000 in
theorem lastNone (w : World) : Calls Tryz.prog 67 #[.slice none 0 0] w (Ret (.tuple #[fr 0 0 none 0 0, .bool false]) w) := by
  go_enter Tryz.func67, Tryz.ntmps67
  go_wp2_with fail
  exact bodyPost_ret (v := .tuple #[fr 0 0 none 0 0, .bool false]) (by simp [results, Tryz.results67, go_sem]) rfl ⟨rfl, World.grownBy_alloc w _ none⟩

set_option maxRecDepth 100000 in
theorem lastSome (g n cap : Nat) (k sq : Int) (a : Option Addr) (m c : Nat) (w : World) (hn : n ≤ 1048576) (hg : g < w.heap.size) (h0 : w.cell? ⟨g, n * 3, none⟩ = some (.int .i64 k)) (h1 : w.cell? ⟨g, n * 3 + 1, none⟩ = some (.int .i64 sq)) (h2 : w.cell? ⟨g, n * 3 + 2, none⟩ = some (.slice a m c)) :
    Calls Tryz.prog 67 #[.slice (some ⟨g, 0, none⟩) (n + 1) cap] w (Ret (.tuple #[fr k sq a m c, .bool true]) w) := by
  have ga := World.grownBy_alloc w (Obj.cells #[.int .i64 0, .int .i64 0, .slice none 0 0] 50) none
  have e0 := (World.cell?_of_block (a := ⟨g, n * 3, none⟩) (ga.block g hg (by simp))).trans h0
  have e1 := (World.cell?_of_block (a := ⟨g, n * 3 + 1, none⟩) (ga.block g hg (by simp))).trans h1
  have e2 := (World.cell?_of_block (a := ⟨g, n * 3 + 2, none⟩) (ga.block g hg (by simp))).trans h2
  clear h0 h1 h2
  go_enter Tryz.func67, Tryz.ntmps67
  go_wp2_with fail
  exact bodyPost_ret (v := .tuple #[fr k sq a m c, .bool true]) (by simp [results, Tryz.results67, go_sem]) rfl ⟨rfl, World.grownBy_alloc w _ none⟩
end Go.Proofs.YtdikhdfpcipdbaaGreatDoor.stm
