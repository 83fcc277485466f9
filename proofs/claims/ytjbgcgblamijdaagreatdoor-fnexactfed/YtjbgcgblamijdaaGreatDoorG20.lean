/- IsNewer, the program's and the model's. Heard, the program's and the model's. -/
import Derived.Test.YtjbgcgblamijdaaGreatDoorG1
import Derived.Test.YtjbgcgblamijdaaGreatDoorG19
/- IsNewer, the program's and the model's. -/
namespace Go.Proofs.YtjbgcgblamijdaaGreatDoor.stm
open Go.ChangeShapes Go.WideShapes Go.ChangeAt Go.RowKit
open Go.Proofs.YtjbgcgblamijdaaGreatDoor.nums Go.Proofs.YtjbgcgblamijdaaGreatDoor.fix
set_option linter.unusedVariables false

/-- Is the second number newer than the first one? -/
def newer (old seq : Int) : Bool := inb seq 0 99 && (decide (old = -1) || (inb old 0 99 && inb ((seq - old + 100) % 100) 1 50))

theorem implSeqOk (k : Int) (w : World) : Calls Tryz.prog 107 #[.int .i64 k] w fun e w' => e = .returned (.bool (inb k 0 99)) ∧ w = w' := by
  go_enter Tryz.func107, Tryz.ntmps107
  go_wp2
  all_goals go_ret
  all_goals exact ⟨ret_bool (by unfold inb; simp <;> omega), rfl⟩

theorem inb_true {x l h : Int} (hi : inb x l h = true) : l ≤ x ∧ x ≤ h := by unfold inb at hi; simpa using hi

theorem implNewer (o s : Int) (w : World) :
    Calls Tryz.prog 89 #[.int .i64 o, .int .i64 s] w fun e w' => e = .returned (.bool (newer o s)) ∧ w = w' := by
  cases hs : inb s 0 99
  · have hn : newer o s = false := by rw [newer, hs]; rfl
    have cS : ∀ W, Calls Tryz.prog 107 #[.int .i64 s] W fun e w' => e = .returned (.bool false) ∧ W = w' := fun W => hs ▸ implSeqOk s W
    rw [hn]
    go_enter Tryz.func89, Tryz.ntmps89
    go_wp2_with fail
    refine (cS _).mono ?_
    rintro e w' ⟨rfl, rfl⟩
    go_wp2_with fail
    go_ret
    exact ⟨rfl, rfl⟩
  · have cS : ∀ W, Calls Tryz.prog 107 #[.int .i64 s] W fun e w' => e = .returned (.bool true) ∧ W = w' := fun W => hs ▸ implSeqOk s W
    obtain ⟨s0, s1⟩ := inb_true hs
    by_cases h1 : o = -1
    · have hn : newer o s = true := by rw [newer, hs, decide_eq_true h1]; rfl
      rw [hn]
      subst h1
      clear hn hs
      go_enter Tryz.func89, Tryz.ntmps89
      go_wp2_with fail
      refine (cS _).mono ?_
      rintro e w' ⟨rfl, rfl⟩
      go_wp2_with fail
      go_ret
      exact ⟨rfl, rfl⟩
    · have h1' : (o == -1) = false := by rw [beq_eq_false_iff_ne]; exact h1
      cases ho : inb o 0 99
      · have hn : newer o s = false := by rw [newer, hs, decide_eq_false h1, ho]; rfl
        have cO : ∀ W, Calls Tryz.prog 107 #[.int .i64 o] W fun e w' => e = .returned (.bool false) ∧ W = w' := fun W => ho ▸ implSeqOk o W
        rw [hn]
        clear hn hs ho
        go_enter Tryz.func89, Tryz.ntmps89
        go_wp2_with fail
        refine (cS _).mono ?_
        rintro e w' ⟨rfl, rfl⟩
        go_wp2_with fail
        refine (cO _).mono ?_
        rintro e w' ⟨rfl, rfl⟩
        go_wp2_with fail
        go_ret
        exact ⟨rfl, rfl⟩
      · have hn : newer o s = inb ((s - o + 100) % 100) 1 50 := by rw [newer, hs, decide_eq_false h1, ho]; rfl
        have cO : ∀ W, Calls Tryz.prog 107 #[.int .i64 o] W fun e w' => e = .returned (.bool true) ∧ W = w' := fun W => ho ▸ implSeqOk o W
        obtain ⟨o0, o1⟩ := inb_true ho
        have hm : (s - o + 100).tmod 100 = (s - o + 100) % 100 := Int.tmod_eq_emod_of_nonneg (by omega)
        rw [hn]
        clear hn hs ho
        go_enter Tryz.func89, Tryz.ntmps89
        go_wp2_with fail
        refine (cS _).mono ?_
        rintro e w' ⟨rfl, rfl⟩
        go_wp2_with fail
        refine (cO _).mono ?_
        rintro e w' ⟨rfl, rfl⟩
        go_wp2
        all_goals go_ret
        all_goals exact ⟨ret_bool (by unfold inb; simp <;> omega), rfl⟩

theorem specNewer (o s : Int) (w : World) :
    Calls Tryz.prog 99 #[.int .i64 o, .int .i64 s] w fun e w' => e = .returned (.bool (newer o s)) ∧ w = w' := by
  cases hs : inb s 0 99
  · have hn : newer o s = false := by rw [newer, hs]; rfl
    have cS : ∀ W, Calls Tryz.prog 34 #[.int .i64 s, .int .i64 0, .int .i64 99] W fun e w' => e = .returned (.bool false) ∧ W = w' := fun W => hs ▸ specIn s 0 99 W
    rw [hn]
    go_enter Tryz.func99, Tryz.ntmps99
    go_wp2_with fail
    refine (cS _).mono ?_
    rintro e w' ⟨rfl, rfl⟩
    go_wp2_with fail
    go_ret
    exact ⟨rfl, rfl⟩
  · have cS : ∀ W, Calls Tryz.prog 34 #[.int .i64 s, .int .i64 0, .int .i64 99] W fun e w' => e = .returned (.bool true) ∧ W = w' := fun W => hs ▸ specIn s 0 99 W
    obtain ⟨s0, s1⟩ := inb_true hs
    cases ho : inb o (-1) 99
    · have h1 : ¬ o = -1 := by intro e; subst e; simp [inb] at ho
      have h2 : inb o 0 99 = false := by unfold inb at ho ⊢; simp at ho ⊢; omega
      have hn : newer o s = false := by rw [newer, hs, decide_eq_false h1, h2]; rfl
      have cO : ∀ W, Calls Tryz.prog 34 #[.int .i64 o, .int .i64 (-1), .int .i64 99] W fun e w' => e = .returned (.bool false) ∧ W = w' := fun W => ho ▸ specIn o (-1) 99 W
      rw [hn]
      clear hn hs ho h1 h2
      go_enter Tryz.func99, Tryz.ntmps99
      go_wp2_with fail
      refine (cS _).mono ?_
      rintro e w' ⟨rfl, rfl⟩
      go_wp2_with fail
      refine (cO _).mono ?_
      rintro e w' ⟨rfl, rfl⟩
      go_wp2_with fail
      go_ret
      exact ⟨rfl, rfl⟩
    · have cO : ∀ W, Calls Tryz.prog 34 #[.int .i64 o, .int .i64 (-1), .int .i64 99] W fun e w' => e = .returned (.bool true) ∧ W = w' := fun W => ho ▸ specIn o (-1) 99 W
      obtain ⟨o0, o1⟩ := inb_true ho
      by_cases h1 : o = -1
      · have hn : newer o s = true := by rw [newer, hs, decide_eq_true h1]; rfl
        rw [hn]
        subst h1
        clear hn hs ho
        go_enter Tryz.func99, Tryz.ntmps99
        go_wp2_with fail
        refine (cS _).mono ?_
        rintro e w' ⟨rfl, rfl⟩
        go_wp2_with fail
        refine (cO _).mono ?_
        rintro e w' ⟨rfl, rfl⟩
        go_wp2_with fail
        go_ret
        exact ⟨rfl, rfl⟩
      · have h1' : (o == -1) = false := by rw [beq_eq_false_iff_ne]; exact h1
        have h2 : inb o 0 99 = true := by unfold inb; simp; omega
        have hn : newer o s = inb ((s - o) % 100) 1 50 := by rw [newer, hs, decide_eq_false h1, h2, show (s - o + 100) % 100 = (s - o) % 100 by omega]; rfl
        rw [hn]
        clear hn hs ho h2
        go_enter Tryz.func99, Tryz.ntmps99
        go_wp2_with fail
        refine (cS _).mono ?_
        rintro e w' ⟨rfl, rfl⟩
        go_wp2_with fail
        refine (cO _).mono ?_
        rintro e w' ⟨rfl, rfl⟩
        go_wp2_with fail
        refine (specIn _ _ _ _).mono ?_
        rintro e w' ⟨rfl, rfl⟩
        go_wp2_with fail
        go_ret
        exact ⟨rfl, rfl⟩
end Go.Proofs.YtjbgcgblamijdaaGreatDoor.stm

/- Heard, the program's and the model's. -/
namespace Go.Proofs.YtjbgcgblamijdaaGreatDoor.stm
open Go.ChangeShapes Go.WideShapes Go.ChangeAt Go.RowKit
open Go.Proofs.YtjbgcgblamijdaaGreatDoor.nums Go.Proofs.YtjbgcgblamijdaaGreatDoor.mem Go.Proofs.YtjbgcgblamijdaaGreatDoor.txt Go.Proofs.YtjbgcgblamijdaaGreatDoor.fix Go.Proofs.YtjbgcgblamijdaaGreatDoor.frm
open Go.Proofs.YtjbgcgblamijdaaGreatDoor.tab (Ret quiet_w wpList_make_has add_off)
set_option linter.unusedVariables false

/-- One more frame is heard. -/
def hst (kind : Int) (s : Int × Option Fr) (f : Fr) : Int × Option Fr := if (decide (f.1 = kind) && (okF f.1 f.2.1 f.2.2 && newer s.1 f.2.1)) = true then (f.2.1, some f) else s
/-- What is heard of the first frames: the newest number, and the frame. -/
def hfold (kind old : Int) (fs : List Fr) (k : Nat) : Int × Option Fr := (fs.take k).foldl (hst kind) (old, none)
theorem hfold_zero (kind old : Int) (fs : List Fr) : hfold kind old fs 0 = (old, none) := by simp [hfold]
theorem hfold_succ {kind old : Int} {fs : List Fr} {k : Nat} (h : k < fs.length) : hfold kind old fs (k + 1) = hst kind (hfold kind old fs k) (fk fs k, fq fs k, fv fs k) := by
  have e : fs.take (k + 1) = fs.take k ++ [(fk fs k, fq fs k, fv fs k)] := by rw [List.take_add_one, List.getElem?_eq_getElem h, fat h]; rfl
  rw [hfold, e, List.foldl_append]; rfl
def heard (kind old : Int) (fs : List Fr) : Option Fr := (hfold kind old fs fs.length).2
theorem hst_no {kind : Int} {s : Int × Option Fr} {f : Fr} (h : (decide (f.1 = kind) && (okF f.1 f.2.1 f.2.2 && newer s.1 f.2.1)) = false) : hst kind s f = s := by rw [hst, h]; rfl
theorem hst_yes {kind : Int} {s : Int × Option Fr} {f : Fr} (h : (decide (f.1 = kind) && (okF f.1 f.2.1 f.2.2 && newer s.1 f.2.1)) = true) : hst kind s f = (f.2.1, some f) := by rw [hst, h]; rfl
/-- What is heard is right, and of that kind. -/
theorem hfold_ok (kind old : Int) (fs : List Fr) (k : Nat) : ∀ f, (hfold kind old fs k).2 = some f → okF f.1 f.2.1 f.2.2 = true ∧ f.1 = kind := by
  induction k with
  | zero => intro f h; rw [hfold_zero] at h; cases h
  | succ k ih =>
    intro f h
    by_cases hk : k < fs.length
    · rw [hfold_succ hk] at h
      unfold hst at h
      split at h
      · rename_i hc
        simp only [Bool.and_eq_true, decide_eq_true_eq] at hc
        simp only [Option.some.injEq] at h
        subst h
        exact ⟨hc.2.1, hc.1⟩
      · exact ih f h
    · have e : hfold kind old fs (k + 1) = hfold kind old fs k := by unfold hfold; rw [List.take_of_length_le (by omega), List.take_of_length_le (by omega)]
      rw [e] at h; exact ih f h
theorem okF_ne {k sq : Int} {vs : List Int} (h : okF k sq vs = true) : vs ≠ [] := by
  intro e
  subst e
  obtain ⟨h1, h2, _, _, h5, _⟩ := okF_parts h
  have := many_ge h1 h2
  simp at h5; omega

theorem eqlNil (w : World) (a : Option Addr) (l c : Nat) : (binOp .eql 25 (.slice a l c) (.slice none 0 0)).run Tryz.prog w = .ok (.bool a.isNone) w := by
  have h : ∀ d : Nat, (Op.equalIn (d + 1) 25 (.slice a l c) (.slice none 0 0)).run Tryz.prog w = .ok a.isNone w := fun d => by
    cases a <;> simp [Op.equalIn, run_underlying Tryz.underlying25]
  have h' : (Op.equal 25 (.slice a l c) (.slice none 0 0)).run Tryz.prog w = .ok a.isNone w := h 9999
  simp [binOp, h']

/-- A copy of its own. -/
def CopN (vs : List Int) (w : World) (e : Ending) (w' : World) : Prop := ∃ a cap, e = .returned (.slice a vs.length cap) ∧ w.grownBy w' none ∧ Own w.heap.size w' a vs

set_option maxRecDepth 100000 in
set_option maxHeartbeats 1000000 in
theorem specCopy (a : Option Addr) (cap : Nat) (vs : List Int) (w : World) (h : Ints w a vs) (h0 : vs ≠ []) (hl : vs.length ≤ 100) : Calls Tryz.prog 97 #[.slice a vs.length cap] w (CopN vs w) := by
  obtain ⟨i0, hi, hz0, hz1, hz2⟩ := info_parts infoInt
  have hlp : 0 < vs.length := List.length_pos_iff.2 h0
  cases a with
  | none => exact absurd (h 0 hlp) (by rintro ⟨x, e, _⟩; cases e)
  | some ad =>
    have o0 := World.ownsRow_made (base := w.heap.size) (e := 2) (size := 1) w #[] 0 (Nat.le_refl _) (Nat.zero_le _) rfl
    have hI := h.kept (World.grownBy_alloc w (Obj.cells #[] 2) none)
    go_enter Tryz.func97, Tryz.ntmps97
    go_wp2_with (at_builtin; refine wpList_append_lies _ rfl _ _ _ rfl w.heap.size 2 i0 _ 1 8 Tryz.underlying25 hi hz0 hz1 hz2 rfl (by omega) (.slice (some ⟨w.heap.size, 0, none⟩) 0 0) 0 [] rfl o0 ad vs.length cap (vals vs) rfl (by simp) hI.news (vals_one _) hlp (by unfold maxLen; omega) (by omega) (by simp) (w.heap.size + 1) (by simp) ?_; intro gg cap1 w1 hown hgrow hat hlt)
    simp only [Nat.zero_add, List.nil_append] at hown
    go_ret
    exact ⟨_, cap1, rfl, gr_past (World.grownBy_alloc w _ none) hgrow (Nat.le_refl _), row_own hown (Nat.le_refl _) h0⟩

set_option maxRecDepth 100000 in
set_option maxHeartbeats 1000000 in
theorem implClone (a : Option Addr) (cap : Nat) (vs : List Int) (w : World) (h : Ints w a vs) (h0 : vs ≠ []) (hl : vs.length ≤ 100) : Calls Tryz.prog 87 #[.slice a vs.length cap] w (CopN vs w) := by
  obtain ⟨i0, hi, hz0, hz1, hz2⟩ := info_parts infoInt
  have hlp : 0 < vs.length := List.length_pos_iff.2 h0
  cases a with
  | none => exact absurd (h 0 hlp) (by rintro ⟨x, e, _⟩; cases e)
  | some ad =>
    have o0 := World.ownsRow_made (base := w.heap.size) (e := 2) (size := 1) w #[] 0 (Nat.le_refl _) (Nat.zero_le _) rfl
    have hI := h.kept (World.grownBy_alloc w (Obj.cells #[] 2) none)
    have hnil : (binOp .eql 25 (.slice (some ad) vs.length cap) (.slice none 0 0)).run Tryz.prog w = .ok (.bool false) w := eqlNil w (some ad) _ _
    go_enter Tryz.func87, Tryz.ntmps87
    go_wp2_with (at_builtin; refine wpList_append_lies _ rfl _ _ _ rfl w.heap.size 2 i0 _ 1 8 Tryz.underlying25 hi hz0 hz1 hz2 rfl (by omega) (.slice (some ⟨w.heap.size, 0, none⟩) 0 0) 0 [] rfl o0 ad vs.length cap (vals vs) rfl (by simp) hI.news (vals_one _) hlp (by unfold maxLen; omega) (by omega) (by simp) (w.heap.size + 1) (by simp) ?_; intro gg cap1 w1 hown hgrow hat hlt)
    simp only [Nat.zero_add, List.nil_append] at hown
    go_ret
    exact ⟨_, cap1, rfl, gr_past (World.grownBy_alloc w _ none) hgrow (Nat.le_refl _), row_own hown (Nat.le_refl _) h0⟩

set_option maxRecDepth 100000 in
theorem implCloneNil (w : World) : Calls Tryz.prog 87 #[.slice none 0 0] w fun e w' => e = .returned (.slice none 0 0) ∧ w = w' := by
  have hnil : (binOp .eql 25 (.slice none 0 0) (.slice none 0 0)).run Tryz.prog w = .ok (.bool true) w := eqlNil w none _ _
  go_enter Tryz.func87, Tryz.ntmps87
  go_wp2_with fail
  go_ret
  exact ⟨rfl, rfl⟩

set_option maxRecDepth 100000 in
theorem lastNone (w : World) : Calls Tryz.prog 90 #[.slice none 0 0] w (Ret (.tuple #[fr 0 0 none 0 0, .bool false]) w) := by
  go_enter Tryz.func90, Tryz.ntmps90
  go_wp2_with fail
  exact bodyPost_ret (v := .tuple #[fr 0 0 none 0 0, .bool false]) (by simp [results, Tryz.results90, go_sem]) rfl ⟨rfl, World.grownBy_alloc w _ none⟩

set_option maxRecDepth 100000 in
theorem lastSome (g n cap : Nat) (k sq : Int) (a : Option Addr) (m c : Nat) (w : World) (hn : n ≤ 1048576) (hg : g < w.heap.size) (h0 : w.cell? ⟨g, n * 3, none⟩ = some (.int .i64 k)) (h1 : w.cell? ⟨g, n * 3 + 1, none⟩ = some (.int .i64 sq)) (h2 : w.cell? ⟨g, n * 3 + 2, none⟩ = some (.slice a m c)) :
    Calls Tryz.prog 90 #[.slice (some ⟨g, 0, none⟩) (n + 1) cap] w (Ret (.tuple #[fr k sq a m c, .bool true]) w) := by
  have ga := World.grownBy_alloc w (Obj.cells #[.int .i64 0, .int .i64 0, .slice none 0 0] 62) none
  have e0 := (World.cell?_of_block (a := ⟨g, n * 3, none⟩) (ga.block g hg (by simp))).trans h0
  have e1 := (World.cell?_of_block (a := ⟨g, n * 3 + 1, none⟩) (ga.block g hg (by simp))).trans h1
  have e2 := (World.cell?_of_block (a := ⟨g, n * 3 + 2, none⟩) (ga.block g hg (by simp))).trans h2
  clear h0 h1 h2
  go_enter Tryz.func90, Tryz.ntmps90
  go_wp2_with fail
  exact bodyPost_ret (v := .tuple #[fr k sq a m c, .bool true]) (by simp [results, Tryz.results90, go_sem]) rfl ⟨rfl, World.grownBy_alloc w _ none⟩
end Go.Proofs.YtjbgcgblamijdaaGreatDoor.stm

