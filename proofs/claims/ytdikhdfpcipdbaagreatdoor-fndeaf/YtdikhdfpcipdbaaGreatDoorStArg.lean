/- A list of frames that came in: its bulk, its copy. -/
import Derived.Test.YtdikhdfpcipdbaaGreatDoorStMark2
namespace Go.Proofs.YtdikhdfpcipdbaaGreatDoor.stm
open Go.ChangeShapes Go.WideShapes Go.ChangeAt Go.RowKit
open Go.Proofs.YtdikhdfpcipdbaaGreatDoor.nums Go.Proofs.YtdikhdfpcipdbaaGreatDoor.mem Go.Proofs.YtdikhdfpcipdbaaGreatDoor.txt Go.Proofs.YtdikhdfpcipdbaaGreatDoor.fix Go.Proofs.YtdikhdfpcipdbaaGreatDoor.frm
open Go.Proofs.YtdikhdfpcipdbaaGreatDoor.tab (Ret quiet_w wpList_make_has add_off)
set_option linter.unusedVariables false

/-- How many values the first frames have. -/
def tot (fs : List Fr) : Nat → Nat
  | 0 => 0
  | i + 1 => tot fs i + (fv fs i).length
theorem tot_le (fs : List Fr) : ∀ {i j : Nat}, i ≤ j → tot fs i ≤ tot fs j := by
  intro i j h
  induction j with
  | zero => have : i = 0 := by omega
            subst this; exact Nat.le_refl _
  | succ j ih =>
    by_cases e : i = j + 1
    · subst e; exact Nat.le_refl _
    · have := ih (by omega)
      simp only [tot]; omega
theorem mpos_tot (fs : List Fr) (i : Nat) : mpos fs i = 1 + 2 * i + tot fs i := by
  induction i with
  | zero => rfl
  | succ i ih => simp only [mpos, tot, ih]; omega
theorem tot_one {fs : List Fr} {i : Nat} (h : i < fs.length) : (fv fs i).length ≤ tot fs fs.length := by
  have := tot_le fs (show i + 1 ≤ fs.length by omega)
  simp only [tot] at this; omega

/-- What szFrameS tells: too much, or what is left. -/
def SzOut (fs : List Fr) (w : World) (e : Ending) (w' : World) : Prop := ∃ v : Int, e = .returned (.int .i64 v) ∧ w.grownBy w' none ∧ (v = -1 ∨ (0 ≤ v ∧ v ≤ 1048576 ∧ fs.length + tot fs fs.length ≤ 1048576))

/-- Values copied into a new block. -/
def CopV (l : List Int) (w : World) (e : Ending) (w' : World) : Prop := ∃ g, e = .returned (.slice (some ⟨g, 0, none⟩) l.length l.length) ∧ w.heap.size ≤ g ∧ w.grownBy w' none ∧ OwnV w' (some ⟨g, 0, none⟩) l

theorem OwnV.grown {w w' : World} {a : Option Addr} {vs : List Int} {row : Option Nat} (h : OwnV w a vs) (hg : w.grownBy w' row) (hn : ∀ b, blkV a vs b → some b ≠ row) : OwnV w' a vs :=
  (chg_of_gr (S := fun b => some b = row) hg (fun b e => e)).ownV h hn
theorem OwnV.kept {w w' : World} {a : Option Addr} {vs : List Int} (h : OwnV w a vs) (hg : w.grownBy w' none) : OwnV w' a vs := h.grown hg (fun _ _ => by simp)
theorem OwnV.set {w : World} {g : Nat} {vs : List Int} (h : OwnV w (some ⟨g, 0, none⟩) vs) (b i : Nat) (u : Value) (hn : g ≠ b) : OwnV (w.setCell ⟨b, i, none⟩ u) (some ⟨g, 0, none⟩) vs :=
  h.grown (gr_set (gr_refl w (some b)) i u) (fun c hc e => by
    obtain ⟨_, x, e1, e2⟩ := hc
    injection e1 with e1; subst e1; injection e with e; exact hn (e2.trans e))

/-- A frame in new memory of its own. -/
def GotO (k sq : Int) (l : List Int) (w : World) (e : Ending) (w' : World) : Prop := ∃ g, e = .returned (fr k sq (some ⟨g, 0, none⟩) l.length l.length) ∧ w.heap.size ≤ g ∧ w.grownBy w' none ∧ OwnV w' (some ⟨g, 0, none⟩) l

/-- Where the copy stands: k frames are laid, where q tells. -/
structure Cpd (fs : List Fr) (w : World) (k : Nat) (A : Array Value) (q : Nat → Pl) (wr : World) : Prop where
  size : A.size = fs.length * 3
  did : ∀ j, j < k → A[j * 3]? = some (.int .i64 (fk fs j)) ∧ A[j * 3 + 1]? = some (.int .i64 (fq fs j)) ∧ A[j * 3 + 2]? = some (.slice (q j).1 (fv fs j).length (q j).2) ∧ OwnV wr (q j).1 (fv fs j)
  past : ∀ j b, j < k → blkV (q j).1 (fv fs j) b → w.heap.size < b
  ne : ∀ i j b, i < k → j < k → i ≠ j → blkV (q i).1 (fv fs i) b → ¬ blkV (q j).1 (fv fs j) b
def putq (q : Nat → Pl) (k : Nat) (p : Pl) : Nat → Pl := fun j => if j = k then p else q j
theorem putq_same (q : Nat → Pl) (k : Nat) (p : Pl) : putq q k p k = p := by simp [putq]
theorem putq_other (q : Nat → Pl) {k j : Nat} (p : Pl) (h : j ≠ k) : putq q k p j = q j := by simp [putq, h]
theorem Cpd.next {fs : List Fr} {w wr w1 : World} {k g : Nat} {A : Array Value} {q : Nat → Pl} (h : Cpd fs w k A q wr) (hk : k < fs.length) (hw : w.heap.size < wr.heap.size) (hg : wr.heap.size ≤ g) (h1 : wr.grownBy w1 none) (hO : OwnV w1 (some ⟨g, 0, none⟩) (fv fs k)) :
    Cpd fs w (k + 1) (((A.setIfInBounds (k * 3) (.int .i64 (fk fs k))).setIfInBounds (k * 3 + 1) (.int .i64 (fq fs k))).setIfInBounds (k * 3 + 2) (.slice (some ⟨g, 0, none⟩) (fv fs k).length (fv fs k).length)) (putq q k (some ⟨g, 0, none⟩, (fv fs k).length))
      (((w1.setCell ⟨w.heap.size, k * 3, none⟩ (.int .i64 (fk fs k))).setCell ⟨w.heap.size, k * 3 + 1, none⟩ (.int .i64 (fq fs k))).setCell ⟨w.heap.size, k * 3 + 2, none⟩ (.slice (some ⟨g, 0, none⟩) (fv fs k).length (fv fs k).length)) := by
  have hs := h.size
  have hset : Chg (fun b => b = w.heap.size) w1 (((w1.setCell ⟨w.heap.size, k * 3, none⟩ (.int .i64 (fk fs k))).setCell ⟨w.heap.size, k * 3 + 1, none⟩ (.int .i64 (fq fs k))).setCell ⟨w.heap.size, k * 3 + 2, none⟩ (.slice (some ⟨g, 0, none⟩) (fv fs k).length (fv fs k).length)) :=
    chg_of_gr (gr_set (gr_set (gr_set (gr_refl w1 (some w.heap.size)) _ _) _ _) _ _) (fun b e => by injection e)
  have hnew : ∀ b, blkV (some ⟨g, 0, none⟩) (fv fs k) b → b = g := fun b hb => by
    obtain ⟨_, x, e, rfl⟩ := hb
    injection e with e; rw [← e]
  have hold : ∀ j b, j < k → blkV (q j).1 (fv fs j) b → b < wr.heap.size := fun j b hj hb => (h.did j hj).2.2.2.lt hb
  refine ⟨by simpa using hs, fun j hj => ?_, fun j b hj hb => ?_, fun i j b hi hj hij hb hb' => ?_⟩
  · by_cases e : j = k
    · subst e
      rw [putq_same]
      refine ⟨?_, ?_, ?_, hset.ownV hO (fun b hb e => by have := hnew b hb; omega)⟩
      · rw [set_other (by omega), set_other (by omega), set_same (by omega)]
      · rw [set_other (by omega), set_same (by simp; omega)]
      · rw [set_same (by simp; omega)]
    · rw [putq_other _ _ e]
      obtain ⟨f0, f1, f2, f3⟩ := h.did j (by omega)
      refine ⟨?_, ?_, ?_, hset.ownV (f3.kept h1) (fun b hb e => by have := h.past j b (by omega) hb; omega)⟩
      · rw [set_other (by omega), set_other (by omega), set_other (by omega)]; exact f0
      · rw [set_other (by omega), set_other (by omega), set_other (by omega)]; exact f1
      · rw [set_other (by omega), set_other (by omega), set_other (by omega)]; exact f2
  · by_cases e : j = k
    · subst e
      rw [putq_same] at hb
      have := hnew b hb; omega
    · rw [putq_other _ _ e] at hb
      exact h.past j b (by omega) hb
  · by_cases e1 : i = k
    · subst e1
      rw [putq_same] at hb
      rw [putq_other _ _ (Ne.symm hij)] at hb'
      have := hnew b hb
      have := hold j b (by omega) hb'
      omega
    · rw [putq_other _ _ e1] at hb
      by_cases e2 : j = k
      · subst e2
        rw [putq_same] at hb'
        have := hnew b hb'
        have := hold i b (by omega) hb
        omega
      · rw [putq_other _ _ e2] at hb'
        exact h.ne i j b (by omega) (by omega) hij hb hb'

/-- The frames copied into new memory of their own. -/
def CopS (fs : List Fr) (w : World) (e : Ending) (w' : World) : Prop := ∃ (g : Nat) (ps : List Pl), e = .returned (.slice (some ⟨g, 0, none⟩) fs.length fs.length) ∧ w.grownBy w' none ∧ OwnFs w' (some ⟨g, 0, none⟩) fs ps ∧ ∀ b, blkF (some ⟨g, 0, none⟩) fs ps b → w.heap.size ≤ b
theorem infoFrame : (Tryz.prog.info? 50).map (fun i => (i.zero, i.size, i.bytes)) = some (some (.agg #[.int .i64 0, .int .i64 0, .slice none 0 0]), 3, 40) := by kernel_rfl
theorem pa_map {n j : Nat} (q : Nat → Pl) (h : j < n) : pa ((List.range n).map q) j = (q j).1 := by simp [pa, List.getD, h]
theorem pc_map {n j : Nat} (q : Nat → Pl) (h : j < n) : pc ((List.range n).map q) j = (q j).2 := by simp [pc, List.getD, h]

end Go.Proofs.YtdikhdfpcipdbaaGreatDoor.stm
