/- A list of frames of one's own, marked and held. -/
import Derived.Test.YtdikhdfpcipdbaaGreatDoorStMark
namespace Go.Proofs.YtdikhdfpcipdbaaGreatDoor.stm
open Go.ChangeShapes Go.WideShapes Go.ChangeAt Go.RowKit
open Go.Proofs.YtdikhdfpcipdbaaGreatDoor.nums Go.Proofs.YtdikhdfpcipdbaaGreatDoor.mem Go.Proofs.YtdikhdfpcipdbaaGreatDoor.txt Go.Proofs.YtdikhdfpcipdbaaGreatDoor.fix Go.Proofs.YtdikhdfpcipdbaaGreatDoor.frm
open Go.Proofs.YtdikhdfpcipdbaaGreatDoor.tab (Ret quiet_w wpList_make_has add_off)
set_option linter.unusedVariables false

/-- Which mark the frame at a place begins with. -/
def mpos (fs : List Fr) : Nat → Nat
  | 0 => 1
  | i + 1 => mpos fs i + 2 + (fv fs i).length
theorem mpos_le (fs : List Fr) : ∀ {i j : Nat}, i ≤ j → mpos fs i ≤ mpos fs j := by
  intro i j h
  induction j with
  | zero => have : i = 0 := by omega
            subst this; exact Nat.le_refl _
  | succ j ih =>
    by_cases e : i = j + 1
    · subst e; exact Nat.le_refl _
    · have := ih (by omega)
      simp only [mpos]; omega
def markF (fs : List Fr) : List Fr := (List.range fs.length).map fun i => (((mpos fs i : Nat) : Int), ((mpos fs i : Nat) : Int) + 1, mks (mpos fs i + 2) (fv fs i).length)
theorem markF_len (fs : List Fr) : (markF fs).length = fs.length := by simp [markF]
theorem markF_k {fs : List Fr} {i : Nat} (h : i < fs.length) : fk (markF fs) i = mpos fs i := by simp [fk, markF, List.getD, h]
theorem markF_q {fs : List Fr} {i : Nat} (h : i < fs.length) : fq (markF fs) i = (mpos fs i : Int) + 1 := by simp [fq, markF, List.getD, h]
theorem markF_v {fs : List Fr} {i : Nat} (h : i < fs.length) : fv (markF fs) i = mks (mpos fs i + 2) (fv fs i).length := by simp [fv, markF, List.getD, h]

/-- The list lies in a block of frames that is known whole, and so do the values of each, no two in one. -/
def OwnFs (w : World) (a : Option Addr) (fs : List Fr) (ps : List Pl) : Prop := fs = [] ∨ ∃ (g : Nat) (cs : Array Value), a = some ⟨g, 0, none⟩ ∧ Has w g 50 cs ∧
  (∀ k, k < fs.length → cs[k * 3]? = some (.int .i64 (fk fs k)) ∧ cs[k * 3 + 1]? = some (.int .i64 (fq fs k)) ∧ cs[k * 3 + 2]? = some (.slice (pa ps k) (fv fs k).length (pc ps k)) ∧ OwnV w (pa ps k) (fv fs k)) ∧
  ∀ i j b, i < fs.length → j < fs.length → i ≠ j → blkV (pa ps i) (fv fs i) b → ¬ blkV (pa ps j) (fv fs j) b
/-- The blocks of a list of frames. -/
def blkF (a : Option Addr) (fs : List Fr) (ps : List Pl) (b : Nat) : Prop := (fs ≠ [] ∧ ∃ x : Addr, a = some x ∧ x.block = b) ∨ ∃ k, k < fs.length ∧ blkV (pa ps k) (fv fs k) b
theorem OwnFs.frs {w : World} {a : Option Addr} {fs : List Fr} {ps : List Pl} (h : OwnFs w a fs ps) : Frs w a fs ps := by
  rcases h with rfl | ⟨g, cs, rfl, hc, hj, _⟩
  · exact Frs.nil _ _ _
  · intro k hk
    obtain ⟨h0, h1, h2, h3⟩ := hj k hk
    refine ⟨_, rfl, hc.lt, ?_, ?_, ?_, h3.ints⟩
    · rw [add0, hc.cell]; exact h0
    · rw [add0, hc.cell]; exact h1
    · rw [add0, hc.cell]; exact h2
theorem OwnFs.lt {w : World} {a : Option Addr} {fs : List Fr} {ps : List Pl} (h : OwnFs w a fs ps) {b : Nat} (hb : blkF a fs ps b) : b < w.heap.size := by
  rcases h with rfl | ⟨g, cs, rfl, hc, hj, _⟩
  · rcases hb with ⟨h, _⟩ | ⟨k, hk, _⟩
    · exact absurd rfl h
    · simp at hk
  · rcases hb with ⟨_, x, e, rfl⟩ | ⟨k, hk, hb⟩
    · injection e with e; subst e; exact hc.lt
    · exact (hj k hk).2.2.2.lt hb
theorem Chg.ownFs {S : Nat → Prop} {w w' : World} {a : Option Addr} {fs : List Fr} {ps : List Pl} (h : Chg S w w') (H : OwnFs w a fs ps) (hn : ∀ b, blkF a fs ps b → ¬ S b) : OwnFs w' a fs ps := by
  rcases H with rfl | ⟨g, cs, rfl, hc, hj, hd⟩
  · exact Or.inl rfl
  · by_cases hv : fs = []
    · exact Or.inl hv
    · refine Or.inr ⟨g, cs, rfl, h.has hc (hn g (Or.inl ⟨hv, _, rfl, rfl⟩)), fun k hk => ?_, hd⟩
      obtain ⟨h0, h1, h2, h3⟩ := hj k hk
      exact ⟨h0, h1, h2, h.ownV h3 (fun b hb => hn b (Or.inr ⟨k, hk, hb⟩))⟩
theorem OwnFs.kept {w w' : World} {a : Option Addr} {fs : List Fr} {ps : List Pl} (h : OwnFs w a fs ps) (hg : w.grownBy w' none) : OwnFs w' a fs ps :=
  (chg_of_gr (S := fun _ => False) hg (fun b e => by cases e)).ownFs h (fun _ _ => id)

/-- All of them are marked. -/
def MarkedS (a : Option Addr) (fs : List Fr) (ps : List Pl) (w : World) (e : Ending) (w' : World) : Prop := e = .returned (.int .i64 (mpos fs fs.length)) ∧ Chg (blkF a fs ps) w w' ∧ Frs w' a (markF fs) ps

theorem set_other {A : Array Value} {i j : Nat} {u : Value} (h : i ≠ j) : (A.setIfInBounds i u)[j]? = A[j]? := Array.getElem?_setIfInBounds_ne h
theorem set_same {A : Array Value} {i : Nat} {u : Value} (h : i < A.size) : (A.setIfInBounds i u)[i]? = some u := Array.getElem?_setIfInBounds_self_of_lt h

/-- Where the marking stands: i frames are marked. -/
structure Mkd (fs : List Fr) (ps : List Pl) (g : Nat) (w : World) (i : Nat) (A : Array Value) (wr : World) : Prop where
  all : ∀ j, j < fs.length → (∃ u, A[j * 3]? = some u) ∧ (∃ u, A[j * 3 + 1]? = some u) ∧ A[j * 3 + 2]? = some (.slice (pa ps j) (fv fs j).length (pc ps j))
  did : ∀ j, j < i → A[j * 3]? = some (.int .i64 (mpos fs j)) ∧ A[j * 3 + 1]? = some (.int .i64 ((mpos fs j : Int) + 1)) ∧ Ints wr (pa ps j) (mks (mpos fs j + 2) (fv fs j).length)
  own : ∀ j, i ≤ j → j < fs.length → OwnV wr (pa ps j) (fv fs j)
  ne : ∀ j, j < fs.length → ¬ blkV (pa ps j) (fv fs j) g
theorem Mkd.next {fs : List Fr} {ps : List Pl} {g : Nat} {w wr w1 : World} {i : Nat} {A : Array Value} (h : Mkd fs ps g w i A wr) (hi : i < fs.length)
    (hd : ∀ i j b, i < fs.length → j < fs.length → i ≠ j → blkV (pa ps i) (fv fs i) b → ¬ blkV (pa ps j) (fv fs j) b)
    (hc : Chg (blkV (pa ps i) (fv fs i)) ((wr.setCell ⟨g, i * 3, none⟩ (.int .i64 (mpos fs i))).setCell ⟨g, i * 3 + 1, none⟩ (.int .i64 ((mpos fs i : Int) + 1))) w1)
    (hI : Ints w1 (pa ps i) (mks (mpos fs i + 2) (fv fs i).length)) :
    Mkd fs ps g w (i + 1) ((A.setIfInBounds (i * 3) (.int .i64 (mpos fs i))).setIfInBounds (i * 3 + 1) (.int .i64 ((mpos fs i : Int) + 1))) w1 := by
  have hset : Chg (fun b => b = g) wr ((wr.setCell ⟨g, i * 3, none⟩ (.int .i64 (mpos fs i))).setCell ⟨g, i * 3 + 1, none⟩ (.int .i64 ((mpos fs i : Int) + 1))) :=
    chg_of_gr (gr_set (gr_set (gr_refl wr (some g)) _ _) _ _) (fun b e => by injection e)
  obtain ⟨⟨u0, e0⟩, ⟨u1, e1⟩, e2⟩ := h.all i hi
  have s0 : i * 3 < A.size := (Array.getElem?_eq_some_iff.1 e0).1
  have s1 : i * 3 + 1 < A.size := (Array.getElem?_eq_some_iff.1 e1).1
  refine ⟨fun j hj => ?_, fun j hj => ?_, fun j hj hjl => ?_, h.ne⟩
  · obtain ⟨⟨v0, f0⟩, ⟨v1, f1⟩, f2⟩ := h.all j hj
    by_cases e : j = i
    · subst e
      refine ⟨⟨_, by rw [set_other (by omega), set_same s0]⟩, ⟨_, by rw [set_same (by simpa using s1)]⟩, ?_⟩
      rw [set_other (by omega), set_other (by omega)]; exact f2
    · refine ⟨⟨v0, ?_⟩, ⟨v1, ?_⟩, ?_⟩
      · rw [set_other (by omega), set_other (by omega)]; exact f0
      · rw [set_other (by omega), set_other (by omega)]; exact f1
      · rw [set_other (by omega), set_other (by omega)]; exact f2
  · by_cases e : j = i
    · subst e
      refine ⟨by rw [set_other (by omega), set_same s0], by rw [set_same (by simpa using s1)], hI⟩
    · obtain ⟨f0, f1, f2⟩ := h.did j (by omega)
      refine ⟨by rw [set_other (by omega), set_other (by omega)]; exact f0, by rw [set_other (by omega), set_other (by omega)]; exact f1, ?_⟩
      have hne : ∀ x : Addr, pa ps j = some x → 0 < (mks (mpos fs j + 2) (fv fs j).length).length → blkV (pa ps j) (fv fs j) x.block := fun x ex hl => ⟨fun e => by rw [mks_len, e] at hl; simp at hl, x, ex, rfl⟩
      exact hc.ints (hset.ints f2 (fun x ex hl eg => h.ne j (by omega) (eg ▸ hne x ex hl))) (fun x ex hl hb => hd j i _ (by omega) hi e (hne x ex hl) hb)
  · exact hc.ownV (hset.ownV (h.own j (by omega) hjl) (fun b hb eg => h.ne j hjl (eg ▸ hb))) (fun b hb hb' => hd j i b hjl hi (by omega) hb hb')

end Go.Proofs.YtdikhdfpcipdbaaGreatDoor.stm
