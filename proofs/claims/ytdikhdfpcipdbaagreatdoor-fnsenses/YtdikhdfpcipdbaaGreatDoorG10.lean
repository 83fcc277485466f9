/- A list of frames of one's own, marked and held. A list of frames that came in: its bulk, its copy. IsNewer, the program's and the model's. Heard, the program's and the model's. -/
import Derived.Test.YtdikhdfpcipdbaaGreatDoorG9
import Derived.Test.YtdikhdfpcipdbaaGreatDoorG1
/- A list of frames of one's own, marked and held. -/
namespace Go.Proofs.YtdikhdfpcipdbaaGreatDoor.stm
open Go.ChangeShapes Go.WideShapes Go.ChangeAt Go.RowKit
open Go.Proofs.YtdikhdfpcipdbaaGreatDoor.nums Go.Proofs.YtdikhdfpcipdbaaGreatDoor.mem Go.Proofs.YtdikhdfpcipdbaaGreatDoor.txt Go.Proofs.YtdikhdfpcipdbaaGreatDoor.fix Go.Proofs.YtdikhdfpcipdbaaGreatDoor.frm
open Go.Proofs.YtdikhdfpcipdbaaGreatDoor.tab (Ret quiet_w wpList_make_has add_off)
set_option linter.unusedVariables false

/-- Which mark the frame at a place begins with. -/
def mpos (fs : List Fr) : Nat → Nat
  | 0 => 1
  | i + 1 => mpos fs i + 2 + (fv fs i).length
def markF (fs : List Fr) : List Fr := (List.range fs.length).map fun i => (((mpos fs i : Nat) : Int), ((mpos fs i : Nat) : Int) + 1, mks (mpos fs i + 2) (fv fs i).length)
/-- The list lies in a block of frames that is known whole, and so do the values of each, no two in one. -/
def OwnFs (w : World) (a : Option Addr) (fs : List Fr) (ps : List Pl) : Prop := fs = [] ∨ ∃ (g : Nat) (cs : Array Value), a = some ⟨g, 0, none⟩ ∧ Has w g 50 cs ∧
  (∀ k, k < fs.length → cs[k * 3]? = some (.int .i64 (fk fs k)) ∧ cs[k * 3 + 1]? = some (.int .i64 (fq fs k)) ∧ cs[k * 3 + 2]? = some (.slice (pa ps k) (fv fs k).length (pc ps k)) ∧ OwnV w (pa ps k) (fv fs k)) ∧
  ∀ i j b, i < fs.length → j < fs.length → i ≠ j → blkV (pa ps i) (fv fs i) b → ¬ blkV (pa ps j) (fv fs j) b
/-- The blocks of a list of frames. -/
def blkF (a : Option Addr) (fs : List Fr) (ps : List Pl) (b : Nat) : Prop := (fs ≠ [] ∧ ∃ x : Addr, a = some x ∧ x.block = b) ∨ ∃ k, k < fs.length ∧ blkV (pa ps k) (fv fs k) b
theorem OwnFs.frs {w : World} {a : Option Addr} {fs : List Fr} {ps : List Pl} (h : OwnFs w a fs ps) : Frs w a fs ps := by
  rcases h with rfl | ⟨g, cs, rfl, hc, hj, _⟩
  · exact Frs.nil _ _ _
  · intro k hk
    obtain ⟨h0, h1, h2, h3⟩ := hj k hk
    refine ⟨_, rfl, hc.lt, ?_, ?_, ?_, h3.ints⟩
    · rw [add0, hc.cell]; exact h0
    · rw [add0, hc.cell]; exact h1
    · rw [add0, hc.cell]; exact h2
theorem OwnFs.lt {w : World} {a : Option Addr} {fs : List Fr} {ps : List Pl} (h : OwnFs w a fs ps) {b : Nat} (hb : blkF a fs ps b) : b < w.heap.size := by
  rcases h with rfl | ⟨g, cs, rfl, hc, hj, _⟩
  · rcases hb with ⟨h, _⟩ | ⟨k, hk, _⟩
    · exact absurd rfl h
    · simp at hk
  · rcases hb with ⟨_, x, e, rfl⟩ | ⟨k, hk, hb⟩
    · injection e with e; subst e; exact hc.lt
    · exact (hj k hk).2.2.2.lt hb
theorem Chg.ownFs {S : Nat → Prop} {w w' : World} {a : Option Addr} {fs : List Fr} {ps : List Pl} (h : Chg S w w') (H : OwnFs w a fs ps) (hn : ∀ b, blkF a fs ps b → ¬ S b) : OwnFs w' a fs ps := by
  rcases H with rfl | ⟨g, cs, rfl, hc, hj, hd⟩
  · exact Or.inl rfl
  · by_cases hv : fs = []
    · exact Or.inl hv
    · refine Or.inr ⟨g, cs, rfl, h.has hc (hn g (Or.inl ⟨hv, _, rfl, rfl⟩)), fun k hk => ?_, hd⟩
      obtain ⟨h0, h1, h2, h3⟩ := hj k hk
      exact ⟨h0, h1, h2, h.ownV h3 (fun b hb => hn b (Or.inr ⟨k, hk, hb⟩))⟩
theorem OwnFs.kept {w w' : World} {a : Option Addr} {fs : List Fr} {ps : List Pl} (h : OwnFs w a fs ps) (hg : w.grownBy w' none) : OwnFs w' a fs ps :=
  (chg_of_gr (S := fun _ => False) hg (fun b e => by cases e)).ownFs h (fun _ _ => id)

/-- All of them are marked. -/
def MarkedS (a : Option Addr) (fs : List Fr) (ps : List Pl) (w : World) (e : Ending) (w' : World) : Prop := e = .returned (.int .i64 (mpos fs fs.length)) ∧ Chg (blkF a fs ps) w w' ∧ Frs w' a (markF fs) ps

theorem set_other {A : Array Value} {i j : Nat} {u : Value} (h : i ≠ j) : (A.setIfInBounds i u)[j]? = A[j]? := Array.getElem?_setIfInBounds_ne h
theorem set_same {A : Array Value} {i : Nat} {u : Value} (h : i < A.size) : (A.setIfInBounds i u)[i]? = some u := Array.getElem?_setIfInBounds_self_of_lt h

/-- Where the marking stands: i frames are marked. -/
structure Mkd (fs : List Fr) (ps : List Pl) (g : Nat) (w : World) (i : Nat) (A : Array Value) (wr : World) : Prop where
  all : ∀ j, j < fs.length → (∃ u, A[j * 3]? = some u) ∧ (∃ u, A[j * 3 + 1]? = some u) ∧ A[j * 3 + 2]? = some (.slice (pa ps j) (fv fs j).length (pc ps j))
  did : ∀ j, j < i → A[j * 3]? = some (.int .i64 (mpos fs j)) ∧ A[j * 3 + 1]? = some (.int .i64 ((mpos fs j : Int) + 1)) ∧ Ints wr (pa ps j) (mks (mpos fs j + 2) (fv fs j).length)
  own : ∀ j, i ≤ j → j < fs.length → OwnV wr (pa ps j) (fv fs j)
  ne : ∀ j, j < fs.length → ¬ blkV (pa ps j) (fv fs j) g
theorem Mkd.next {fs : List Fr} {ps : List Pl} {g : Nat} {w wr w1 : World} {i : Nat} {A : Array Value} (h : Mkd fs ps g w i A wr) (hi : i < fs.length)
    (hd : ∀ i j b, i < fs.length → j < fs.length → i ≠ j → blkV (pa ps i) (fv fs i) b → ¬ blkV (pa ps j) (fv fs j) b)
    (hc : Chg (blkV (pa ps i) (fv fs i)) ((wr.setCell ⟨g, i * 3, none⟩ (.int .i64 (mpos fs i))).setCell ⟨g, i * 3 + 1, none⟩ (.int .i64 ((mpos fs i : Int) + 1))) w1)
    (hI : Ints w1 (pa ps i) (mks (mpos fs i + 2) (fv fs i).length)) :
    Mkd fs ps g w (i + 1) ((A.setIfInBounds (i * 3) (.int .i64 (mpos fs i))).setIfInBounds (i * 3 + 1) (.int .i64 ((mpos fs i : Int) + 1))) w1 := by
  have hset : Chg (fun b => b = g) wr ((wr.setCell ⟨g, i * 3, none⟩ (.int .i64 (mpos fs i))).setCell ⟨g, i * 3 + 1, none⟩ (.int .i64 ((mpos fs i : Int) + 1))) :=
    chg_of_gr (gr_set (gr_set (gr_refl wr (some g)) _ _) _ _) (fun b e => by injection e)
  obtain ⟨⟨u0, e0⟩, ⟨u1, e1⟩, e2⟩ := h.all i hi
  have s0 : i * 3 < A.size := (Array.getElem?_eq_some_iff.1 e0).1
  have s1 : i * 3 + 1 < A.size := (Array.getElem?_eq_some_iff.1 e1).1
  refine ⟨fun j hj => ?_, fun j hj => ?_, fun j hj hjl => ?_, h.ne⟩
  · obtain ⟨⟨v0, f0⟩, ⟨v1, f1⟩, f2⟩ := h.all j hj
    by_cases e : j = i
    · subst e
      refine ⟨⟨_, by rw [set_other (by omega), set_same s0]⟩, ⟨_, by rw [set_same (by simpa using s1)]⟩, ?_⟩
      rw [set_other (by omega), set_other (by omega)]; exact f2
    · refine ⟨⟨v0, ?_⟩, ⟨v1, ?_⟩, ?_⟩
      · rw [set_other (by omega), set_other (by omega)]; exact f0
      · rw [set_other (by omega), set_other (by omega)]; exact f1
      · rw [set_other (by omega), set_other (by omega)]; exact f2
  · by_cases e : j = i
    · subst e
      refine ⟨by rw [set_other (by omega), set_same s0], by rw [set_same (by simpa using s1)], hI⟩
    · obtain ⟨f0, f1, f2⟩ := h.did j (by omega)
      refine ⟨by rw [set_other (by omega), set_other (by omega)]; exact f0, by rw [set_other (by omega), set_other (by omega)]; exact f1, ?_⟩
      have hne : ∀ x : Addr, pa ps j = some x → 0 < (mks (mpos fs j + 2) (fv fs j).length).length → blkV (pa ps j) (fv fs j) x.block := fun x ex hl => ⟨fun e => by rw [mks_len, e] at hl; simp at hl, x, ex, rfl⟩
      exact hc.ints (hset.ints f2 (fun x ex hl eg => h.ne j (by omega) (eg ▸ hne x ex hl))) (fun x ex hl hb => hd j i _ (by omega) hi e (hne x ex hl) hb)
  · exact hc.ownV (hset.ownV (h.own j (by omega) hjl) (fun b hb eg => h.ne j hjl (eg ▸ hb))) (fun b hb hb' => hd j i b hjl hi (by omega) hb hb')

end Go.Proofs.YtdikhdfpcipdbaaGreatDoor.stm

/- A list of frames that came in: its bulk, its copy. -/
namespace Go.Proofs.YtdikhdfpcipdbaaGreatDoor.stm
open Go.ChangeShapes Go.WideShapes Go.ChangeAt Go.RowKit
open Go.Proofs.YtdikhdfpcipdbaaGreatDoor.nums Go.Proofs.YtdikhdfpcipdbaaGreatDoor.mem Go.Proofs.YtdikhdfpcipdbaaGreatDoor.txt Go.Proofs.YtdikhdfpcipdbaaGreatDoor.fix Go.Proofs.YtdikhdfpcipdbaaGreatDoor.frm
open Go.Proofs.YtdikhdfpcipdbaaGreatDoor.tab (Ret quiet_w wpList_make_has add_off)
set_option linter.unusedVariables false

theorem OwnV.grown {w w' : World} {a : Option Addr} {vs : List Int} {row : Option Nat} (h : OwnV w a vs) (hg : w.grownBy w' row) (hn : ∀ b, blkV a vs b → some b ≠ row) : OwnV w' a vs :=
  (chg_of_gr (S := fun b => some b = row) hg (fun b e => e)).ownV h hn
theorem OwnV.kept {w w' : World} {a : Option Addr} {vs : List Int} (h : OwnV w a vs) (hg : w.grownBy w' none) : OwnV w' a vs := h.grown hg (fun _ _ => by simp)
theorem OwnV.set {w : World} {g : Nat} {vs : List Int} (h : OwnV w (some ⟨g, 0, none⟩) vs) (b i : Nat) (u : Value) (hn : g ≠ b) : OwnV (w.setCell ⟨b, i, none⟩ u) (some ⟨g, 0, none⟩) vs :=
  h.grown (gr_set (gr_refl w (some b)) i u) (fun c hc e => by
    obtain ⟨_, x, e1, e2⟩ := hc
    injection e1 with e1; subst e1; injection e with e; exact hn (e2.trans e))

/-- Where the copy stands: k frames are laid, where q tells. -/
structure Cpd (fs : List Fr) (w : World) (k : Nat) (A : Array Value) (q : Nat → Pl) (wr : World) : Prop where
  size : A.size = fs.length * 3
  did : ∀ j, j < k → A[j * 3]? = some (.int .i64 (fk fs j)) ∧ A[j * 3 + 1]? = some (.int .i64 (fq fs j)) ∧ A[j * 3 + 2]? = some (.slice (q j).1 (fv fs j).length (q j).2) ∧ OwnV wr (q j).1 (fv fs j)
  past : ∀ j b, j < k → blkV (q j).1 (fv fs j) b → w.heap.size < b
  ne : ∀ i j b, i < k → j < k → i ≠ j → blkV (q i).1 (fv fs i) b → ¬ blkV (q j).1 (fv fs j) b
def putq (q : Nat → Pl) (k : Nat) (p : Pl) : Nat → Pl := fun j => if j = k then p else q j
theorem putq_same (q : Nat → Pl) (k : Nat) (p : Pl) : putq q k p k = p := by simp [putq]
theorem putq_other (q : Nat → Pl) {k j : Nat} (p : Pl) (h : j ≠ k) : putq q k p j = q j := by simp [putq, h]
theorem Cpd.next {fs : List Fr} {w wr w1 : World} {k g : Nat} {A : Array Value} {q : Nat → Pl} (h : Cpd fs w k A q wr) (hk : k < fs.length) (hw : w.heap.size < wr.heap.size) (hg : wr.heap.size ≤ g) (h1 : wr.grownBy w1 none) (hO : OwnV w1 (some ⟨g, 0, none⟩) (fv fs k)) :
    Cpd fs w (k + 1) (((A.setIfInBounds (k * 3) (.int .i64 (fk fs k))).setIfInBounds (k * 3 + 1) (.int .i64 (fq fs k))).setIfInBounds (k * 3 + 2) (.slice (some ⟨g, 0, none⟩) (fv fs k).length (fv fs k).length)) (putq q k (some ⟨g, 0, none⟩, (fv fs k).length))
      (((w1.setCell ⟨w.heap.size, k * 3, none⟩ (.int .i64 (fk fs k))).setCell ⟨w.heap.size, k * 3 + 1, none⟩ (.int .i64 (fq fs k))).setCell ⟨w.heap.size, k * 3 + 2, none⟩ (.slice (some ⟨g, 0, none⟩) (fv fs k).length (fv fs k).length)) := by
  have hs := h.size
  have hset : Chg (fun b => b = w.heap.size) w1 (((w1.setCell ⟨w.heap.size, k * 3, none⟩ (.int .i64 (fk fs k))).setCell ⟨w.heap.size, k * 3 + 1, none⟩ (.int .i64 (fq fs k))).setCell ⟨w.heap.size, k * 3 + 2, none⟩ (.slice (some ⟨g, 0, none⟩) (fv fs k).length (fv fs k).length)) :=
    chg_of_gr (gr_set (gr_set (gr_set (gr_refl w1 (some w.heap.size)) _ _) _ _) _ _) (fun b e => by injection e)
  have hnew : ∀ b, blkV (some ⟨g, 0, none⟩) (fv fs k) b → b = g := fun b hb => by
    obtain ⟨_, x, e, rfl⟩ := hb
    injection e with e; rw [← e]
  have hold : ∀ j b, j < k → blkV (q j).1 (fv fs j) b → b < wr.heap.size := fun j b hj hb => (h.did j hj).2.2.2.lt hb
  refine ⟨by simpa using hs, fun j hj => ?_, fun j b hj hb => ?_, fun i j b hi hj hij hb hb' => ?_⟩
  · by_cases e : j = k
    · subst e
      rw [putq_same]
      refine ⟨?_, ?_, ?_, hset.ownV hO (fun b hb e => by have := hnew b hb; omega)⟩
      · rw [set_other (by omega), set_other (by omega), set_same (by omega)]
      · rw [set_other (by omega), set_same (by simp; omega)]
      · rw [set_same (by simp; omega)]
    · rw [putq_other _ _ e]
      obtain ⟨f0, f1, f2, f3⟩ := h.did j (by omega)
      refine ⟨?_, ?_, ?_, hset.ownV (f3.kept h1) (fun b hb e => by have := h.past j b (by omega) hb; omega)⟩
      · rw [set_other (by omega), set_other (by omega), set_other (by omega)]; exact f0
      · rw [set_other (by omega), set_other (by omega), set_other (by omega)]; exact f1
      · rw [set_other (by omega), set_other (by omega), set_other (by omega)]; exact f2
  · by_cases e : j = k
    · subst e
      rw [putq_same] at hb
      have := hnew b hb; omega
    · rw [putq_other _ _ e] at hb
      exact h.past j b (by omega) hb
  · by_cases e1 : i = k
    · subst e1
      rw [putq_same] at hb
      rw [putq_other _ _ (Ne.symm hij)] at hb'
      have := hnew b hb
      have := hold j b (by omega) hb'
      omega
    · rw [putq_other _ _ e1] at hb
      by_cases e2 : j = k
      · subst e2
        rw [putq_same] at hb'
        have := hnew b hb'
        have := hold i b (by omega) hb
        omega
      · rw [putq_other _ _ e2] at hb'
        exact h.ne i j b (by omega) (by omega) hij hb hb'

theorem infoFrame : (Tryz.prog.info? 50).map (fun i => (i.zero, i.size, i.bytes)) = some (some (.agg #[.int .i64 0, .int .i64 0, .slice none 0 0]), 3, 40) := by kernel_rfl
end Go.Proofs.YtdikhdfpcipdbaaGreatDoor.stm

/- IsNewer, the program's and the model's. -/
namespace Go.Proofs.YtdikhdfpcipdbaaGreatDoor.stm
open Go.ChangeShapes Go.WideShapes Go.ChangeAt Go.RowKit
open Go.Proofs.YtdikhdfpcipdbaaGreatDoor.nums Go.Proofs.YtdikhdfpcipdbaaGreatDoor.fix
set_option linter.unusedVariables false

/-- Is the second number newer than the first one? -/
def newer (old seq : Int) : Bool := inb seq 0 99 && (decide (old = -1) || (inb old 0 99 && inb ((seq - old + 100) % 100) 1 50))

theorem implSeqOk (k : Int) (w : World) : Calls Tryz.prog 84 #[.int .i64 k] w fun e w' => e = .returned (.bool (inb k 0 99)) ∧ w = w' := by
  go_enter Tryz.func84, Tryz.ntmps84
  go_wp2
  all_goals go_ret
  all_goals exact ⟨ret_bool (by unfold inb; simp <;> omega), rfl⟩

theorem inb_true {x l h : Int} (hi : inb x l h = true) : l ≤ x ∧ x ≤ h := by unfold inb at hi; simpa using hi

theorem implNewer (o s : Int) (w : World) :
    Calls Tryz.prog 66 #[.int .i64 o, .int .i64 s] w fun e w' => e = .returned (.bool (newer o s)) ∧ w = w' := by
  cases hs : inb s 0 99
  · have hn : newer o s = false := by rw [newer, hs]; rfl
    have cS : ∀ W, Calls Tryz.prog 84 #[.int .i64 s] W fun e w' => e = .returned (.bool false) ∧ W = w' := fun W => hs ▸ implSeqOk s W
    rw [hn]
    go_enter Tryz.func66, Tryz.ntmps66
    go_wp2_with fail
    refine (cS _).mono ?_
    rintro e w' ⟨rfl, rfl⟩
    go_wp2_with fail
    go_ret
    exact ⟨rfl, rfl⟩
  · have cS : ∀ W, Calls Tryz.prog 84 #[.int .i64 s] W fun e w' => e = .returned (.bool true) ∧ W = w' := fun W => hs ▸ implSeqOk s W
    obtain ⟨s0, s1⟩ := inb_true hs
    by_cases h1 : o = -1
    · have hn : newer o s = true := by rw [newer, hs, decide_eq_true h1]; rfl
      rw [hn]
      subst h1
      clear hn hs
      go_enter Tryz.func66, Tryz.ntmps66
      go_wp2_with fail
      refine (cS _).mono ?_
      rintro e w' ⟨rfl, rfl⟩
      go_wp2_with fail
      go_ret
      exact ⟨rfl, rfl⟩
    · have h1' : (o == -1) = false := by rw [beq_eq_false_iff_ne]; exact h1
      cases ho : inb o 0 99
      · have hn : newer o s = false := by rw [newer, hs, decide_eq_false h1, ho]; rfl
        have cO : ∀ W, Calls Tryz.prog 84 #[.int .i64 o] W fun e w' => e = .returned (.bool false) ∧ W = w' := fun W => ho ▸ implSeqOk o W
        rw [hn]
        clear hn hs ho
        go_enter Tryz.func66, Tryz.ntmps66
        go_wp2_with fail
        refine (cS _).mono ?_
        rintro e w' ⟨rfl, rfl⟩
        go_wp2_with fail
        refine (cO _).mono ?_
        rintro e w' ⟨rfl, rfl⟩
        go_wp2_with fail
        go_ret
        exact ⟨rfl, rfl⟩
      · have hn : newer o s = inb ((s - o + 100) % 100) 1 50 := by rw [newer, hs, decide_eq_false h1, ho]; rfl
        have cO : ∀ W, Calls Tryz.prog 84 #[.int .i64 o] W fun e w' => e = .returned (.bool true) ∧ W = w' := fun W => ho ▸ implSeqOk o W
        obtain ⟨o0, o1⟩ := inb_true ho
        have hm : (s - o + 100).tmod 100 = (s - o + 100) % 100 := Int.tmod_eq_emod_of_nonneg (by omega)
        rw [hn]
        clear hn hs ho
        go_enter Tryz.func66, Tryz.ntmps66
        go_wp2_with fail
        refine (cS _).mono ?_
        rintro e w' ⟨rfl, rfl⟩
        go_wp2_with fail
        refine (cO _).mono ?_
        rintro e w' ⟨rfl, rfl⟩
        go_wp2
        all_goals go_ret
        all_goals exact ⟨ret_bool (by unfold inb; simp <;> omega), rfl⟩

theorem specNewer (o s : Int) (w : World) :
    Calls Tryz.prog 76 #[.int .i64 o, .int .i64 s] w fun e w' => e = .returned (.bool (newer o s)) ∧ w = w' := by
  cases hs : inb s 0 99
  · have hn : newer o s = false := by rw [newer, hs]; rfl
    have cS : ∀ W, Calls Tryz.prog 24 #[.int .i64 s, .int .i64 0, .int .i64 99] W fun e w' => e = .returned (.bool false) ∧ W = w' := fun W => hs ▸ specIn s 0 99 W
    rw [hn]
    go_enter Tryz.func76, Tryz.ntmps76
    go_wp2_with fail
    refine (cS _).mono ?_
    rintro e w' ⟨rfl, rfl⟩
    go_wp2_with fail
    go_ret
    exact ⟨rfl, rfl⟩
  · have cS : ∀ W, Calls Tryz.prog 24 #[.int .i64 s, .int .i64 0, .int .i64 99] W fun e w' => e = .returned (.bool true) ∧ W = w' := fun W => hs ▸ specIn s 0 99 W
    obtain ⟨s0, s1⟩ := inb_true hs
    cases ho : inb o (-1) 99
    · have h1 : ¬ o = -1 := by intro e; subst e; simp [inb] at ho
      have h2 : inb o 0 99 = false := by unfold inb at ho ⊢; simp at ho ⊢; omega
      have hn : newer o s = false := by rw [newer, hs, decide_eq_false h1, h2]; rfl
      have cO : ∀ W, Calls Tryz.prog 24 #[.int .i64 o, .int .i64 (-1), .int .i64 99] W fun e w' => e = .returned (.bool false) ∧ W = w' := fun W => ho ▸ specIn o (-1) 99 W
      rw [hn]
      clear hn hs ho h1 h2
      go_enter Tryz.func76, Tryz.ntmps76
      go_wp2_with fail
      refine (cS _).mono ?_
      rintro e w' ⟨rfl, rfl⟩
      go_wp2_with fail
      refine (cO _).mono ?_
      rintro e w' ⟨rfl, rfl⟩
      go_wp2_with fail
      go_ret
      exact ⟨rfl, rfl⟩
    · have cO : ∀ W, Calls Tryz.prog 24 #[.int .i64 o, .int .i64 (-1), .int .i64 99] W fun e w' => e = .returned (.bool true) ∧ W = w' := fun W => ho ▸ specIn o (-1) 99 W
      obtain ⟨o0, o1⟩ := inb_true ho
      by_cases h1 : o = -1
      · have hn : newer o s = true := by rw [newer, hs, decide_eq_true h1]; rfl
        rw [hn]
        subst h1
        clear hn hs ho
        go_enter Tryz.func76, Tryz.ntmps76
        go_wp2_with fail
        refine (cS _).mono ?_
        rintro e w' ⟨rfl, rfl⟩
        go_wp2_with fail
        refine (cO _).mono ?_
        rintro e w' ⟨rfl, rfl⟩
        go_wp2_with fail
        go_ret
        exact ⟨rfl, rfl⟩
      · have h1' : (o == -1) = false := by rw [beq_eq_false_iff_ne]; exact h1
        have h2 : inb o 0 99 = true := by unfold inb; simp; omega
        have hn : newer o s = inb ((s - o) % 100) 1 50 := by rw [newer, hs, decide_eq_false h1, h2, show (s - o + 100) % 100 = (s - o) % 100 by omega]; rfl
        rw [hn]
        clear hn hs ho h2
        go_enter Tryz.func76, Tryz.ntmps76
        go_wp2_with fail
        refine (cS _).mono ?_
        rintro e w' ⟨rfl, rfl⟩
        go_wp2_with fail
        refine (cO _).mono ?_
        rintro e w' ⟨rfl, rfl⟩
        go_wp2_with fail
        refine (specIn _ _ _ _).mono ?_
        rintro e w' ⟨rfl, rfl⟩
        go_wp2_with fail
        go_ret
        exact ⟨rfl, rfl⟩
end Go.Proofs.YtdikhdfpcipdbaaGreatDoor.stm

/- Heard, the program's and the model's. -/
namespace Go.Proofs.YtdikhdfpcipdbaaGreatDoor.stm
open Go.ChangeShapes Go.WideShapes Go.ChangeAt Go.RowKit
open Go.Proofs.YtdikhdfpcipdbaaGreatDoor.nums Go.Proofs.YtdikhdfpcipdbaaGreatDoor.mem Go.Proofs.YtdikhdfpcipdbaaGreatDoor.txt Go.Proofs.YtdikhdfpcipdbaaGreatDoor.fix Go.Proofs.YtdikhdfpcipdbaaGreatDoor.frm
open Go.Proofs.YtdikhdfpcipdbaaGreatDoor.tab (Ret quiet_w wpList_make_has add_off)
set_option linter.unusedVariables false

/-- One more frame is heard. -/
def hst (kind : Int) (s : Int × Option Fr) (f : Fr) : Int × Option Fr := if (decide (f.1 = kind) && (okF f.1 f.2.1 f.2.2 && newer s.1 f.2.1)) = true then (f.2.1, some f) else s
/-- What is heard of the first frames: the newest number, and the frame. -/
def hfold (kind old : Int) (fs : List Fr) (k : Nat) : Int × Option Fr := (fs.take k).foldl (hst kind) (old, none)
theorem hfold_zero (kind old : Int) (fs : List Fr) : hfold kind old fs 0 = (old, none) := by simp [hfold]
theorem hfold_succ {kind old : Int} {fs : List Fr} {k : Nat} (h : k < fs.length) : hfold kind old fs (k + 1) = hst kind (hfold kind old fs k) (fk fs k, fq fs k, fv fs k) := by
  have e : fs.take (k + 1) = fs.take k ++ [(fk fs k, fq fs k, fv fs k)] := by rw [List.take_add_one, List.getElem?_eq_getElem h, fat h]; rfl
  rw [hfold, e, List.foldl_append]; rfl
def heard (kind old : Int) (fs : List Fr) : Option Fr := (hfold kind old fs fs.length).2
theorem hst_no {kind : Int} {s : Int × Option Fr} {f : Fr} (h : (decide (f.1 = kind) && (okF f.1 f.2.1 f.2.2 && newer s.1 f.2.1)) = false) : hst kind s f = s := by rw [hst, h]; rfl
theorem hst_yes {kind : Int} {s : Int × Option Fr} {f : Fr} (h : (decide (f.1 = kind) && (okF f.1 f.2.1 f.2.2 && newer s.1 f.2.1)) = true) : hst kind s f = (f.2.1, some f) := by rw [hst, h]; rfl
/-- What is heard is right, and of that kind. -/
theorem hfold_ok (kind old : Int) (fs : List Fr) (k : Nat) : ∀ f, (hfold kind old fs k).2 = some f → okF f.1 f.2.1 f.2.2 = true ∧ f.1 = kind := by
  induction k with
  | zero => intro f h; rw [hfold_zero] at h; cases h
  | succ k ih =>
    intro f h
    by_cases hk : k < fs.length
    · rw [hfold_succ hk] at h
      unfold hst at h
      split at h
      · rename_i hc
        simp only [Bool.and_eq_true, decide_eq_true_eq] at hc
        simp only [Option.some.injEq] at h
        subst h
        exact ⟨hc.2.1, hc.1⟩
      · exact ih f h
    · have e : hfold kind old fs (k + 1) = hfold kind old fs k := by unfold hfold; rw [List.take_of_length_le (by omega), List.take_of_length_le (by omega)]
      rw [e] at h; exact ih f h
theorem okF_ne {k sq : Int} {vs : List Int} (h : okF k sq vs = true) : vs ≠ [] := by
  intro e
  subst e
  obtain ⟨h1, h2, _, _, h5, _⟩ := okF_parts h
  have := many_ge h1 h2
  simp at h5; omega

theorem eqlNil (w : World) (a : Option Addr) (l c : Nat) : (binOp .eql 25 (.slice a l c) (.slice none 0 0)).run Tryz.prog w = .ok (.bool a.isNone) w := by
  have h : ∀ d : Nat, (Op.equalIn (d + 1) 25 (.slice a l c) (.slice none 0 0)).run Tryz.prog w = .ok a.isNone w := fun d => by
    cases a <;> simp [Op.equalIn, run_underlying Tryz.underlying25]
  have h' : (Op.equal 25 (.slice a l c) (.slice none 0 0)).run Tryz.prog w = .ok a.isNone w := h 9999
  simp [binOp, h']

/-- A copy of its own. -/
def CopN (vs : List Int) (w : World) (e : Ending) (w' : World) : Prop := ∃ a cap, e = .returned (.slice a vs.length cap) ∧ w.grownBy w' none ∧ Own w.heap.size w' a vs

set_option maxRecDepth 100000 in
set_option maxHeartbeats 1000000 in
theorem specCopy (a : Option Addr) (cap : Nat) (vs : List Int) (w : World) (h : Ints w a vs) (h0 : vs ≠ []) (hl : vs.length ≤ 100) : Calls Tryz.prog 74 #[.slice a vs.length cap] w (CopN vs w) := by
  obtain ⟨i0, hi, hz0, hz1, hz2⟩ := info_parts infoInt
  have hlp : 0 < vs.length := List.length_pos_iff.2 h0
  cases a with
  | none => exact absurd (h 0 hlp) (by rintro ⟨x, e, _⟩; cases e)
  | some ad =>
    have o0 := World.ownsRow_made (base := w.heap.size) (e := 2) (size := 1) w #[] 0 (Nat.le_refl _) (Nat.zero_le _) rfl
    have hI := h.kept (World.grownBy_alloc w (Obj.cells #[] 2) none)
    go_enter Tryz.func74, Tryz.ntmps74
    go_wp2_with (at_builtin; refine wpList_append_lies _ rfl _ _ _ rfl w.heap.size 2 i0 _ 1 8 Tryz.underlying25 hi hz0 hz1 hz2 rfl (by omega) (.slice (some ⟨w.heap.size, 0, none⟩) 0 0) 0 [] rfl o0 ad vs.length cap (vals vs) rfl (by simp) hI.news (vals_one _) hlp (by unfold maxLen; omega) (by omega) (by simp) (w.heap.size + 1) (by simp) ?_; intro gg cap1 w1 hown hgrow hat hlt)
    simp only [Nat.zero_add, List.nil_append] at hown
    go_ret
    exact ⟨_, cap1, rfl, gr_past (World.grownBy_alloc w _ none) hgrow (Nat.le_refl _), row_own hown (Nat.le_refl _) h0⟩

set_option maxRecDepth 100000 in
set_option maxHeartbeats 1000000 in
theorem implClone (a : Option Addr) (cap : Nat) (vs : List Int) (w : World) (h : Ints w a vs) (h0 : vs ≠ []) (hl : vs.length ≤ 100) : Calls Tryz.prog 64 #[.slice a vs.length cap] w (CopN vs w) := by
  obtain ⟨i0, hi, hz0, hz1, hz2⟩ := info_parts infoInt
  have hlp : 0 < vs.length := List.length_pos_iff.2 h0
  cases a with
  | none => exact absurd (h 0 hlp) (by rintro ⟨x, e, _⟩; cases e)
  | some ad =>
    have o0 := World.ownsRow_made (base := w.heap.size) (e := 2) (size := 1) w #[] 0 (Nat.le_refl _) (Nat.zero_le _) rfl
    have hI := h.kept (World.grownBy_alloc w (Obj.cells #[] 2) none)
    have hnil : (binOp .eql 25 (.slice (some ad) vs.length cap) (.slice none 0 0)).run Tryz.prog w = .ok (.bool false) w := eqlNil w (some ad) _ _
    go_enter Tryz.func64, Tryz.ntmps64
    go_wp2_with (at_builtin; refine wpList_append_lies _ rfl _ _ _ rfl w.heap.size 2 i0 _ 1 8 Tryz.underlying25 hi hz0 hz1 hz2 rfl (by omega) (.slice (some ⟨w.heap.size, 0, none⟩) 0 0) 0 [] rfl o0 ad vs.length cap (vals vs) rfl (by simp) hI.news (vals_one _) hlp (by unfold maxLen; omega) (by omega) (by simp) (w.heap.size + 1) (by simp) ?_; intro gg cap1 w1 hown hgrow hat hlt)
    simp only [Nat.zero_add, List.nil_append] at hown
    go_ret
    exact ⟨_, cap1, rfl, gr_past (World.grownBy_alloc w _ none) hgrow (Nat.le_refl _), row_own hown (Nat.le_refl _) h0⟩

set_option maxRecDepth 100000 in
theorem implCloneNil (w : World) : Calls Tryz.prog 64 #[.slice none 0 0] w fun e w' => e = .returned (.slice none 0 0) ∧ w = w' := by
  have hnil : (binOp .eql 25 (.slice none 0 0) (.slice none 0 0)).run Tryz.prog w = .ok (.bool true) w := eqlNil w none _ _
  go_enter Tryz.func64, Tryz.ntmps64
  go_wp2_with fail
  go_ret
  exact ⟨rfl, rfl⟩

set_option maxRecDepth 100000 in
theorem lastNone (w : World) : Calls Tryz.prog 67 #[.slice none 0 0] w (Ret (.tuple #[fr 0 0 none 0 0, .bool false]) w) := by
  go_enter Tryz.func67, Tryz.ntmps67
  go_wp2_with fail
  exact bodyPost_ret (v := .tuple #[fr 0 0 none 0 0, .bool false]) (by simp [results, Tryz.results67, go_sem]) rfl ⟨rfl, World.grownBy_alloc w _ none⟩

set_option maxRecDepth 100000 in
theorem lastSome (g n cap : Nat) (k sq : Int) (a : Option Addr) (m c : Nat) (w : World) (hn : n ≤ 1048576) (hg : g < w.heap.size) (h0 : w.cell? ⟨g, n * 3, none⟩ = some (.int .i64 k)) (h1 : w.cell? ⟨g, n * 3 + 1, none⟩ = some (.int .i64 sq)) (h2 : w.cell? ⟨g, n * 3 + 2, none⟩ = some (.slice a m c)) :
    Calls Tryz.prog 67 #[.slice (some ⟨g, 0, none⟩) (n + 1) cap] w (Ret (.tuple #[fr k sq a m c, .bool true]) w) := by
  have ga := World.grownBy_alloc w (Obj.cells #[.int .i64 0, .int .i64 0, .slice none 0 0] 50) none
  have e0 := (World.cell?_of_block (a := ⟨g, n * 3, none⟩) (ga.block g hg (by simp))).trans h0
  have e1 := (World.cell?_of_block (a := ⟨g, n * 3 + 1, none⟩) (ga.block g hg (by simp))).trans h1
  have e2 := (World.cell?_of_block (a := ⟨g, n * 3 + 2, none⟩) (ga.block g hg (by simp))).trans h2
  clear h0 h1 h2
  go_enter Tryz.func67, Tryz.ntmps67
  go_wp2_with fail
  exact bodyPost_ret (v := .tuple #[fr k sq a m c, .bool true]) (by simp [results, Tryz.results67, go_sem]) rfl ⟨rfl, World.grownBy_alloc w _ none⟩
end Go.Proofs.YtdikhdfpcipdbaaGreatDoor.stm

