/- A list of frames of one's own, marked and held. A list of frames that came in: its bulk, its copy. -/
import Derived.Test.YtjbgcgblamijdaaGreatDoorG18
/- A list of frames of one's own, marked and held. -/
namespace Go.Proofs.YtjbgcgblamijdaaGreatDoor.stm
open Go.ChangeShapes Go.WideShapes Go.ChangeAt Go.RowKit
open Go.Proofs.YtjbgcgblamijdaaGreatDoor.nums Go.Proofs.YtjbgcgblamijdaaGreatDoor.mem Go.Proofs.YtjbgcgblamijdaaGreatDoor.txt Go.Proofs.YtjbgcgblamijdaaGreatDoor.fix Go.Proofs.YtjbgcgblamijdaaGreatDoor.frm
open Go.Proofs.YtjbgcgblamijdaaGreatDoor.tab (Ret quiet_w wpList_make_has add_off)
set_option linter.unusedVariables false

/-- Which mark the frame at a place begins with. -/
def mpos (fs : List Fr) : Nat → Nat
  | 0 => 1
  | i + 1 => mpos fs i + 2 + (fv fs i).length
theorem mpos_le (fs : List Fr) : ∀ {i j : Nat}, i ≤ j → mpos fs i ≤ mpos fs j := by
  intro i j h
  induction j with
  | zero => have : i = 0 := by omega
            subst this; exact Nat.le_refl _
  | succ j ih =>
    by_cases e : i = j + 1
    · subst e; exact Nat.le_refl _
    · have := ih (by omega)
      simp only [mpos]; omega
def markF (fs : List Fr) : List Fr := (List.range fs.length).map fun i => (((mpos fs i : Nat) : Int), ((mpos fs i : Nat) : Int) + 1, mks (mpos fs i + 2) (fv fs i).length)
theorem markF_len (fs : List Fr) : (markF fs).length = fs.length := by simp [markF]
theorem markF_k {fs : List Fr} {i : Nat} (h : i < fs.length) : fk (markF fs) i = mpos fs i := by simp [fk, markF, List.getD, h]
theorem markF_q {fs : List Fr} {i : Nat} (h : i < fs.length) : fq (markF fs) i = (mpos fs i : Int) + 1 := by simp [fq, markF, List.getD, h]
theorem markF_v {fs : List Fr} {i : Nat} (h : i < fs.length) : fv (markF fs) i = mks (mpos fs i + 2) (fv fs i).length := by simp [fv, markF, List.getD, h]

/-- The list lies in a block of frames that is known whole, and so do the values of each, no two in one. -/
def OwnFs (w : World) (a : Option Addr) (fs : List Fr) (ps : List Pl) : Prop := fs = [] ∨ ∃ (g : Nat) (cs : Array Value), a = some ⟨g, 0, none⟩ ∧ Has w g 62 cs ∧
  (∀ k, k < fs.length → cs[k * 3]? = some (.int .i64 (fk fs k)) ∧ cs[k * 3 + 1]? = some (.int .i64 (fq fs k)) ∧ cs[k * 3 + 2]? = some (.slice (pa ps k) (fv fs k).length (pc ps k)) ∧ OwnV w (pa ps k) (fv fs k)) ∧
  ∀ i j b, i < fs.length → j < fs.length → i ≠ j → blkV (pa ps i) (fv fs i) b → ¬ blkV (pa ps j) (fv fs j) b
/-- The blocks of a list of frames. -/
def blkF (a : Option Addr) (fs : List Fr) (ps : List Pl) (b : Nat) : Prop := (fs ≠ [] ∧ ∃ x : Addr, a = some x ∧ x.block = b) ∨ ∃ k, k < fs.length ∧ blkV (pa ps k) (fv fs k) b
theorem OwnFs.frs {w : World} {a : Option Addr} {fs : List Fr} {ps : List Pl} (h : OwnFs w a fs ps) : Frs w a fs ps := by
  rcases h with rfl | ⟨g, cs, rfl, hc, hj, _⟩
  · exact Frs.nil _ _ _
  · intro k hk
    obtain ⟨h0, h1, h2, h3⟩ := hj k hk
    refine ⟨_, rfl, hc.lt, ?_, ?_, ?_, h3.ints⟩
    · rw [add0, hc.cell]; exact h0
    · rw [add0, hc.cell]; exact h1
    · rw [add0, hc.cell]; exact h2
theorem OwnFs.lt {w : World} {a : Option Addr} {fs : List Fr} {ps : List Pl} (h : OwnFs w a fs ps) {b : Nat} (hb : blkF a fs ps b) : b < w.heap.size := by
  rcases h with rfl | ⟨g, cs, rfl, hc, hj, _⟩
  · rcases hb with ⟨h, _⟩ | ⟨k, hk, _⟩
    · exact absurd rfl h
    · simp at hk
  · rcases hb with ⟨_, x, e, rfl⟩ | ⟨k, hk, hb⟩
    · injection e with e; subst e; exact hc.lt
    · exact (hj k hk).2.2.2.lt hb
theorem Chg.ownFs {S : Nat → Prop} {w w' : World} {a : Option Addr} {fs : List Fr} {ps : List Pl} (h : Chg S w w') (H : OwnFs w a fs ps) (hn : ∀ b, blkF a fs ps b → ¬ S b) : OwnFs w' a fs ps := by
  rcases H with rfl | ⟨g, cs, rfl, hc, hj, hd⟩
  · exact Or.inl rfl
  · by_cases hv : fs = []
    · exact Or.inl hv
    · refine Or.inr ⟨g, cs, rfl, h.has hc (hn g (Or.inl ⟨hv, _, rfl, rfl⟩)), fun k hk => ?_, hd⟩
      obtain ⟨h0, h1, h2, h3⟩ := hj k hk
      exact ⟨h0, h1, h2, h.ownV h3 (fun b hb => hn b (Or.inr ⟨k, hk, hb⟩))⟩
theorem OwnFs.kept {w w' : World} {a : Option Addr} {fs : List Fr} {ps : List Pl} (h : OwnFs w a fs ps) (hg : w.grownBy w' none) : OwnFs w' a fs ps :=
  (chg_of_gr (S := fun _ => False) hg (fun b e => by cases e)).ownFs h (fun _ _ => id)

/-- All of them are marked. -/
def MarkedS (a : Option Addr) (fs : List Fr) (ps : List Pl) (w : World) (e : Ending) (w' : World) : Prop := e = .returned (.int .i64 (mpos fs fs.length)) ∧ Chg (blkF a fs ps) w w' ∧ Frs w' a (markF fs) ps

theorem set_other {A : Array Value} {i j : Nat} {u : Value} (h : i ≠ j) : (A.setIfInBounds i u)[j]? = A[j]? := Array.getElem?_setIfInBounds_ne h
theorem set_same {A : Array Value} {i : Nat} {u : Value} (h : i < A.size) : (A.setIfInBounds i u)[i]? = some u := Array.getElem?_setIfInBounds_self_of_lt h

/-- Where the marking stands: i frames are marked. -/
structure Mkd (fs : List Fr) (ps : List Pl) (g : Nat) (w : World) (i : Nat) (A : Array Value) (wr : World) : Prop where
  all : ∀ j, j < fs.length → (∃ u, A[j * 3]? = some u) ∧ (∃ u, A[j * 3 + 1]? = some u) ∧ A[j * 3 + 2]? = some (.slice (pa ps j) (fv fs j).length (pc ps j))
  did : ∀ j, j < i → A[j * 3]? = some (.int .i64 (mpos fs j)) ∧ A[j * 3 + 1]? = some (.int .i64 ((mpos fs j : Int) + 1)) ∧ Ints wr (pa ps j) (mks (mpos fs j + 2) (fv fs j).length)
  own : ∀ j, i ≤ j → j < fs.length → OwnV wr (pa ps j) (fv fs j)
  ne : ∀ j, j < fs.length → ¬ blkV (pa ps j) (fv fs j) g
theorem Mkd.next {fs : List Fr} {ps : List Pl} {g : Nat} {w wr w1 : World} {i : Nat} {A : Array Value} (h : Mkd fs ps g w i A wr) (hi : i < fs.length)
    (hd : ∀ i j b, i < fs.length → j < fs.length → i ≠ j → blkV (pa ps i) (fv fs i) b → ¬ blkV (pa ps j) (fv fs j) b)
    (hc : Chg (blkV (pa ps i) (fv fs i)) ((wr.setCell ⟨g, i * 3, none⟩ (.int .i64 (mpos fs i))).setCell ⟨g, i * 3 + 1, none⟩ (.int .i64 ((mpos fs i : Int) + 1))) w1)
    (hI : Ints w1 (pa ps i) (mks (mpos fs i + 2) (fv fs i).length)) :
    Mkd fs ps g w (i + 1) ((A.setIfInBounds (i * 3) (.int .i64 (mpos fs i))).setIfInBounds (i * 3 + 1) (.int .i64 ((mpos fs i : Int) + 1))) w1 := by
  have hset : Chg (fun b => b = g) wr ((wr.setCell ⟨g, i * 3, none⟩ (.int .i64 (mpos fs i))).setCell ⟨g, i * 3 + 1, none⟩ (.int .i64 ((mpos fs i : Int) + 1))) :=
    chg_of_gr (gr_set (gr_set (gr_refl wr (some g)) _ _) _ _) (fun b e => by injection e)
  obtain ⟨⟨u0, e0⟩, ⟨u1, e1⟩, e2⟩ := h.all i hi
  have s0 : i * 3 < A.size := (Array.getElem?_eq_some_iff.1 e0).1
  have s1 : i * 3 + 1 < A.size := (Array.getElem?_eq_some_iff.1 e1).1
  refine ⟨fun j hj => ?_, fun j hj => ?_, fun j hj hjl => ?_, h.ne⟩
  · obtain ⟨⟨v0, f0⟩, ⟨v1, f1⟩, f2⟩ := h.all j hj
    by_cases e : j = i
    · subst e
      refine ⟨⟨_, by rw [set_other (by omega), set_same s0]⟩, ⟨_, by rw [set_same (by simpa using s1)]⟩, ?_⟩
      rw [set_other (by omega), set_other (by omega)]; exact f2
    · refine ⟨⟨v0, ?_⟩, ⟨v1, ?_⟩, ?_⟩
      · rw [set_other (by omega), set_other (by omega)]; exact f0
      · rw [set_other (by omega), set_other (by omega)]; exact f1
      · rw [set_other (by omega), set_other (by omega)]; exact f2
  · by_cases e : j = i
    · subst e
      refine ⟨by rw [set_other (by omega), set_same s0], by rw [set_same (by simpa using s1)], hI⟩
    · obtain ⟨f0, f1, f2⟩ := h.did j (by omega)
      refine ⟨by rw [set_other (by omega), set_other (by omega)]; exact f0, by rw [set_other (by omega), set_other (by omega)]; exact f1, ?_⟩
      have hne : ∀ x : Addr, pa ps j = some x → 0 < (mks (mpos fs j + 2) (fv fs j).length).length → blkV (pa ps j) (fv fs j) x.block := fun x ex hl => ⟨fun e => by rw [mks_len, e] at hl; simp at hl, x, ex, rfl⟩
      exact hc.ints (hset.ints f2 (fun x ex hl eg => h.ne j (by omega) (eg ▸ hne x ex hl))) (fun x ex hl hb => hd j i _ (by omega) hi e (hne x ex hl) hb)
  · exact hc.ownV (hset.ownV (h.own j (by omega) hjl) (fun b hb eg => h.ne j hjl (eg ▸ hb))) (fun b hb hb' => hd j i b hjl hi (by omega) hb hb')

set_option maxRecDepth 100000 in
set_option maxHeartbeats 2000000 in
theorem markS (a : Option Addr) (cap : Nat) (fs : List Fr) (ps : List Pl) (w : World) (h : OwnFs w a fs ps) (hm : mpos fs fs.length ≤ 5000000) : Calls Tryz.prog 28 #[.slice a fs.length cap, .int .i64 1] w (MarkedS a fs ps w) := by
  by_cases hv : fs = []
  · subst hv
    go_enter Tryz.func28, Tryz.ntmps28
    go_wp2_with fail
    go_loopw [1, 5] (fun p i wr => w = wr ∧ p = .int .i64 1 ∧ i = .int .i64 0) (fun _ _ _ => 0)
    case atStart => exact ⟨rfl, rfl, rfl⟩
    case round =>
      obtain ⟨rfl, rfl, rfl⟩ := hrel
      go_wp2_with fail
      go_ret
      exact ⟨rfl, Chg.refl _ _, Frs.nil _ _ _⟩
  · obtain ⟨g, cs, rfl, hc, hj, hd⟩ := h.resolve_left hv
    have HV := Lib.hid hv
    have HL : ∀ i, i < fs.length → mpos fs i + 2 + (fv fs i).length ≤ 5000000 := fun i hi => Nat.le_trans (mpos_le fs (show i + 1 ≤ fs.length by omega)) hm
    have hlen : fs.length ≤ 5000000 := by
      have : ∀ i, i ≤ mpos fs i := fun i => by
        induction i with
        | zero => simp
        | succ i ih => simp only [mpos]; omega
      exact Nat.le_trans (this _) hm
    have M0 : Mkd fs ps g w 0 cs w := ⟨fun j hj' => ⟨⟨_, (hj j hj').1⟩, ⟨_, (hj j hj').2.1⟩, (hj j hj').2.2.1⟩, fun j hj' => by omega, fun j _ hj' => (hj j hj').2.2.2, fun j hj' => (hj j hj').2.2.2.ne hc (by decide)⟩
    clear hv h hj
    go_enter Tryz.func28, Tryz.ntmps28
    go_wp2_with fail
    go_loopw [1, 5] (fun p i wr => ∃ (k : Nat) (A : Array Value), k ≤ fs.length ∧ i = .int .i64 k ∧ p = .int .i64 (mpos fs k) ∧ Has wr g 62 A ∧ Mkd fs ps g w k A wr ∧ Chg (blkF (some ⟨g, 0, none⟩) fs ps) w wr) (fun _ i _ => fs.length - (intOf i).toNat)
    case atStart => exact ⟨0, cs, Nat.zero_le _, rfl, by simp [mpos], hc, M0, Chg.refl _ _⟩
    case round =>
      clear M0
      obtain ⟨k, A, hk, rfl, rfl, hA, M, hg⟩ := hrel
      by_cases hlt : k < fs.length
      · obtain ⟨⟨u0, e0⟩, ⟨u1, e1⟩, e2⟩ := M.all k hlt
        have d0 := (hA.cell (k * 3)).trans e0
        have d1 := (hA.cell (k * 3 + 1)).trans e1
        have d2 := (hA.cell (k * 3 + 2)).trans e2
        have f0 := hA.frozen (k * 3)
        have f1 := hA.frozen (k * 3 + 1)
        have hmk := HL k hlt
        have hset : Chg (fun b => b = g) wr ((wr.setCell ⟨g, k * 3, none⟩ (.int .i64 (mpos fs k))).setCell ⟨g, k * 3 + 1, none⟩ (.int .i64 ((mpos fs k : Int) + 1))) :=
          chg_of_gr (gr_set (gr_set (gr_refl wr (some g)) _ _) _ _) (fun b e => by injection e)
        have hO := hset.ownV (M.own k (Nat.le_refl _) hlt) (fun b hb eg => M.ne k hlt (eg ▸ hb))
        have cM := markV (mpos fs k + 2) (pa ps k) (pc ps k) (fv fs k) _ hO (by omega) (by omega)
        have hA2 := (hA.set (k * 3) (.int .i64 (mpos fs k))).set (k * 3 + 1) (.int .i64 ((mpos fs k : Int) + 1))
        rw [show (((mpos fs k + 2 : Nat)) : Int) = (mpos fs k : Int) + 1 + 1 by omega] at cM
        clear e0 e1 e2 HL
        go_wp2_with fail
        refine cM.mono ?_
        rintro e w1 ⟨rfl, hc1, hI1⟩
        go_wp2_with fail
        go_roundw
        case rel => exact ⟨k + 1, _, by omega, by go_num, by simp only [mpos]; go_num, hc1.has hA2 (M.ne k hlt), M.next hlt hd hc1 hI1, hg.trans ((hset.mono (fun b e => Or.inl ⟨HV.out, _, rfl, e.symm⟩)).trans (hc1.mono (fun b hb => Or.inr ⟨k, hlt, hb⟩)))⟩
        case measure => simp [intOf]; omega
      · obtain rfl : k = fs.length := by omega
        go_wp2_with fail
        go_ret
        refine ⟨rfl, hg, fun j hj' => ⟨_, rfl, hA.lt, ?_⟩⟩
        rw [markF_len] at hj'
        obtain ⟨h0, h1, h2⟩ := M.did j hj'
        rw [markF_k hj', markF_q hj', markF_v hj', mks_len, add0, hA.cell, hA.cell, hA.cell]
        exact ⟨h0, h1, (M.all j hj').2.2, h2⟩

end Go.Proofs.YtjbgcgblamijdaaGreatDoor.stm

/- A list of frames that came in: its bulk, its copy. -/
namespace Go.Proofs.YtjbgcgblamijdaaGreatDoor.stm
open Go.ChangeShapes Go.WideShapes Go.ChangeAt Go.RowKit
open Go.Proofs.YtjbgcgblamijdaaGreatDoor.nums Go.Proofs.YtjbgcgblamijdaaGreatDoor.mem Go.Proofs.YtjbgcgblamijdaaGreatDoor.txt Go.Proofs.YtjbgcgblamijdaaGreatDoor.fix Go.Proofs.YtjbgcgblamijdaaGreatDoor.frm
open Go.Proofs.YtjbgcgblamijdaaGreatDoor.tab (Ret quiet_w wpList_make_has add_off)
set_option linter.unusedVariables false

theorem szV (a : Option Addr) (len cap L : Nat) (w : World) (hl : len ≤ maxLen) (hL : L ≤ 1048576) :
    Calls Tryz.prog 70 #[.slice a len cap, .int .i64 L] w fun e w' => e = .returned (.int .i64 (if len ≤ L then (L : Int) - (len : Int) else -1)) ∧ w = w' := by
  unfold maxLen at hl
  by_cases h : len ≤ L
  · rw [if_pos h]
    have n1 : decide ((L : Int) - (len : Int) < 0) = false := by simp; omega
    go_enter Tryz.func70, Tryz.ntmps70
    go_wp2
    go_ret
    exact ⟨rfl, rfl⟩
  · rw [if_neg h]
    have n1 : decide ((L : Int) - (len : Int) < 0) = true := by simp; omega
    go_enter Tryz.func70, Tryz.ntmps70
    go_wp2
    go_ret
    exact ⟨rfl, rfl⟩

theorem szF (k sq : Int) (a : Option Addr) (len cap L : Nat) (w : World) (hl : len ≤ maxLen) (hL : L ≤ 1048576) :
    Calls Tryz.prog 71 #[fr k sq a len cap, .int .i64 L] w (Ret (.int .i64 (if len ≤ L then (L : Int) - (len : Int) else -1)) w) := by
  have hc := fun W => szV a len cap L W hl hL
  by_cases h : len ≤ L
  · rw [if_pos h] at hc ⊢
    have n1 : decide ((L : Int) - (len : Int) < 0) = false := by simp; omega
    go_enter Tryz.func71, Tryz.ntmps71
    go_wp2_with fail
    refine (hc _).mono ?_
    rintro e w' ⟨rfl, rfl⟩
    go_wp2_with fail
    go_ret
    exact ⟨rfl, World.grownBy_alloc _ _ _⟩
  · rw [if_neg h] at hc ⊢
    go_enter Tryz.func71, Tryz.ntmps71
    go_wp2_with fail
    refine (hc _).mono ?_
    rintro e w' ⟨rfl, rfl⟩
    go_wp2_with fail
    go_ret
    exact ⟨rfl, World.grownBy_alloc _ _ _⟩

/-- How many values the first frames have. -/
def tot (fs : List Fr) : Nat → Nat
  | 0 => 0
  | i + 1 => tot fs i + (fv fs i).length
theorem tot_le (fs : List Fr) : ∀ {i j : Nat}, i ≤ j → tot fs i ≤ tot fs j := by
  intro i j h
  induction j with
  | zero => have : i = 0 := by omega
            subst this; exact Nat.le_refl _
  | succ j ih =>
    by_cases e : i = j + 1
    · subst e; exact Nat.le_refl _
    · have := ih (by omega)
      simp only [tot]; omega
theorem mpos_tot (fs : List Fr) (i : Nat) : mpos fs i = 1 + 2 * i + tot fs i := by
  induction i with
  | zero => rfl
  | succ i ih => simp only [mpos, tot, ih]; omega
theorem tot_one {fs : List Fr} {i : Nat} (h : i < fs.length) : (fv fs i).length ≤ tot fs fs.length := by
  have := tot_le fs (show i + 1 ≤ fs.length by omega)
  simp only [tot] at this; omega

/-- What szFrameS tells: too much, or what is left. -/
def SzOut (fs : List Fr) (w : World) (e : Ending) (w' : World) : Prop := ∃ v : Int, e = .returned (.int .i64 v) ∧ w.grownBy w' none ∧ (v = -1 ∨ (0 ≤ v ∧ v ≤ 1048576 ∧ fs.length + tot fs fs.length ≤ 1048576))

set_option maxRecDepth 100000 in
set_option maxHeartbeats 1000000 in
theorem szS (a : Option Addr) (cap : Nat) (fs : List Fr) (ps : List Pl) (w : World) (h : Frs w a fs ps) (hl : fs.length ≤ maxLen) (hv : ∀ k, k < fs.length → (fv fs k).length ≤ maxLen) :
    Calls Tryz.prog 22 #[.slice a fs.length cap, .int .i64 1048576] w (SzOut fs w) := by
  have hm : fs.length ≤ 9223372036854775807 := by unfold maxLen at hl; exact hl
  clear hl
  by_cases hbig : fs.length ≤ 1048576
  · have n0 : decide (1048576 - (fs.length : Int) < 0) = false := by simp; omega
    go_enter Tryz.func22, Tryz.ntmps22
    go_wp2_with fail
    go_loopw [1, 5] (fun p i wr => ∃ k : Nat, k ≤ fs.length ∧ i = .int .i64 k ∧ Hid (fs.length + tot fs k ≤ 1048576) ∧ p = .int .i64 ((1048576 - (fs.length + tot fs k) : Nat) : Int) ∧ w.grownBy wr none) (fun _ i _ => fs.length - (intOf i).toNat)
    case atStart => exact ⟨0, Nat.zero_le _, rfl, Lib.hid (by simp [tot]; omega), by simp only [tot]; congr 1; omega, gr_refl _ _⟩
    case round =>
      obtain ⟨k, hk, rfl, hs, rfl, hg⟩ := hrel
      by_cases hlt : k < fs.length
      · have h6 := hv k hlt
        have hs' := hs.out
        obtain ⟨x, rfl, _, cx, cy, cz, hI⟩ := (h.kept hg) k hlt
        have cS := szF (fk fs k) (fq fs k) (pa ps k) (fv fs k).length (pc ps k) (1048576 - (fs.length + tot fs k)) wr h6 (by omega)
        generalize hLL : 1048576 - (fs.length + tot fs k) = LL at *
        have hLb : LL ≤ 1048576 := by omega
        by_cases hle : (fv fs k).length ≤ LL
        · rw [if_pos hle] at cS
          have n1 : decide ((LL : Int) - ((fv fs k).length : Int) < 0) = false := by simp; omega
          clear hI hv h n0
          go_wp2_with fail
          refine cS.mono ?_
          rintro e w1 ⟨rfl, hg1⟩
          go_wp2_with fail
          go_roundw
          case rel => exact ⟨k + 1, by omega, by go_num, Lib.hid (by simp only [tot]; omega), by simp only [tot]; congr 1; omega, gr_trans hg hg1⟩
          case measure => simp [intOf]; omega
        · rw [if_neg hle] at cS
          clear hI hv h n0
          go_wp2_with fail
          refine cS.mono ?_
          rintro e w1 ⟨rfl, hg1⟩
          go_wp2_with fail
          go_ret
          exact ⟨-1, rfl, gr_trans hg hg1, Or.inl rfl⟩
      · obtain rfl : k = fs.length := by omega
        have hs' := hs.out
        go_wp2_with fail
        go_ret
        exact ⟨_, rfl, hg, Or.inr ⟨by omega, by omega, hs'⟩⟩
  · have n0 : decide (1048576 - (fs.length : Int) < 0) = true := by simp; omega
    go_enter Tryz.func22, Tryz.ntmps22
    go_wp2_with fail
    go_ret
    exact ⟨-1, rfl, gr_refl _ _, Or.inl rfl⟩

/-- Values copied into a new block. -/
def CopV (l : List Int) (w : World) (e : Ending) (w' : World) : Prop := ∃ g, e = .returned (.slice (some ⟨g, 0, none⟩) l.length l.length) ∧ w.heap.size ≤ g ∧ w.grownBy w' none ∧ OwnV w' (some ⟨g, 0, none⟩) l

set_option maxHeartbeats 1000000 in
theorem toV (a : Option Addr) (cap : Nat) (l : List Int) (w : World) (h : Ints w a l) (hl : l.length ≤ 1048576) : Calls Tryz.prog 73 #[.slice a l.length cap] w (CopV l w) := by
  obtain ⟨i0, hi, hz0, hz1, hz2⟩ := info_parts infoInt
  go_enter Tryz.func73, Tryz.ntmps73
  go_wp2_with (at_make; refine wpList_make_has _ rfl _ _ _ rfl 2 i0 _ 1 Tryz.underlying25 hi hz0 hz1 .i64 .i64 _ _ l.length rfl rfl rfl rfl (by rw [hz2]; omega) (by unfold maxLen; omega) ?_)
  have hA0 := Has.fresh w 2 (madeCells #[.int .i64 0] l.length)
  go_loopw [4] (fun i wr => ∃ (k : Nat) (A : Array Value), k ≤ l.length ∧ i = .int .i64 k ∧ Has wr w.heap.size 2 A ∧ Hid (A.size = l.length) ∧ Hid (∀ j, j < k → A[j]? = some (.int .i64 (nth l j))) ∧ w.grownBy wr none) (fun i _ => l.length - (intOf i).toNat)
  case atStart => exact ⟨0, _, Nat.zero_le _, rfl, hA0, Lib.hid (size_madeCells _ _), Lib.hid (fun j hj => by omega), World.grownBy_alloc _ _ _⟩
  case round =>
    obtain ⟨k, A, hk, rfl, hA, hs, hr, hg⟩ := hrel
    by_cases hlt : k < l.length
    · obtain ⟨x, rfl, hb, cx⟩ := (h.kept hg) k hlt
      obtain ⟨v0, e0⟩ : ∃ v, A[k]? = some v := ⟨_, Array.getElem?_eq_getElem (by have := hs.out; omega)⟩
      have d0 := (hA.cell k).trans e0
      have g0 := hA.frozen k
      clear e0
      go_wp2_with fail
      go_roundw
      case rel => exact ⟨k + 1, _, by omega, by go_num, hA.set _ _, Lib.hid (by simpa using hs.out), Lib.hid (fun j hj => by
        have hs' := hs.out
        by_cases e : j = k
        · subst e
          simp [hlt, hs']
        · have e0 := hr.out j (by omega)
          rw [Array.getElem?_setIfInBounds_ne (by omega)]; exact e0), gr_new hg (Nat.le_refl _) _ _⟩
      case measure => simp [intOf]; omega
    · obtain rfl : k = l.length := by omega
      go_wp2_with fail
      go_ret
      exact ⟨_, rfl, Nat.le_refl _, hg, Or.inr ⟨_, 0, A, rfl, hA, fun j hj => by rw [Nat.zero_add]; exact hr.out j hj⟩⟩

theorem OwnV.grown {w w' : World} {a : Option Addr} {vs : List Int} {row : Option Nat} (h : OwnV w a vs) (hg : w.grownBy w' row) (hn : ∀ b, blkV a vs b → some b ≠ row) : OwnV w' a vs :=
  (chg_of_gr (S := fun b => some b = row) hg (fun b e => e)).ownV h hn
theorem OwnV.kept {w w' : World} {a : Option Addr} {vs : List Int} (h : OwnV w a vs) (hg : w.grownBy w' none) : OwnV w' a vs := h.grown hg (fun _ _ => by simp)
theorem OwnV.set {w : World} {g : Nat} {vs : List Int} (h : OwnV w (some ⟨g, 0, none⟩) vs) (b i : Nat) (u : Value) (hn : g ≠ b) : OwnV (w.setCell ⟨b, i, none⟩ u) (some ⟨g, 0, none⟩) vs :=
  h.grown (gr_set (gr_refl w (some b)) i u) (fun c hc e => by
    obtain ⟨_, x, e1, e2⟩ := hc
    injection e1 with e1; subst e1; injection e with e; exact hn (e2.trans e))

/-- A frame in new memory of its own. -/
def GotO (k sq : Int) (l : List Int) (w : World) (e : Ending) (w' : World) : Prop := ∃ g, e = .returned (fr k sq (some ⟨g, 0, none⟩) l.length l.length) ∧ w.heap.size ≤ g ∧ w.grownBy w' none ∧ OwnV w' (some ⟨g, 0, none⟩) l

set_option maxHeartbeats 1000000 in
theorem toO (k sq : Int) (a : Option Addr) (cap : Nat) (l : List Int) (w : World) (h : Ints w a l) (hl : l.length ≤ 1048576) : Calls Tryz.prog 74 #[fr k sq a l.length cap] w (GotO k sq l w) := by
  go_enter Tryz.func74, Tryz.ntmps74
  go_wp2_with fail
  have a1 := ((Has.fresh (w.alloc (Obj.cells #[.int .i64 k, .int .i64 sq, .slice a l.length cap] 97)) 62 #[.int .i64 0, .int .i64 0, .slice none 0 0]).alloc (Obj.cells #[.int .i64 k, .int .i64 sq, .slice none 0 0] 62))
  have a2 := Has.fresh ((w.alloc (Obj.cells #[.int .i64 k, .int .i64 sq, .slice a l.length cap] 97)).alloc (Obj.cells #[.int .i64 0, .int .i64 0, .slice none 0 0] 62)) 62 #[.int .i64 k, .int .i64 sq, .slice none 0 0]
  have g0 := gr_alloc (gr_alloc (World.grownBy_alloc w (Obj.cells #[.int .i64 k, .int .i64 sq, .slice a l.length cap] 97) none) (Obj.cells #[.int .i64 0, .int .i64 0, .slice none 0 0] 62)) (Obj.cells #[.int .i64 k, .int .i64 sq, .slice none 0 0] 62)
  generalize hw3 : ((w.alloc (Obj.cells #[.int .i64 k, .int .i64 sq, .slice a l.length cap] 97)).alloc (Obj.cells #[.int .i64 0, .int .i64 0, .slice none 0 0] 62)).alloc (Obj.cells #[.int .i64 k, .int .i64 sq, .slice none 0 0] 62) = w3 at *
  replace a1 : Has w3 (w.heap.size + 1) 62 #[.int .i64 0, .int .i64 0, .slice none 0 0] := by simpa using a1
  replace a2 : Has w3 (w.heap.size + 1 + 1) 62 #[.int .i64 k, .int .i64 sq, .slice none 0 0] := by simpa using a2
  have hs3 : w3.heap.size = w.heap.size + 1 + 1 + 1 := by rw [← hw3]; simp
  clear hw3
  refine (toV a cap l _ (h.kept g0) hl).mono ?_
  rintro e w4 ⟨g, rfl, hge, hg4, hI⟩
  replace a1 := a1.grown hg4 (by simp)
  replace a2 := a2.grown hg4 (by simp)
  obtain ⟨p0, p1, p2, q0, q1, q2⟩ := three a1
  obtain ⟨r0, r1, r2, s0, s1, s2⟩ := three a2
  have hne : w.heap.size + 1 ≠ w.heap.size + 1 + 1 := by omega
  go_wp2_with fail
  obtain ⟨u0, u1, u2, _, _, _⟩ := three (set3 (has_other a1 hne 2 (.slice (some ⟨g, 0, none⟩) l.length l.length)) (.int .i64 k) (.int .i64 sq) (.slice (some ⟨g, 0, none⟩) l.length l.length))
  refine bodyPost_ret (v := fr k sq (some ⟨g, 0, none⟩) l.length l.length) (by simp [results, Tryz.results74, go_sem, u0, u1, u2]) rfl ⟨g, rfl, by omega, ?_, ?_⟩
  · exact gr_new (gr_new (gr_new (gr_new (gr_trans g0 hg4) (by omega) _ _) (by omega) _ _) (by omega) _ _) (by omega) _ _
  · exact (((hI.set _ _ _ (by omega)).set _ _ _ (by omega)).set _ _ _ (by omega)).set _ _ _ (by omega)

/-- Where the copy stands: k frames are laid, where q tells. -/
structure Cpd (fs : List Fr) (w : World) (k : Nat) (A : Array Value) (q : Nat → Pl) (wr : World) : Prop where
  size : A.size = fs.length * 3
  did : ∀ j, j < k → A[j * 3]? = some (.int .i64 (fk fs j)) ∧ A[j * 3 + 1]? = some (.int .i64 (fq fs j)) ∧ A[j * 3 + 2]? = some (.slice (q j).1 (fv fs j).length (q j).2) ∧ OwnV wr (q j).1 (fv fs j)
  past : ∀ j b, j < k → blkV (q j).1 (fv fs j) b → w.heap.size < b
  ne : ∀ i j b, i < k → j < k → i ≠ j → blkV (q i).1 (fv fs i) b → ¬ blkV (q j).1 (fv fs j) b
def putq (q : Nat → Pl) (k : Nat) (p : Pl) : Nat → Pl := fun j => if j = k then p else q j
theorem putq_same (q : Nat → Pl) (k : Nat) (p : Pl) : putq q k p k = p := by simp [putq]
theorem putq_other (q : Nat → Pl) {k j : Nat} (p : Pl) (h : j ≠ k) : putq q k p j = q j := by simp [putq, h]
theorem Cpd.next {fs : List Fr} {w wr w1 : World} {k g : Nat} {A : Array Value} {q : Nat → Pl} (h : Cpd fs w k A q wr) (hk : k < fs.length) (hw : w.heap.size < wr.heap.size) (hg : wr.heap.size ≤ g) (h1 : wr.grownBy w1 none) (hO : OwnV w1 (some ⟨g, 0, none⟩) (fv fs k)) :
    Cpd fs w (k + 1) (((A.setIfInBounds (k * 3) (.int .i64 (fk fs k))).setIfInBounds (k * 3 + 1) (.int .i64 (fq fs k))).setIfInBounds (k * 3 + 2) (.slice (some ⟨g, 0, none⟩) (fv fs k).length (fv fs k).length)) (putq q k (some ⟨g, 0, none⟩, (fv fs k).length))
      (((w1.setCell ⟨w.heap.size, k * 3, none⟩ (.int .i64 (fk fs k))).setCell ⟨w.heap.size, k * 3 + 1, none⟩ (.int .i64 (fq fs k))).setCell ⟨w.heap.size, k * 3 + 2, none⟩ (.slice (some ⟨g, 0, none⟩) (fv fs k).length (fv fs k).length)) := by
  have hs := h.size
  have hset : Chg (fun b => b = w.heap.size) w1 (((w1.setCell ⟨w.heap.size, k * 3, none⟩ (.int .i64 (fk fs k))).setCell ⟨w.heap.size, k * 3 + 1, none⟩ (.int .i64 (fq fs k))).setCell ⟨w.heap.size, k * 3 + 2, none⟩ (.slice (some ⟨g, 0, none⟩) (fv fs k).length (fv fs k).length)) :=
    chg_of_gr (gr_set (gr_set (gr_set (gr_refl w1 (some w.heap.size)) _ _) _ _) _ _) (fun b e => by injection e)
  have hnew : ∀ b, blkV (some ⟨g, 0, none⟩) (fv fs k) b → b = g := fun b hb => by
    obtain ⟨_, x, e, rfl⟩ := hb
    injection e with e; rw [← e]
  have hold : ∀ j b, j < k → blkV (q j).1 (fv fs j) b → b < wr.heap.size := fun j b hj hb => (h.did j hj).2.2.2.lt hb
  refine ⟨by simpa using hs, fun j hj => ?_, fun j b hj hb => ?_, fun i j b hi hj hij hb hb' => ?_⟩
  · by_cases e : j = k
    · subst e
      rw [putq_same]
      refine ⟨?_, ?_, ?_, hset.ownV hO (fun b hb e => by have := hnew b hb; omega)⟩
      · rw [set_other (by omega), set_other (by omega), set_same (by omega)]
      · rw [set_other (by omega), set_same (by simp; omega)]
      · rw [set_same (by simp; omega)]
    · rw [putq_other _ _ e]
      obtain ⟨f0, f1, f2, f3⟩ := h.did j (by omega)
      refine ⟨?_, ?_, ?_, hset.ownV (f3.kept h1) (fun b hb e => by have := h.past j b (by omega) hb; omega)⟩
      · rw [set_other (by omega), set_other (by omega), set_other (by omega)]; exact f0
      · rw [set_other (by omega), set_other (by omega), set_other (by omega)]; exact f1
      · rw [set_other (by omega), set_other (by omega), set_other (by omega)]; exact f2
  · by_cases e : j = k
    · subst e
      rw [putq_same] at hb
      have := hnew b hb; omega
    · rw [putq_other _ _ e] at hb
      exact h.past j b (by omega) hb
  · by_cases e1 : i = k
    · subst e1
      rw [putq_same] at hb
      rw [putq_other _ _ (Ne.symm hij)] at hb'
      have := hnew b hb
      have := hold j b (by omega) hb'
      omega
    · rw [putq_other _ _ e1] at hb
      by_cases e2 : j = k
      · subst e2
        rw [putq_same] at hb'
        have := hnew b hb'
        have := hold i b (by omega) hb
        omega
      · rw [putq_other _ _ e2] at hb'
        exact h.ne i j b (by omega) (by omega) hij hb hb'

/-- The frames copied into new memory of their own. -/
def CopS (fs : List Fr) (w : World) (e : Ending) (w' : World) : Prop := ∃ (g : Nat) (ps : List Pl), e = .returned (.slice (some ⟨g, 0, none⟩) fs.length fs.length) ∧ w.grownBy w' none ∧ OwnFs w' (some ⟨g, 0, none⟩) fs ps ∧ ∀ b, blkF (some ⟨g, 0, none⟩) fs ps b → w.heap.size ≤ b
theorem infoFrame : (Tryz.prog.info? 62).map (fun i => (i.zero, i.size, i.bytes)) = some (some (.agg #[.int .i64 0, .int .i64 0, .slice none 0 0]), 3, 40) := by kernel_rfl
theorem pa_map {n j : Nat} (q : Nat → Pl) (h : j < n) : pa ((List.range n).map q) j = (q j).1 := by simp [pa, List.getD, h]
theorem pc_map {n j : Nat} (q : Nat → Pl) (h : j < n) : pc ((List.range n).map q) j = (q j).2 := by simp [pc, List.getD, h]

set_option maxRecDepth 100000 in
set_option maxHeartbeats 2000000 in
theorem toS (a : Option Addr) (cap : Nat) (fs : List Fr) (ps : List Pl) (w : World) (h : Frs w a fs ps) (hl : fs.length + tot fs fs.length ≤ 1048576) : Calls Tryz.prog 24 #[.slice a fs.length cap] w (CopS fs w) := by
  obtain ⟨i0, hi, hz0, hz1, hz2⟩ := info_parts infoFrame
  have hl1 : fs.length ≤ 1048576 := by omega
  have hv : ∀ k, k < fs.length → (fv fs k).length ≤ 1048576 := fun k hk => by have := tot_one hk; omega
  clear hl
  go_enter Tryz.func24, Tryz.ntmps24
  go_wp2_with (at_make; refine wpList_make_has _ rfl _ _ _ rfl 62 i0 _ 3 Tryz.underlying28 hi hz0 hz1 .i64 .i64 _ _ fs.length rfl rfl rfl rfl (by rw [hz2]; omega) (by unfold maxLen; omega) ?_)
  have hA0 := Has.fresh w 62 (madeCells (Value.cells (.agg #[.int .i64 0, .int .i64 0, .slice none 0 0])) (fs.length * 3))
  go_loopw [4] (fun i wr => ∃ (k : Nat) (A : Array Value) (q : Nat → Pl), k ≤ fs.length ∧ i = .int .i64 k ∧ Has wr w.heap.size 62 A ∧ Cpd fs w k A q wr ∧ w.grownBy wr none) (fun i _ => fs.length - (intOf i).toNat)
  case atStart => exact ⟨0, _, fun _ => (none, 0), Nat.zero_le _, rfl, hA0, ⟨size_madeCells _ _, fun j hj => by omega, fun j b hj => by omega, fun i j b hi => by omega⟩, World.grownBy_alloc _ _ _⟩
  case round =>
    clear hA0
    obtain ⟨k, A, q, hk, rfl, hA, C, hg⟩ := hrel
    by_cases hlt : k < fs.length
    · have h6 := hv k hlt
      obtain ⟨x, rfl, hb, cx, cy, cz, hI⟩ := (h.kept hg) k hlt
      have cT := toO (fk fs k) (fq fs k) (pa ps k) (pc ps k) (fv fs k) wr hI h6
      clear hI hv
      go_wp2_with fail
      refine cT.mono ?_
      rintro e w1 ⟨g1, rfl, hge, hg1, hO⟩
      have hA1 := hA.grown hg1 (by simp)
      have hs := C.size
      obtain ⟨v0, e0⟩ : ∃ v, A[k * 3]? = some v := ⟨_, Array.getElem?_eq_getElem (by omega)⟩
      obtain ⟨v1, e1⟩ : ∃ v, A[k * 3 + 1]? = some v := ⟨_, Array.getElem?_eq_getElem (by omega)⟩
      obtain ⟨v2, e2⟩ : ∃ v, A[k * 3 + 2]? = some v := ⟨_, Array.getElem?_eq_getElem (by omega)⟩
      have d0 := (hA1.cell (k * 3)).trans e0
      have d1 := (hA1.cell (k * 3 + 1)).trans e1
      have d2 := (hA1.cell (k * 3 + 2)).trans e2
      have f0 := hA1.frozen (k * 3)
      have f1 := hA1.frozen (k * 3 + 1)
      have f2 := hA1.frozen (k * 3 + 2)
      have hlw := hA.lt
      clear e0 e1 e2 hs
      go_wp2_with fail
      go_roundw
      case rel => exact ⟨k + 1, _, _, by omega, by go_num, ((hA1.set _ _).set _ _).set _ _, C.next hlt hlw hge hg1 hO, gr_new (gr_new (gr_new (gr_trans hg hg1) (Nat.le_refl _) _ _) (Nat.le_refl _) _ _) (Nat.le_refl _) _ _⟩
      case measure => simp [intOf]; omega
    · obtain rfl : k = fs.length := by omega
      go_wp2_with fail
      go_ret
      refine ⟨_, (List.range fs.length).map q, rfl, hg, Or.inr ⟨_, A, rfl, hA, fun j hj => ?_, fun i j b hi hj hij hb hb' => ?_⟩, ?_⟩
      · rw [pa_map q hj, pc_map q hj]; exact C.did j hj
      · rw [pa_map q hi] at hb; rw [pa_map q hj] at hb'; exact C.ne i j b hi hj hij hb hb'
      · rintro b (⟨_, x, e, rfl⟩ | ⟨j, hj, hb⟩)
        · injection e with e; subst e; exact Nat.le_refl _
        · rw [pa_map q hj] at hb; exact Nat.le_of_lt (C.past j b hj hb)
end Go.Proofs.YtjbgcgblamijdaaGreatDoor.stm

