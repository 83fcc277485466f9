/- What is read of a stream, plain; a list of frames that owns all its memory. -/
import Derived.Test.YtdikhdfpcipdbaaGreatDoorStLst
namespace Go.Proofs.YtdikhdfpcipdbaaGreatDoor.stm
open Go.ChangeShapes Go.WideShapes Go.ChangeAt Go.RowKit
open Go.Proofs.YtdikhdfpcipdbaaGreatDoor.nums Go.Proofs.YtdikhdfpcipdbaaGreatDoor.mem Go.Proofs.YtdikhdfpcipdbaaGreatDoor.txt Go.Proofs.YtdikhdfpcipdbaaGreatDoor.fix Go.Proofs.YtdikhdfpcipdbaaGreatDoor.frm
open Go.Proofs.YtdikhdfpcipdbaaGreatDoor.tab (Ret quiet_w wpList_make_has add_off)
set_option linter.unusedVariables false

/-- One more, but not more than fifty. -/
def push (out : List Fr) (r : Option Fr) : List Fr := match r with
  | none => out
  | some f => if out.length < 50 then out ++ [f] else out
/-- One byte more: rd tells what is read of a piece. -/
def stp (rd : List UInt8 → Option Fr) (st : List UInt8 × List Fr) (c : UInt8) : List UInt8 × List Fr := if c = 10 then ([], push st.2 (rd (st.1 ++ [10]))) else (st.1 ++ [c], st.2)
/-- What is behind the last byte 10, and the frames ahead. -/
def run (rd : List UInt8 → Option Fr) (s : List UInt8) : List UInt8 × List Fr := s.foldl (stp rd) ([], [])
def rest (l : List UInt8) : List UInt8 := if 60 < l.length then [] else l
def frsOf (rd : List UInt8 → Option Fr) (s : List UInt8) : List Fr := if 4000 < s.length then [] else (run rd s).2
def rstOf (rd : List UInt8 → Option Fr) (s : List UInt8) : List UInt8 := if 4000 < s.length then [] else rest (run rd s).1
theorem run_nil (rd : List UInt8 → Option Fr) : run rd [] = ([], []) := rfl
theorem run_app (rd : List UInt8 → Option Fr) (s t : List UInt8) : run rd (s ++ t) = t.foldl (stp rd) (run rd s) := by unfold run; rw [List.foldl_append]
theorem run_snoc (rd : List UInt8 → Option Fr) (s : List UInt8) (c : UInt8) : run rd (s ++ [c]) = stp rd (run rd s) c := by rw [run_app]; rfl
theorem fold_suffix (rd : List UInt8 → Option Fr) : ∀ (s p pre : List UInt8) (st : List UInt8 × List Fr), p = pre ++ st.1 → ∃ pre', p ++ s = pre' ++ (s.foldl (stp rd) st).1 := by
  intro s
  induction s with
  | nil => intro p pre st h; exact ⟨pre, by simpa using h⟩
  | cons c s ih =>
    intro p pre st h
    rw [List.foldl_cons, show p ++ c :: s = (p ++ [c]) ++ s by simp]
    by_cases hc : c = 10
    · subst hc
      exact ih (p ++ [10]) (p ++ [10]) _ (by simp [stp])
    · refine ih (p ++ [c]) pre _ ?_
      rw [stp, if_neg hc, h, List.append_assoc]
theorem run_suffix (rd : List UInt8 → Option Fr) (s : List UInt8) : ∃ pre, s = pre ++ (run rd s).1 := by
  obtain ⟨pre, h⟩ := fold_suffix rd s [] [] ([], []) rfl
  rw [List.nil_append] at h
  exact ⟨pre, h⟩
theorem push_len {out : List Fr} {r : Option Fr} (h : out.length ≤ 50) : (push out r).length ≤ 50 := by
  unfold push
  split
  · exact h
  · split
    · simp; omega
    · exact h
theorem fold_len (rd : List UInt8 → Option Fr) : ∀ (s : List UInt8) (st : List UInt8 × List Fr), st.2.length ≤ 50 → (s.foldl (stp rd) st).2.length ≤ 50 := by
  intro s
  induction s with
  | nil => intro st h; exact h
  | cons c s ih =>
    intro st h
    rw [List.foldl_cons]
    refine ih _ ?_
    unfold stp
    split
    · exact push_len h
    · exact h
theorem run_len (rd : List UInt8 → Option Fr) (s : List UInt8) : (run rd s).2.length ≤ 50 := fold_len rd s ([], []) (by simp)
/-- All of them are right frames. -/
def AllOk (fs : List Fr) : Prop := ∀ f ∈ fs, okF f.1 f.2.1 f.2.2 = true
theorem push_ok {out : List Fr} {r : Option Fr} (h : AllOk out) (hr : ∀ f, r = some f → okF f.1 f.2.1 f.2.2 = true) : AllOk (push out r) := by
  unfold push
  split
  · exact h
  · rename_i f
    split
    · intro g hg
      rcases List.mem_append.1 hg with h1 | h1
      · exact h g h1
      · rw [List.mem_singleton.1 h1]; exact hr f rfl
    · exact h
theorem rd_ok {rd : List UInt8 → Option Fr} (hrd : ∀ s, IsRead s (rd s)) (s : List UInt8) : ∀ f, rd s = some f → okF f.1 f.2.1 f.2.2 = true := fun f e => by
  have := hrd s
  rw [e] at this
  exact this.1
theorem fold_ok {rd : List UInt8 → Option Fr} (hrd : ∀ s, IsRead s (rd s)) : ∀ (s : List UInt8) (st : List UInt8 × List Fr), AllOk st.2 → AllOk (s.foldl (stp rd) st).2 := by
  intro s
  induction s with
  | nil => intro st h; exact h
  | cons c s ih =>
    intro st h
    rw [List.foldl_cons]
    refine ih _ ?_
    unfold stp
    split
    · exact push_ok h (rd_ok hrd _)
    · exact h
theorem run_ok {rd : List UInt8 → Option Fr} (hrd : ∀ s, IsRead s (rd s)) (s : List UInt8) : AllOk (run rd s).2 := fold_ok hrd s ([], []) (fun f hf => by simp at hf)
theorem allOk_short {fs : List Fr} (h : AllOk fs) : ∀ k, k < fs.length → (fv fs k).length ≤ 6 := by
  intro k hk
  have := h fs[k] (List.getElem_mem _)
  rw [fat hk] at this
  exact okF_short this
theorem rd_ex : ∃ rd : List UInt8 → Option Fr, ∀ s, IsRead s (rd s) := Classical.skolem.1 isRead_ex

/-- The values of each frame lie in a block known whole, no two in one. -/
structure Deep (w : World) (fs : List Fr) (ps : List Pl) : Prop where
  own : ∀ k, k < fs.length → OwnV w (pa ps k) (fv fs k)
  ne : ∀ i j b, i < fs.length → j < fs.length → i ≠ j → blkV (pa ps i) (fv fs i) b → ¬ blkV (pa ps j) (fv fs j) b
theorem Deep.nil (w : World) : Deep w [] [] := ⟨fun k hk => by simp at hk, fun i j b hi => by simp at hi⟩
theorem Deep.chg {S : Nat → Prop} {w w' : World} {fs : List Fr} {ps : List Pl} (h : Deep w fs ps) (hc : Chg S w w') (h2 : ∀ k b, k < fs.length → blkV (pa ps k) (fv fs k) b → ¬ S b) : Deep w' fs ps :=
  ⟨fun k hk => hc.ownV (h.own k hk) (fun b hb => h2 k b hk hb), h.ne⟩
theorem Deep.kept {w w' : World} {fs : List Fr} {ps : List Pl} (h : Deep w fs ps) (hg : w.grownBy w' none) : Deep w' fs ps := h.chg (chg_of_gr (S := fun _ => False) hg (fun b e => by cases e)) (fun _ _ _ _ => id)
theorem Deep.snoc {w : World} {fs : List Fr} {ps : List Pl} {f : Fr} {p : Pl} (h : Deep w fs ps) (hl : ps.length = fs.length) (ho : OwnV w p.1 f.2.2) (hn : ∀ k b, k < fs.length → blkV (pa ps k) (fv fs k) b → ¬ blkV p.1 f.2.2 b) : Deep w (fs ++ [f]) (ps ++ [p]) := by
  have at_ : ∀ k, k < (fs ++ [f]).length → (k < fs.length ∧ fv (fs ++ [f]) k = fv fs k ∧ pa (ps ++ [p]) k = pa ps k) ∨ (k = fs.length ∧ fv (fs ++ [f]) k = f.2.2 ∧ pa (ps ++ [p]) k = p.1) := fun k hk => by
    by_cases e : k < fs.length
    · exact Or.inl ⟨e, (fk_lt e).2.2, (pa_lt (by omega)).1⟩
    · have e' : k = fs.length := by simp at hk; omega
      subst e'
      exact Or.inr ⟨rfl, fk_eq.2.2, by rw [← hl]; exact pa_eq.1⟩
  refine ⟨fun k hk => ?_, fun i j b hi hj hij hb hb' => ?_⟩
  · rcases at_ k hk with ⟨e, e1, e2⟩ | ⟨e, e1, e2⟩
    · rw [e1, e2]; exact h.own k e
    · rw [e1, e2]; exact ho
  · rcases at_ i hi with ⟨e, e1, e2⟩ | ⟨e, e1, e2⟩
    · rcases at_ j hj with ⟨d, d1, d2⟩ | ⟨d, d1, d2⟩
      · rw [e1, e2] at hb; rw [d1, d2] at hb'; exact h.ne i j b e d hij hb hb'
      · rw [e1, e2] at hb; rw [d1, d2] at hb'; exact hn i b e hb hb'
    · rcases at_ j hj with ⟨d, d1, d2⟩ | ⟨d, d1, d2⟩
      · rw [e1, e2] at hb; rw [d1, d2] at hb'; exact hn j b d hb' hb
      · omega
theorem Lst.up {base base' : Nat} {w : World} {v : Value} {fs : List Fr} {ps : List Pl} (h : Lst base w v fs ps) (hb : base' ≤ base) : Lst base' w v fs ps := by
  refine ⟨h.len, ⟨h.row.1, ?_⟩, h.vals, fun k b hk hbb => ⟨Nat.le_trans hb (h.off k b hk hbb).1, (h.off k b hk hbb).2⟩⟩
  rcases h.row.2 with hn | ⟨g, cap, cur, hv, hbg, rest⟩
  · exact Or.inl hn
  · exact Or.inr ⟨g, cap, cur, hv, Nat.le_trans hb hbg, rest⟩
/-- A list whose memory is its own. -/
theorem own_of {base : Nat} {w : World} {a : Option Addr} {m cap : Nat} {fs : List Fr} {ps : List Pl} (L : Lst base w (.slice a m cap) fs ps) (D : Deep w fs ps) : OwnFs w a fs ps ∧ ∀ b, blkF a fs ps b → base ≤ b := by
  by_cases hv : fs = []
  · subst hv
    exact ⟨Or.inl rfl, fun b hb => by
      rcases hb with ⟨h, _⟩ | ⟨k, hk, _⟩
      · exact absurd rfl h
      · simp at hk⟩
  · have hpos := List.length_pos_iff.2 hv
    rcases L.row.2 with ⟨_, hn⟩ | ⟨g, cap', cur, hvv, hb, hc, _, _, _, htk⟩
    · omega
    · injection hvv with h1 h2 h3
      subst h1
      refine ⟨Or.inr ⟨g, cur, rfl, hc, fun k hk => ?_, D.ne⟩, fun b hbb => ?_⟩
      · obtain ⟨r0, r1, r2⟩ := rowF_at fs ps k L.len hk
        have key : ∀ j, j < fs.length * 3 → cur[j]? = (rowF fs ps)[j]? := fun j hj => by
          rw [← htk, List.getElem?_take, if_pos hj, Array.getElem?_toList]
        exact ⟨(key _ (by omega)).trans r0, (key _ (by omega)).trans r1, (key _ (by omega)).trans r2, D.own k hk⟩
      · rcases hbb with ⟨_, x, e, rfl⟩ | ⟨k, hk, hbb⟩
        · injection e with e; subst e; exact hb
        · exact (L.off k b hk hbb).1
/-- One more is appended, of memory that was not there. -/
theorem both_snoc {base N : Nat} {w w' : World} {o : Obj} {v : Value} {fs : List Fr} {ps : List Pl} {f : Fr} {p : Pl} {g cap : Nat} (L : Lst base w v fs ps) (D : Deep w fs ps) (hO : OwnV w p.1 f.2.2) (hN : base ≤ N) (hge : ∀ b, blkV p.1 f.2.2 b → N ≤ b)
    (hlow : (∀ b, v.ownBlock = some b → b < N) ∧ ∀ k b, k < fs.length → blkV (pa ps k) (fv fs k) b → b < N)
    (hown : w'.ownsRow base 50 3 (.slice (some ⟨g, 0, none⟩) (fs.length + 1) cap) (fs.length + 1) (rowF fs ps ++ cel f p)) (hg : (w.alloc o).grownBy w' v.ownBlock) (hat : v.ownBlock = some g ∨ g = w.heap.size + 1) :
    Lst base w' (.slice (some ⟨g, 0, none⟩) (fs.length + 1) cap) (fs ++ [f]) (ps ++ [p]) ∧ Deep w' (fs ++ [f]) (ps ++ [p]) := by
  have hc := chg_of_gr (S := fun b => some b = v.ownBlock) hg (fun b e => e)
  have hoff : ∀ b, blkV p.1 f.2.2 b → base ≤ b ∧ v.ownBlock ≠ some b := fun b hb => ⟨by have := hge b hb; omega, fun e => by have := hlow.1 b e; have := hge b hb; omega⟩
  refine ⟨L.snoc hO.ints hoff hown hg hat, Deep.snoc ((D.kept (World.grownBy_alloc w o none)).chg hc (fun k b hk hb e => (L.off k b hk hb).2 e.symm)) L.len (hc.ownV (hO.kept (World.grownBy_alloc w o none)) (fun b hb e => (hoff b hb).2 e.symm)) (fun k b hk hb hb' => ?_)⟩
  have := hlow.2 k b hk hb
  have := hge b hb'
  omega
theorem own_ge {base : Nat} {w : World} {a : Option Addr} {vs : List Int} (h : Own base w a vs) : ∀ b, blkV a vs b → base ≤ b := fun b hb => by
  obtain ⟨hne, x, e, rfl⟩ := hb
  obtain ⟨g', o', cs', ha', hb', _⟩ := h
  have := ha' hne
  rw [e] at this
  injection this with this
  subst this
  exact hb'
/-- What FramesIn answers. -/
def InOut (fs : List Fr) (r : List UInt8) (w : World) (e : Ending) (w' : World) : Prop := ∃ (a : Option Addr) (cap : Nat) (ps : List Pl), e = .returned (.tuple #[.slice a fs.length cap, str r]) ∧ w.grownBy w' none ∧ OwnFs w' a fs ps ∧ (∀ b, blkF a fs ps b → w.heap.size ≤ b) ∧ Lst w.heap.size w' (.slice a fs.length cap) fs ps ∧ Deep w' fs ps
end Go.Proofs.YtdikhdfpcipdbaaGreatDoor.stm
