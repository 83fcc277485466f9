/- A list of frames that grows by append. -/
import Derived.Test.YtdikhdfpcipdbaaGreatDoorStArg
namespace Go.Proofs.YtdikhdfpcipdbaaGreatDoor.stm
open Go.ChangeShapes Go.WideShapes Go.ChangeAt Go.RowKit
open Go.Proofs.YtdikhdfpcipdbaaGreatDoor.nums Go.Proofs.YtdikhdfpcipdbaaGreatDoor.mem Go.Proofs.YtdikhdfpcipdbaaGreatDoor.txt Go.Proofs.YtdikhdfpcipdbaaGreatDoor.fix Go.Proofs.YtdikhdfpcipdbaaGreatDoor.frm
open Go.Proofs.YtdikhdfpcipdbaaGreatDoor.tab (Ret quiet_w wpList_make_has add_off)
set_option linter.unusedVariables false

/-- The cells of a frame. -/
abbrev cel (f : Fr) (p : Pl) : List Value := [.int .i64 f.1, .int .i64 f.2.1, .slice p.1 f.2.2.length p.2]
/-- The cells of a list of frames. -/
def rowF : List Fr → List Pl → List Value
  | f :: fs, p :: ps => .int .i64 f.1 :: .int .i64 f.2.1 :: .slice p.1 f.2.2.length p.2 :: rowF fs ps
  | _, _ => []
theorem rowF_nil : rowF [] [] = [] := rfl
theorem rowF_snoc : ∀ (fs : List Fr) (ps : List Pl) (f : Fr) (p : Pl), ps.length = fs.length → rowF (fs ++ [f]) (ps ++ [p]) = rowF fs ps ++ cel f p := by
  intro fs
  induction fs with
  | nil => intro ps f p h; have : ps = [] := List.length_eq_zero_iff.1 h
           subst this; rfl
  | cons x fs ih =>
    intro ps f p h
    cases ps with
    | nil => simp at h
    | cons y ps =>
      have := ih ps f p (by simpa using h)
      simp only [List.cons_append, rowF, this]
theorem rowF_at : ∀ (fs : List Fr) (ps : List Pl) (k : Nat), ps.length = fs.length → k < fs.length →
    (rowF fs ps)[k * 3]? = some (.int .i64 (fk fs k)) ∧ (rowF fs ps)[k * 3 + 1]? = some (.int .i64 (fq fs k)) ∧ (rowF fs ps)[k * 3 + 2]? = some (.slice (pa ps k) (fv fs k).length (pc ps k)) := by
  intro fs
  induction fs with
  | nil => intro ps k _ h; simp at h
  | cons x fs ih =>
    intro ps k hl hk
    cases ps with
    | nil => simp at hl
    | cons y ps =>
      cases k with
      | zero => exact ⟨rfl, rfl, rfl⟩
      | succ k =>
        obtain ⟨h0, h1, h2⟩ := ih ps k (by simpa using hl) (by simpa using hk)
        rw [show (k + 1) * 3 = k * 3 + 1 + 1 + 1 by omega]
        refine ⟨?_, ?_, ?_⟩
        · simp only [rowF, List.getElem?_cons_succ]; exact h0
        · simp only [rowF, List.getElem?_cons_succ]; exact h1
        · simp only [rowF, List.getElem?_cons_succ]; exact h2
theorem cel_one (f : Fr) (p : Pl) : ∀ u ∈ cel f p, u.oneCell' = true := by
  intro u hu
  simp [cel] at hu
  rcases hu with rfl | rfl | rfl <;> rfl

theorem fk_lt {fs : List Fr} {f : Fr} {k : Nat} (h : k < fs.length) : fk (fs ++ [f]) k = fk fs k ∧ fq (fs ++ [f]) k = fq fs k ∧ fv (fs ++ [f]) k = fv fs k := by
  simp [fk, fq, fv, List.getD, List.getElem?_append_left h]
theorem fk_eq {fs : List Fr} {f : Fr} : fk (fs ++ [f]) fs.length = f.1 ∧ fq (fs ++ [f]) fs.length = f.2.1 ∧ fv (fs ++ [f]) fs.length = f.2.2 := by
  simp [fk, fq, fv, List.getD]
theorem pa_lt {ps : List Pl} {p : Pl} {k : Nat} (h : k < ps.length) : pa (ps ++ [p]) k = pa ps k ∧ pc (ps ++ [p]) k = pc ps k := by
  simp [pa, pc, List.getD, List.getElem?_append_left h]
theorem pa_eq {ps : List Pl} {p : Pl} : pa (ps ++ [p]) ps.length = p.1 ∧ pc (ps ++ [p]) ps.length = p.2 := by
  simp [pa, pc, List.getD]

/-- The value v is a list of these frames, in a row of its own that is not below base, nor are their values, nor do these lie in that row. -/
structure Lst (base : Nat) (w : World) (v : Value) (fs : List Fr) (ps : List Pl) : Prop where
  len : ps.length = fs.length
  row : w.ownsRow base 50 3 v fs.length (rowF fs ps)
  vals : ∀ k, k < fs.length → Ints w (pa ps k) (fv fs k)
  off : ∀ k b, k < fs.length → blkV (pa ps k) (fv fs k) b → base ≤ b ∧ v.ownBlock ≠ some b
theorem Lst.nil (base : Nat) (w : World) : Lst base w (.slice none 0 0) [] [] := ⟨rfl, World.ownsRow_nil _ _ _ _, fun k hk => by simp at hk, fun k b hk => by simp at hk⟩
theorem Lst.made (base : Nat) (w : World) (hb : base ≤ w.heap.size) : Lst base (w.alloc (Obj.cells #[] 50)) (.slice (some ⟨w.heap.size, 0, none⟩) 0 0) [] [] :=
  ⟨rfl, World.ownsRow_made w #[] 0 hb (Nat.zero_le _) rfl, fun k hk => by simp at hk, fun k b hk => by simp at hk⟩
theorem Lst.grown {base : Nat} {w w' : World} {v : Value} {fs : List Fr} {ps : List Pl} {row : Option Nat} (h : Lst base w v fs ps) (hg : w.grownBy w' row) (hq : ∀ q, row = some q → q < base) : Lst base w' v fs ps := by
  have hrow : w'.ownsRow base 50 3 v fs.length (rowF fs ps) := h.row.kept hg (by
    cases hv : v.ownBlock with
    | none => exact Or.inl rfl
    | some b => exact Or.inr (fun e => by have := (h.row.lt b hv).1; have := hq b e.symm; omega))
  exact ⟨h.len, hrow, fun k hk => (chg_of_gr (S := fun b => some b = row) hg (fun b e => e)).ints (h.vals k hk) (fun x e hl er => by
    have := (h.off k x.block hk ⟨fun e => by rw [e] at hl; simp at hl, x, e, rfl⟩).1
    have := hq _ er.symm
    omega), h.off⟩
theorem Lst.chg {S : Nat → Prop} {base : Nat} {w w' : World} {v : Value} {fs : List Fr} {ps : List Pl} (h : Lst base w v fs ps) (hc : Chg S w w') (h1 : ∀ b, v.ownBlock = some b → ¬ S b) (h2 : ∀ k b, k < fs.length → blkV (pa ps k) (fv fs k) b → ¬ S b) : Lst base w' v fs ps := by
  refine ⟨h.len, ⟨h.row.1, ?_⟩, fun k hk => hc.ints (h.vals k hk) (fun x e hl => h2 k x.block hk ⟨fun e => by rw [e] at hl; simp at hl, x, e, rfl⟩), h.off⟩
  rcases h.row.2 with hn | ⟨g, cap, cur, hv, hb, hcur, rest⟩
  · exact Or.inl hn
  · exact Or.inr ⟨g, cap, cur, hv, hb, hc.has (show Has w g 50 cur from hcur) (h1 g (by rw [hv]; rfl)), rest⟩
theorem Lst.lt {base : Nat} {w : World} {v : Value} {fs : List Fr} {ps : List Pl} (h : Lst base w v fs ps) : (∀ b, v.ownBlock = some b → b < w.heap.size) ∧ ∀ k b, k < fs.length → blkV (pa ps k) (fv fs k) b → b < w.heap.size := by
  refine ⟨fun b e => (h.row.lt b e).2, fun k b hk hb => ?_⟩
  obtain ⟨hne, x, ex, rfl⟩ := hb
  obtain ⟨y, ey, hy, _⟩ := h.vals k hk 0 (List.length_pos_iff.2 hne)
  rw [ex] at ey
  injection ey with ey
  subst ey
  exact hy
theorem Lst.kept {base : Nat} {w w' : World} {v : Value} {fs : List Fr} {ps : List Pl} (h : Lst base w v fs ps) (hg : w.grownBy w' none) : Lst base w' v fs ps := h.grown hg (fun q e => by cases e)
theorem Lst.form {base : Nat} {w : World} {v : Value} {fs : List Fr} {ps : List Pl} (h : Lst base w v fs ps) : ∃ a cap, v = .slice a fs.length cap := by
  rcases h.row.2 with ⟨hv, hn⟩ | ⟨g, cap, cur, hv, _⟩
  · exact ⟨none, 0, by rw [hv, hn]⟩
  · exact ⟨_, _, hv⟩
theorem Lst.frs {base : Nat} {w : World} {a : Option Addr} {m cap : Nat} {fs : List Fr} {ps : List Pl} (h : Lst base w (.slice a m cap) fs ps) : Frs w a fs ps := by
  intro k hk
  rcases h.row.2 with ⟨_, hn⟩ | ⟨g, cap', cur, hv, _, hc, _⟩
  · omega
  · injection hv with hv1 hv2 hv3
    subst hv1
    have hrow := h.row
    obtain ⟨h0, h1, h2⟩ := rowF_at fs ps k h.len hk
    have hl := hrow.1
    rw [hv2] at hrow
    refine ⟨_, rfl, Has.lt hc, ?_, ?_, ?_, h.vals k hk⟩
    · rw [add0, hrow.cellAt (k * 3) (by omega)]; exact h0
    · rw [add0]; show w.cell? ⟨g, k * 3 + 1, none⟩ = _; rw [hrow.cellAt (k * 3 + 1) (by omega)]; exact h1
    · rw [add0]; show w.cell? ⟨g, k * 3 + 2, none⟩ = _; rw [hrow.cellAt (k * 3 + 2) (by omega)]; exact h2
/-- One more is appended. -/
theorem Lst.snoc {base : Nat} {w w' : World} {o : Obj} {v : Value} {fs : List Fr} {ps : List Pl} {f : Fr} {p : Pl} {g cap : Nat} (h : Lst base w v fs ps) (hI : Ints w p.1 f.2.2) (hoff : ∀ b, blkV p.1 f.2.2 b → base ≤ b ∧ v.ownBlock ≠ some b)
    (hown : w'.ownsRow base 50 3 (.slice (some ⟨g, 0, none⟩) (fs.length + 1) cap) (fs.length + 1) (rowF fs ps ++ cel f p)) (hg : (w.alloc o).grownBy w' v.ownBlock) (hat : v.ownBlock = some g ∨ g = w.heap.size + 1) :
    Lst base w' (.slice (some ⟨g, 0, none⟩) (fs.length + 1) cap) (fs ++ [f]) (ps ++ [p]) := by
  have hl := h.len
  have ints : ∀ a vs, Ints w a vs → (∀ b, blkV a vs b → base ≤ b ∧ v.ownBlock ≠ some b) → Ints w' a vs ∧ ∀ b, blkV a vs b → base ≤ b ∧ some g ≠ some b := fun a vs hI hb => by
    refine ⟨(chg_of_gr (S := fun b => some b = v.ownBlock) hg (fun b e => e)).ints (hI.kept (World.grownBy_alloc w o none)) (fun x e hl er => (hb x.block ⟨fun e => by rw [e] at hl; simp at hl, x, e, rfl⟩).2 er.symm), fun b hbb => ⟨(hb b hbb).1, fun e => ?_⟩⟩
    injection e with e
    rcases hat with hat | hat
    · exact (hb b hbb).2 (by rw [hat, e])
    · obtain ⟨hne, x, ex, ebx⟩ := hbb
      obtain ⟨y, ey, hy, _⟩ := hI 0 (List.length_pos_iff.2 hne)
      rw [ex] at ey
      injection ey with ey
      subst ey
      omega
  refine ⟨by simp [hl], ?_, fun k hk => ?_, fun k b hk hb => ?_⟩
  · rw [List.length_append, rowF_snoc fs ps f p hl]; exact hown
  · by_cases e : k < fs.length
    · rw [(fk_lt e).2.2, (pa_lt (by omega)).1]
      exact (ints _ _ (h.vals k e) (fun b hb => h.off k b e hb)).1
    · have e' : k = fs.length := by simp at hk; omega
      subst e'
      rw [fk_eq.2.2, ← hl, pa_eq.1]
      exact (ints _ _ hI hoff).1
  · by_cases e : k < fs.length
    · rw [(fk_lt e).2.2, (pa_lt (by omega)).1] at hb
      exact (ints _ _ (h.vals k e) (fun b hb => h.off k b e hb)).2 b hb
    · have e' : k = fs.length := by simp at hk; omega
      subst e'
      rw [fk_eq.2.2, ← hl, pa_eq.1] at hb
      exact (ints _ _ hI hoff).2 b hb
end Go.Proofs.YtdikhdfpcipdbaaGreatDoor.stm
