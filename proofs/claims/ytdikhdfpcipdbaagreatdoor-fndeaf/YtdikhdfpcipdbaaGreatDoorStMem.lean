/- A list of frames in memory: read; what came in; alike. -/
import Derived.Test.YtdikhdfpcipdbaaGreatDoorFrMark
import Derived.Deep.Slices
import Derived.StillTailTactics
namespace Go.Proofs.YtdikhdfpcipdbaaGreatDoor.stm
open Go.ChangeShapes Go.WideShapes Go.ChangeAt Go.RowKit
open Go.Proofs.YtdikhdfpcipdbaaGreatDoor.nums Go.Proofs.YtdikhdfpcipdbaaGreatDoor.mem Go.Proofs.YtdikhdfpcipdbaaGreatDoor.txt Go.Proofs.YtdikhdfpcipdbaaGreatDoor.fix Go.Proofs.YtdikhdfpcipdbaaGreatDoor.frm
open Go.Proofs.YtdikhdfpcipdbaaGreatDoor.tab (Ret quiet_w wpList_make_has add_off)
set_option linter.unusedVariables false

/-- A frame: its kind, its number, its values. -/
abbrev Fr := Int × Int × List Int
/-- Where the values of a frame lie, and how much room there is. -/
abbrev Pl := Option Addr × Nat
def fk (fs : List Fr) (i : Nat) : Int := (fs.getD i (0, 0, [])).1
def fq (fs : List Fr) (i : Nat) : Int := (fs.getD i (0, 0, [])).2.1
def fv (fs : List Fr) (i : Nat) : List Int := (fs.getD i (0, 0, [])).2.2
def pa (ps : List Pl) (i : Nat) : Option Addr := (ps.getD i (none, 0)).1
def pc (ps : List Pl) (i : Nat) : Nat := (ps.getD i (none, 0)).2
theorem fat {fs : List Fr} {i : Nat} (h : i < fs.length) : fs[i] = (fk fs i, fq fs i, fv fs i) := by simp [fk, fq, fv, List.getD, h]

/-- The slice at a holds these frames. -/
def Frs (w : World) (a : Option Addr) (fs : List Fr) (ps : List Pl) : Prop :=
  ∀ k, k < fs.length → ∃ x : Addr, a = some x ∧ x.block < w.heap.size ∧ w.cell? (x.add (k * 3)) = some (.int .i64 (fk fs k)) ∧ w.cell? ⟨(x.add (k * 3)).block, (x.add (k * 3)).off + 1, none⟩ = some (.int .i64 (fq fs k)) ∧
    w.cell? ⟨(x.add (k * 3)).block, (x.add (k * 3)).off + 2, none⟩ = some (.slice (pa ps k) (fv fs k).length (pc ps k)) ∧ Ints w (pa ps k) (fv fs k)
theorem Frs.nil (w : World) (a : Option Addr) (ps : List Pl) : Frs w a [] ps := fun k hk => by simp at hk

/-- Of what was there, only blocks of S are another. -/
structure Chg (S : Nat → Prop) (w w' : World) : Prop where
  os : w'.os = w.os
  tape : w'.tape = w.tape
  output : w'.output = w.output
  size : w.heap.size ≤ w'.heap.size
  block : ∀ b, b < w.heap.size → ¬ S b → w'.heap[b]? = w.heap[b]?
theorem chg_of_gr {w w' : World} {row : Option Nat} {S : Nat → Prop} (h : w.grownBy w' row) (hS : ∀ b, some b = row → S b) : Chg S w w' := ⟨h.os, h.tape, h.output, h.size, fun b hb hn => h.block b hb (fun e => hn (hS b e))⟩
theorem Chg.refl (S : Nat → Prop) (w : World) : Chg S w w := ⟨rfl, rfl, rfl, Nat.le_refl _, fun _ _ _ => rfl⟩
theorem Chg.trans {S : Nat → Prop} {a b c : World} (h : Chg S a b) (k : Chg S b c) : Chg S a c :=
  ⟨k.os.trans h.os, k.tape.trans h.tape, k.output.trans h.output, Nat.le_trans h.size k.size, fun i hi hn => (k.block i (Nat.lt_of_lt_of_le hi h.size) hn).trans (h.block i hi hn)⟩
theorem Chg.mono {S T : Nat → Prop} {a b : World} (h : Chg S a b) (hs : ∀ i, S i → T i) : Chg T a b := ⟨h.os, h.tape, h.output, h.size, fun i hi hn => h.block i hi (fun k => hn (hs i k))⟩
theorem Chg.gr {S : Nat → Prop} {a b c : World} (h : a.grownBy b none) (k : Chg S b c) (hS : ∀ i, S i → a.heap.size ≤ i) : a.grownBy c none :=
  ⟨k.os.trans h.os, k.tape.trans h.tape, k.output.trans h.output, Nat.le_trans h.size k.size, fun i hi hn => (k.block i (Nat.lt_of_lt_of_le hi h.size) (fun s => by have := hS i s; omega)).trans (h.block i hi hn)⟩
theorem Chg.has {S : Nat → Prop} {w w' : World} {g : Nat} {t : TypeId} {cs : Array Value} (h : Chg S w w') (H : Has w g t cs) (hn : ¬ S g) : Has w' g t cs := H.same (h.block g H.lt hn)
theorem Chg.ints {S : Nat → Prop} {w w' : World} {a : Option Addr} {l : List Int} (h : Chg S w w') (H : Ints w a l) (hn : ∀ x : Addr, a = some x → 0 < l.length → ¬ S x.block) : Ints w' a l := by
  intro k hk
  obtain ⟨x, e, hb, h1⟩ := H k hk
  refine ⟨x, e, Nat.lt_of_lt_of_le hb h.size, ?_⟩
  rw [← h1]; exact World.cell?_of_block (h.block _ (by rw [block_add]; omega) (by rw [block_add]; exact hn x e (by omega)))
theorem Chg.frs {S : Nat → Prop} {w w' : World} {a : Option Addr} {fs : List Fr} {ps : List Pl} (h : Chg S w w') (H : Frs w a fs ps) (hn : ∀ x : Addr, a = some x → 0 < fs.length → ¬ S x.block)
    (hv : ∀ k (x : Addr), k < fs.length → pa ps k = some x → 0 < (fv fs k).length → ¬ S x.block) : Frs w' a fs ps := by
  intro k hk
  obtain ⟨x, e, hb, h1, h2, h3, h4⟩ := H k hk
  have hx := hn x e (by omega)
  refine ⟨x, e, Nat.lt_of_lt_of_le hb h.size, ?_, ?_, ?_, h.ints h4 (fun y ey hl => hv k y hk ey hl)⟩
  · rw [← h1]; exact World.cell?_of_block (h.block _ (by rw [block_add]; omega) (by rw [block_add]; exact hx))
  · rw [← h2]; exact World.cell?_of_block (h.block _ (by show (x.add (k * 3)).block < _; rw [block_add]; omega) (by show ¬ S (x.add (k * 3)).block; rw [block_add]; exact hx))
  · rw [← h3]; exact World.cell?_of_block (h.block _ (by show (x.add (k * 3)).block < _; rw [block_add]; omega) (by show ¬ S (x.add (k * 3)).block; rw [block_add]; exact hx))
theorem Frs.kept {w w' : World} {a : Option Addr} {fs : List Fr} {ps : List Pl} (h : Frs w a fs ps) (hg : w.grownBy w' none) : Frs w' a fs ps :=
  (chg_of_gr (S := fun _ => False) hg (fun b e => by cases e)).frs h (fun _ _ _ => id) (fun _ _ _ _ _ => id)

theorem choose_pl {n : Nat} {Q : Nat → Fr × Pl → Prop} (h : ∀ i, i < n → ∃ q, Q i q) : ∃ (fs : List Fr) (ps : List Pl), fs.length = n ∧ ∀ i, i < n → Q i ((fk fs i, fq fs i, fv fs i), (pa ps i, pc ps i)) := by
  obtain ⟨q, hq⟩ := Go.Deep.choose_lt h
  refine ⟨(List.range n).map fun i => (q i).1, (List.range n).map fun i => (q i).2, by simp, fun i hi => ?_⟩
  have e1 : ((List.range n).map fun i => (q i).1).getD i (0, 0, []) = (q i).1 := by simp [List.getD, hi]
  have e2 : ((List.range n).map fun i => (q i).2).getD i (none, 0) = (q i).2 := by simp [List.getD, hi]
  unfold fk fq fv pa pc
  rw [e1, e2]
  exact hq i hi

end Go.Proofs.YtdikhdfpcipdbaaGreatDoor.stm
