/- Chapter 15 on plain senses; senses in memory. -/
import Derived.Test.YtdikhdfpcipdbaaGreatDoorRdAll
import Derived.Test.YtdikhdfpcipdbaaGreatDoorRdMark
import Derived.Test.YtdikhdfpcipdbaaGreatDoorIl

namespace Go.Proofs.YtdikhdfpcipdbaaGreatDoor.se
open Go.ChangeShapes Go.WideShapes Go.ChangeAt Go.RowKit
open Go.Proofs.YtdikhdfpcipdbaaGreatDoor.nums Go.Proofs.YtdikhdfpcipdbaaGreatDoor.mem
open Go.Proofs.YtdikhdfpcipdbaaGreatDoor.tab (Ret)
open Go.Proofs.YtdikhdfpcipdbaaGreatDoor.rd (R okR ageR zR rx ra ro rx_map getD_lt OwnR)
open Go.Proofs.YtdikhdfpcipdbaaGreatDoor.il (nth Ints Own)
set_option linter.unusedVariables false

/-- Senses, plain. -/
structure S where
  sp : List R
  he : List R
  fa : List R
  wn : Int
  ar : Bool
  sq : List Int
def zS : S := ⟨[], [], [], 0, false, []⟩
def okQ (n : Int) : Bool := inb n (-1) 99
def okL (l : List R) (n : Nat) : Bool := l.all okR && decide (l.length = n)
def okQs (l : List Int) : Bool := l.all okQ && decide (l.length = 4)
def ok (s : S) : Bool := okL s.sp 3 && (okL s.he 2 && (okL s.fa 6 && (inb s.wn 0 2 && okQs s.sq)))
theorem okL_iff {l : List R} {n : Nat} : okL l n = true ↔ l.all okR = true ∧ l.length = n := by simp [okL]
theorem okQs_iff {l : List Int} : okQs l = true ↔ l.all okQ = true ∧ l.length = 4 := by simp [okQs]
structure Ok (s : S) : Prop where
  sp : s.sp.all okR = true
  sp3 : s.sp.length = 3
  he : s.he.all okR = true
  he2 : s.he.length = 2
  fa : s.fa.all okR = true
  fa6 : s.fa.length = 6
  wn : inb s.wn 0 2 = true
  sq : s.sq.all okQ = true
  sq4 : s.sq.length = 4
theorem ok_iff {s : S} : ok s = true ↔ Ok s := by
  constructor
  · intro h
    simp only [ok, Bool.and_eq_true, okL_iff, okQs_iff] at h
    obtain ⟨⟨a, b⟩, ⟨c, d⟩, ⟨e, f⟩, g, i, j⟩ := h
    exact ⟨a, b, c, d, e, f, g, i, j⟩
  · intro ⟨a, b, c, d, e, f, g, i, j⟩
    simp only [ok, Bool.and_eq_true, okL_iff, okQs_iff]
    exact ⟨⟨a, b⟩, ⟨c, d⟩, ⟨e, f⟩, g, i, j⟩

/-- The program's table of how many values a kind has. -/
def Vals (w : World) : Prop := 0 < w.heap.size ∧ ∀ i, i < 5 → w.cell? ⟨0, i, none⟩ = some (.int .i64 (nth [0, 3, 2, 6, 2] i))
theorem Vals.kept {w w' : World} (h : Vals w) (hg : w.grownBy w' none) : Vals w' :=
  ⟨Nat.lt_of_lt_of_le h.1 hg.size, fun i hi => (World.cell?_of_block (hg.block _ h.1 (by simp))).trans (h.2 i hi)⟩
theorem Vals.three {w : World} (h : Vals w) : w.cell? ⟨0, 1, none⟩ = some (.int .i64 3) ∧ w.cell? ⟨0, 2, none⟩ = some (.int .i64 2) ∧ w.cell? ⟨0, 3, none⟩ = some (.int .i64 6) :=
  ⟨h.2 1 (by omega), h.2 2 (by omega), h.2 3 (by omega)⟩

/-- Where the four lists lie. -/
structure P where
  a1 : Option Addr
  c1 : Nat
  a2 : Option Addr
  c2 : Nat
  a3 : Option Addr
  c3 : Nat
  a4 : Option Addr
  c4 : Nat
abbrev cs6 (s : S) (p : P) : Array Value := #[.slice p.a1 s.sp.length p.c1, .slice p.a2 s.he.length p.c2, .slice p.a3 s.fa.length p.c3, .int .i64 s.wn, .bool s.ar, .slice p.a4 s.sq.length p.c4]
abbrev sv (s : S) (p : P) : Value := .agg #[.slice p.a1 s.sp.length p.c1, .slice p.a2 s.he.length p.c2, .slice p.a3 s.fa.length p.c3, .int .i64 s.wn, .bool s.ar, .slice p.a4 s.sq.length p.c4]
/-- The senses can be read. -/
structure Arg (w : World) (s : S) (p : P) : Prop where
  sp : rd.Arg w p.a1 s.sp
  he : rd.Arg w p.a2 s.he
  fa : rd.Arg w p.a3 s.fa
  sq : Ints w p.a4 s.sq
theorem Arg.kept {w w' : World} {s : S} {p : P} (h : Arg w s p) (hg : w.grownBy w' none) : Arg w' s p := ⟨h.sp.kept hg, h.he.kept hg, h.fa.kept hg, h.sq.kept hg⟩
/-- The senses lie in four blocks of their own, none older than b. -/
structure OwnS (b : Nat) (w : World) (s : S) (p : P) : Prop where
  sp : OwnR w p.a1 s.sp
  he : OwnR w p.a2 s.he
  fa : OwnR w p.a3 s.fa
  sq : Own w p.a4 s.sq
  b1 : ∀ x : Addr, p.a1 = some x → b ≤ x.block
  b2 : ∀ x : Addr, p.a2 = some x → b ≤ x.block
  b3 : ∀ x : Addr, p.a3 = some x → b ≤ x.block
  b4 : ∀ x, il.blk p.a4 s.sq = some x → b ≤ x
  d12 : ∀ x y : Addr, p.a1 = some x → p.a2 = some y → x.block ≠ y.block
  d13 : ∀ x y : Addr, p.a1 = some x → p.a3 = some y → x.block ≠ y.block
  d23 : ∀ x y : Addr, p.a2 = some x → p.a3 = some y → x.block ≠ y.block
theorem OwnS.arg {b : Nat} {w : World} {s : S} {p : P} (h : OwnS b w s p) : Arg w s p := ⟨h.sp.arg, h.he.arg, h.fa.arg, h.sq.ints⟩
theorem OwnS.kept {b : Nat} {w w' : World} {s : S} {p : P} (h : OwnS b w s p) (hg : w.grownBy w' none) : OwnS b w' s p :=
  ⟨h.sp.kept hg, h.he.kept hg, h.fa.kept hg, h.sq.kept hg, h.b1, h.b2, h.b3, h.b4, h.d12, h.d13, h.d23⟩
theorem OwnS.below {b c : Nat} {w : World} {s : S} {p : P} (h : OwnS b w s p) (hc : c ≤ b) : OwnS c w s p :=
  ⟨h.sp, h.he, h.fa, h.sq, fun x e => Nat.le_trans hc (h.b1 x e), fun x e => Nat.le_trans hc (h.b2 x e), fun x e => Nat.le_trans hc (h.b3 x e), fun x e => Nat.le_trans hc (h.b4 x e), h.d12, h.d13, h.d23⟩
/-- One of its blocks. -/
def blkS (s : S) (p : P) (b : Nat) : Prop := (∃ x : Addr, p.a1 = some x ∧ x.block = b) ∨ (∃ x : Addr, p.a2 = some x ∧ x.block = b) ∨ (∃ x : Addr, p.a3 = some x ∧ x.block = b) ∨ il.blk p.a4 s.sq = some b
theorem OwnS.lt {b : Nat} {w : World} {s : S} {p : P} (h : OwnS b w s p) {c : Nat} (hc : blkS s p c) : b ≤ c ∧ c < w.heap.size := by
  rcases hc with ⟨x, e, rfl⟩ | ⟨x, e, rfl⟩ | ⟨x, e, rfl⟩ | e
  · exact ⟨h.b1 x e, h.sp.lt e⟩
  · exact ⟨h.b2 x e, h.he.lt e⟩
  · exact ⟨h.b3 x e, h.fa.lt e⟩
  · exact ⟨h.b4 _ e, h.sq.lt e⟩
/-- Of what was there nothing is another but in these blocks. -/
structure Chg (S : Nat → Prop) (w w' : World) : Prop where
  os : w'.os = w.os
  tape : w'.tape = w.tape
  output : w'.output = w.output
  size : w.heap.size ≤ w'.heap.size
  block : ∀ k : Nat, k < w.heap.size → ¬ S k → w'.heap[k]? = w.heap[k]?
theorem chg_of_gr {w w' : World} {row : Option Nat} {S : Nat → Prop} (h : w.grownBy w' row) (hS : ∀ b, some b = row → S b) : Chg S w w' := ⟨h.os, h.tape, h.output, h.size, fun b hb hn => h.block b hb (fun e => hn (hS b e))⟩
theorem Chg.trans {S : Nat → Prop} {a b c : World} (h : Chg S a b) (k : Chg S b c) : Chg S a c :=
  ⟨k.os.trans h.os, k.tape.trans h.tape, k.output.trans h.output, Nat.le_trans h.size k.size, fun i hi hn => (k.block i (Nat.lt_of_lt_of_le hi h.size) hn).trans (h.block i hi hn)⟩
theorem Chg.gr {S : Nat → Prop} {a b c : World} (h : a.grownBy b none) (k : Chg S b c) (hS : ∀ i, S i → a.heap.size ≤ i) : a.grownBy c none :=
  ⟨k.os.trans h.os, k.tape.trans h.tape, k.output.trans h.output, Nat.le_trans h.size k.size, fun i hi _ => (k.block i (Nat.lt_of_lt_of_le hi h.size) (fun hs => by have := hS i hs; omega)).trans (h.block i hi (by simp))⟩
theorem Chg.has {S : Nat → Prop} {w w' : World} {g : Nat} {t : TypeId} {cs : Array Value} (h : Chg S w w') (H : Has w g t cs) (hn : ¬ S g) : Has w' g t cs := H.same (h.block g H.lt hn)
/-- Senses come back in memory of their own. -/
def RetS (s : S) (w : World) (e : Ending) (w' : World) : Prop := ∃ p, e = .returned (sv s p) ∧ w.grownBy w' none ∧ OwnS w.heap.size w' s p
/-- Senses come back that can be read. -/
def RetA (s : S) (w : World) (e : Ending) (w' : World) : Prop := ∃ p, e = .returned (sv s p) ∧ w.grownBy w' none ∧ Arg w' s p
theorem RetS.a {s : S} {w w' : World} {e : Ending} (h : RetS s w e w') : RetA s w e w' := by
  obtain ⟨p, he, hg, ho⟩ := h
  exact ⟨p, he, hg, ho.arg⟩
def zP : P := ⟨none, 0, none, 0, none, 0, none, 0⟩
theorem own_zero (w : World) : OwnS w.heap.size w zS zP :=
  ⟨Or.inl ⟨rfl, rfl⟩, Or.inl ⟨rfl, rfl⟩, Or.inl ⟨rfl, rfl⟩, Or.inl rfl, (fun x e => by cases e), (fun x e => by cases e), (fun x e => by cases e), (fun x e => by rw [show il.blk zP.a4 zS.sq = none from il.blk_nil _] at e; cases e), (fun x y e => by cases e), (fun x y e => by cases e), (fun x y e => by cases e)⟩
end Go.Proofs.YtdikhdfpcipdbaaGreatDoor.se
