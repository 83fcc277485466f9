/- What the listed variable's condition gives: the six rows of two weights; and a demand that came in. Slewed of the program. Chapter 16 on plain brains; brains in memory. A brain of one's own stands where blocks ahead of it change. -/
import Derived.Test.YtdikhdfpcipdbaaGreatDoorG18
import Derived.Lib.LaidTab
import Derived.Lib.LaidU8
import Derived.Deep.Strs
import Derived.Deep.DeepCutAuto
import Derived.Test.YtdikhdfpcipdbaaGreatDoorG19
import Derived.Test.YtdikhdfpcipdbaaGreatDoorG13
import Derived.Laws.CopyOwn
import Derived.Test.YtdikhdfpcipdbaaGreatDoorG4
import Derived.Test.YtdikhdfpcipdbaaGreatDoorG14
import Derived.Test.YtdikhdfpcipdbaaGreatDoorG17
/- What the listed variable's condition gives: the six rows of two weights; and a demand that came in. -/
namespace Go.Proofs.YtdikhdfpcipdbaaGreatDoor.sh
open Go.ChangeShapes Go.WideShapes Go.ChangeAt Go.RowKit
open Go.Proofs.YtdikhdfpcipdbaaGreatDoor.mem
open Go.Proofs.YtdikhdfpcipdbaaGreatDoor.tab (Ret)
set_option linter.unusedVariables false

/-- A demand comes back; of what was there nothing is another. -/
def RetD (l r p : Int) (w : World) (e : Ending) (w' : World) : Prop := e = .returned (dem l r p) ∧ w.grownBy w' none

end Go.Proofs.YtdikhdfpcipdbaaGreatDoor.sh

/- Slewed of the program. -/
namespace Go.Proofs.YtdikhdfpcipdbaaGreatDoor.bl
open Go.ChangeShapes Go.WideShapes Go.ChangeAt Go.RowKit
open Go.Proofs.YtdikhdfpcipdbaaGreatDoor.nums Go.Proofs.YtdikhdfpcipdbaaGreatDoor.mem
open Go.Proofs.YtdikhdfpcipdbaaGreatDoor.fix (ret_int ret_bool)
open Go.Proofs.YtdikhdfpcipdbaaGreatDoor.tab (Ret quiet_w)
open Go.Proofs.YtdikhdfpcipdbaaGreatDoor.il (nth Ints vals RetT OwnT blk blk_some blk_nil)
set_option linter.unusedVariables false

def okO (n : Int) : Bool := inb n 0 1000
theorem ok_bd {n : Int} (h : okO n = true) : 0 ≤ n ∧ n ≤ 1000 := by unfold okO inb at h; simpa using h
theorem all_not (l : List Int) (k : Nat) (h : k < l.length) (hs : okO (nth l k) = false) : l.all okO = false := by
  rw [List.all_eq_false]
  exact ⟨nth l k, il.nth_mem h, by rw [hs]; simp⟩
theorem all_of {l : List Int} (h : ∀ j, j < l.length → okO (nth l j) = true) : l.all okO = true := by
  rw [List.all_eq_true]
  intro x hx
  obtain ⟨j, hj, rfl⟩ := List.getElem_of_mem hx
  rw [← il.nth_lt hj]; exact h j hj
theorem all_at {l : List Int} (h : l.all okO = true) {k : Nat} (hk : k < l.length) : okO (nth l k) = true := List.all_eq_true.1 h _ (il.nth_mem hk)
def okA (l : List Int) : Bool := decide (l.length ≤ 7) && l.all okO
/-- Both are Outs, and as many. -/
def okAB (x y : List Int) : Bool := decide (x.length = y.length) && (okA x && okA y)
def slewTo (x y : List Int) (s : Int) (k : Nat) : List Int := (List.range k).map fun j => one (nth x j) (nth y j) s
/-- What is slewed. -/
def slew (x y : List Int) (s : Int) : List Int := if okAB x y = true then slewTo x y s x.length else []
theorem slew_no {x y : List Int} (h : okAB x y = false) (s : Int) : slew x y s = [] := by unfold slew; rw [h]; rfl
theorem slew_yes {x y : List Int} (h : okAB x y = true) (s : Int) : slew x y s = slewTo x y s x.length := if_pos h
theorem to_len (x y : List Int) (s : Int) (k : Nat) : (slewTo x y s k).length = k := by simp [slewTo]
theorem to_at {x y : List Int} {s : Int} {k j : Nat} (h : j < k) : nth (slewTo x y s k) j = one (nth x j) (nth y j) s := by
  rw [il.nth_lt (by rw [to_len]; exact h)]; simp [slewTo]
theorem to_succ (x y : List Int) (s : Int) (k : Nat) : slewTo x y s (k + 1) = slewTo x y s k ++ [one (nth x k) (nth y k) s] := by simp [slewTo, List.range_succ]
end Go.Proofs.YtdikhdfpcipdbaaGreatDoor.bl

/- Chapter 16 on plain brains; brains in memory. -/
namespace Go.Proofs.YtdikhdfpcipdbaaGreatDoor.br
open Go.ChangeShapes Go.WideShapes Go.ChangeAt Go.RowKit
open Go.Proofs.YtdikhdfpcipdbaaGreatDoor.nums Go.Proofs.YtdikhdfpcipdbaaGreatDoor.mem
open Go.Proofs.YtdikhdfpcipdbaaGreatDoor.tab (Ret)
open Go.Proofs.YtdikhdfpcipdbaaGreatDoor.fan (F okF zF fN fO fT)
open Go.Proofs.YtdikhdfpcipdbaaGreatDoor.gt (G)
open Go.Proofs.YtdikhdfpcipdbaaGreatDoor.il (nth Ints Own)
set_option linter.unusedVariables false

/-- A brain, plain. -/
structure B where
  md : Int
  tm : Int
  fa : List F
  ga : G
  se : se.S
  ou : List Int
  ta : List UInt8
/-- Where its lists lie. -/
structure P where
  fa : Option Addr
  fc : Nat
  se : se.P
  ou : Option Addr
  oc : Nat
abbrev str (l : List UInt8) : Value := .string ⟨l.toArray⟩
abbrev cs13 (b : B) (p : P) : Array Value := #[.int .i64 b.md, .int .i64 b.tm, .slice p.fa b.fa.length p.fc, .int .i64 b.ga.1, .bool b.ga.2, .slice p.se.a1 b.se.sp.length p.se.c1, .slice p.se.a2 b.se.he.length p.se.c2, .slice p.se.a3 b.se.fa.length p.se.c3, .int .i64 b.se.wn, .bool b.se.ar, .slice p.se.a4 b.se.sq.length p.se.c4, .slice p.ou b.ou.length p.oc, str b.ta]
abbrev bv (b : B) (p : P) : Value := .agg #[.int .i64 b.md, .int .i64 b.tm, .slice p.fa b.fa.length p.fc, .int .i64 b.ga.1, .bool b.ga.2, .slice p.se.a1 b.se.sp.length p.se.c1, .slice p.se.a2 b.se.he.length p.se.c2, .slice p.se.a3 b.se.fa.length p.se.c3, .int .i64 b.se.wn, .bool b.se.ar, .slice p.se.a4 b.se.sq.length p.se.c4, .slice p.ou b.ou.length p.oc, str b.ta]
abbrev z13 : Array Value := #[.int .i64 0, .int .i64 0, .slice none 0 0, .int .i64 0, .bool false, .slice none 0 0, .slice none 0 0, .slice none 0 0, .int .i64 0, .bool false, .slice none 0 0, .slice none 0 0, .string ⟨#[]⟩]
/-- The brain can be read. -/
structure Arg (w : World) (b : B) (p : P) : Prop where
  fa : fan.Arg w p.fa b.fa
  se : se.Arg w b.se p.se
  ou : Ints w p.ou b.ou
theorem Arg.kept {w w' : World} {b : B} {p : P} (h : Arg w b p) (hg : w.grownBy w' none) : Arg w' b p := ⟨h.fa.kept hg, h.se.kept hg, h.ou.kept hg⟩
/-- A right brain. -/
structure OkB (b : B) : Prop where
  md : inb b.md 0 5 = true
  tm : inb b.tm 0 1000 = true
  fa : b.fa.all okF = true
  fa6 : b.fa.length = 6
  ga : inb b.ga.1 0 100 = true
  se : se.Ok b.se
  ou : b.ou.all bl.okO = true
  ou7 : b.ou.length = 7
  ta : b.ta.length ≤ 60
/-- A brain comes back that can be read. -/
def RetA (b : B) (w : World) (e : Ending) (w' : World) : Prop := ∃ p, e = .returned (bv b p) ∧ w.grownBy w' none ∧ Arg w' b p
/-- A brain whose lists are its own. -/
structure OwnB (z : Nat) (w : World) (b : B) (p : P) : Prop where
  fa : fan.OwnF w p.fa b.fa
  se : se.OwnS z w b.se p.se
  ou : Own w p.ou b.ou
  zf : ∀ x : Addr, p.fa = some x → z ≤ x.block
  zo : ∀ x, il.blk p.ou b.ou = some x → z ≤ x
theorem OwnB.arg {z : Nat} {w : World} {b : B} {p : P} (h : OwnB z w b p) : Arg w b p := ⟨h.fa.arg, h.se.arg, h.ou.ints⟩
theorem OwnB.kept {z : Nat} {w w' : World} {b : B} {p : P} (h : OwnB z w b p) (hg : w.grownBy w' none) : OwnB z w' b p := ⟨h.fa.kept hg, h.se.kept hg, h.ou.kept hg, h.zf, h.zo⟩
def RetO (b : B) (w : World) (e : Ending) (w' : World) : Prop := ∃ p, e = .returned (bv b p) ∧ w.grownBy w' none ∧ OwnB w.heap.size w' b p
theorem thirteen {w : World} {g : Nat} {t : TypeId} {a b c d e f h i j k l m n : Value} (H : Has w g t #[a, b, c, d, e, f, h, i, j, k, l, m, n]) :
    ((w.cell? ⟨g, 0, none⟩ = some a ∧ w.cell? ⟨g, 1, none⟩ = some b ∧ w.cell? ⟨g, 2, none⟩ = some c) ∧ (w.cell? ⟨g, 3, none⟩ = some d ∧ w.cell? ⟨g, 4, none⟩ = some e)) ∧
    (((w.cell? ⟨g, 5, none⟩ = some f ∧ w.cell? ⟨g, 6, none⟩ = some h ∧ w.cell? ⟨g, 7, none⟩ = some i) ∧ w.cell? ⟨g, 8, none⟩ = some j ∧ w.cell? ⟨g, 9, none⟩ = some k ∧ w.cell? ⟨g, 10, none⟩ = some l) ∧ w.cell? ⟨g, 11, none⟩ = some m ∧ w.cell? ⟨g, 12, none⟩ = some n) :=
  ⟨⟨⟨H.cell 0, H.cell 1, H.cell 2⟩, H.cell 3, H.cell 4⟩, ⟨⟨H.cell 5, H.cell 6, H.cell 7⟩, H.cell 8, H.cell 9, H.cell 10⟩, H.cell 11, H.cell 12⟩
theorem free13 {w : World} {g : Nat} {t : TypeId} {cs : Array Value} (H : Has w g t cs) :
    ((w.frozen? ⟨g, 0, none⟩ = false ∧ w.frozen? ⟨g, 1, none⟩ = false ∧ w.frozen? ⟨g, 2, none⟩ = false) ∧ (w.frozen? ⟨g, 3, none⟩ = false ∧ w.frozen? ⟨g, 4, none⟩ = false)) ∧
    (((w.frozen? ⟨g, 5, none⟩ = false ∧ w.frozen? ⟨g, 6, none⟩ = false ∧ w.frozen? ⟨g, 7, none⟩ = false) ∧ w.frozen? ⟨g, 8, none⟩ = false ∧ w.frozen? ⟨g, 9, none⟩ = false ∧ w.frozen? ⟨g, 10, none⟩ = false) ∧ w.frozen? ⟨g, 11, none⟩ = false ∧ w.frozen? ⟨g, 12, none⟩ = false) :=
  ⟨⟨⟨H.frozen 0, H.frozen 1, H.frozen 2⟩, H.frozen 3, H.frozen 4⟩, ⟨⟨H.frozen 5, H.frozen 6, H.frozen 7⟩, H.frozen 8, H.frozen 9, H.frozen 10⟩, H.frozen 11, H.frozen 12⟩
/-- The world behind a brain's store into a box. -/
abbrev lay13 (w : World) (g : Nat) (u0 u1 u2 u3 u4 u5 u6 u7 u8 u9 u10 u11 u12 : Value) : World := (((((((((((((w.setCell ⟨g, 0, none⟩ u0).setCell ⟨g, 1, none⟩ u1).setCell ⟨g, 2, none⟩ u2).setCell ⟨g, 3, none⟩ u3).setCell ⟨g, 4, none⟩ u4).setCell ⟨g, 5, none⟩ u5).setCell ⟨g, 6, none⟩ u6).setCell ⟨g, 7, none⟩ u7).setCell ⟨g, 8, none⟩ u8).setCell ⟨g, 9, none⟩ u9).setCell ⟨g, 10, none⟩ u10).setCell ⟨g, 11, none⟩ u11).setCell ⟨g, 12, none⟩ u12)
theorem gr_lay {a w : World} {g : Nat} (h : a.grownBy w none) (hg : a.heap.size ≤ g) (u0 u1 u2 u3 u4 u5 u6 u7 u8 u9 u10 u11 u12 : Value) : a.grownBy (lay13 w g u0 u1 u2 u3 u4 u5 u6 u7 u8 u9 u10 u11 u12) none :=
  (gr_new (gr_new (gr_new (gr_new (gr_new (gr_new (gr_new (gr_new (gr_new (gr_new (gr_new (gr_new (gr_new h hg _ _) hg _ _) hg _ _) hg _ _) hg _ _) hg _ _) hg _ _) hg _ _) hg _ _) hg _ _) hg _ _) hg _ _) hg _ _)
theorem set_lay {w : World} {g : Nat} {t : TypeId} {a b c d e f h i j k l m n : Value} (H : Has w g t #[a, b, c, d, e, f, h, i, j, k, l, m, n]) (u0 u1 u2 u3 u4 u5 u6 u7 u8 u9 u10 u11 u12 : Value) :
    Has (lay13 w g u0 u1 u2 u3 u4 u5 u6 u7 u8 u9 u10 u11 u12) g t #[u0, u1, u2, u3, u4, u5, u6, u7, u8, u9, u10, u11, u12] := by
  have h0 : Has (w.setCell ⟨g, 0, none⟩ u0) g t #[u0, b, c, d, e, f, h, i, j, k, l, m, n] := H.put 0 u0 rfl
  have h1 : Has ((w.setCell ⟨g, 0, none⟩ u0).setCell ⟨g, 1, none⟩ u1) g t #[u0, u1, c, d, e, f, h, i, j, k, l, m, n] := h0.put 1 u1 rfl
  have h2 : Has (((w.setCell ⟨g, 0, none⟩ u0).setCell ⟨g, 1, none⟩ u1).setCell ⟨g, 2, none⟩ u2) g t #[u0, u1, u2, d, e, f, h, i, j, k, l, m, n] := h1.put 2 u2 rfl
  have h3 : Has ((((w.setCell ⟨g, 0, none⟩ u0).setCell ⟨g, 1, none⟩ u1).setCell ⟨g, 2, none⟩ u2).setCell ⟨g, 3, none⟩ u3) g t #[u0, u1, u2, u3, e, f, h, i, j, k, l, m, n] := h2.put 3 u3 rfl
  have h4 : Has (((((w.setCell ⟨g, 0, none⟩ u0).setCell ⟨g, 1, none⟩ u1).setCell ⟨g, 2, none⟩ u2).setCell ⟨g, 3, none⟩ u3).setCell ⟨g, 4, none⟩ u4) g t #[u0, u1, u2, u3, u4, f, h, i, j, k, l, m, n] := h3.put 4 u4 rfl
  have h5 : Has ((((((w.setCell ⟨g, 0, none⟩ u0).setCell ⟨g, 1, none⟩ u1).setCell ⟨g, 2, none⟩ u2).setCell ⟨g, 3, none⟩ u3).setCell ⟨g, 4, none⟩ u4).setCell ⟨g, 5, none⟩ u5) g t #[u0, u1, u2, u3, u4, u5, h, i, j, k, l, m, n] := h4.put 5 u5 rfl
  have h6 : Has (((((((w.setCell ⟨g, 0, none⟩ u0).setCell ⟨g, 1, none⟩ u1).setCell ⟨g, 2, none⟩ u2).setCell ⟨g, 3, none⟩ u3).setCell ⟨g, 4, none⟩ u4).setCell ⟨g, 5, none⟩ u5).setCell ⟨g, 6, none⟩ u6) g t #[u0, u1, u2, u3, u4, u5, u6, i, j, k, l, m, n] := h5.put 6 u6 rfl
  have h7 : Has ((((((((w.setCell ⟨g, 0, none⟩ u0).setCell ⟨g, 1, none⟩ u1).setCell ⟨g, 2, none⟩ u2).setCell ⟨g, 3, none⟩ u3).setCell ⟨g, 4, none⟩ u4).setCell ⟨g, 5, none⟩ u5).setCell ⟨g, 6, none⟩ u6).setCell ⟨g, 7, none⟩ u7) g t #[u0, u1, u2, u3, u4, u5, u6, u7, j, k, l, m, n] := h6.put 7 u7 rfl
  have h8 : Has (((((((((w.setCell ⟨g, 0, none⟩ u0).setCell ⟨g, 1, none⟩ u1).setCell ⟨g, 2, none⟩ u2).setCell ⟨g, 3, none⟩ u3).setCell ⟨g, 4, none⟩ u4).setCell ⟨g, 5, none⟩ u5).setCell ⟨g, 6, none⟩ u6).setCell ⟨g, 7, none⟩ u7).setCell ⟨g, 8, none⟩ u8) g t #[u0, u1, u2, u3, u4, u5, u6, u7, u8, k, l, m, n] := h7.put 8 u8 rfl
  have h9 : Has ((((((((((w.setCell ⟨g, 0, none⟩ u0).setCell ⟨g, 1, none⟩ u1).setCell ⟨g, 2, none⟩ u2).setCell ⟨g, 3, none⟩ u3).setCell ⟨g, 4, none⟩ u4).setCell ⟨g, 5, none⟩ u5).setCell ⟨g, 6, none⟩ u6).setCell ⟨g, 7, none⟩ u7).setCell ⟨g, 8, none⟩ u8).setCell ⟨g, 9, none⟩ u9) g t #[u0, u1, u2, u3, u4, u5, u6, u7, u8, u9, l, m, n] := h8.put 9 u9 rfl
  have h10 : Has (((((((((((w.setCell ⟨g, 0, none⟩ u0).setCell ⟨g, 1, none⟩ u1).setCell ⟨g, 2, none⟩ u2).setCell ⟨g, 3, none⟩ u3).setCell ⟨g, 4, none⟩ u4).setCell ⟨g, 5, none⟩ u5).setCell ⟨g, 6, none⟩ u6).setCell ⟨g, 7, none⟩ u7).setCell ⟨g, 8, none⟩ u8).setCell ⟨g, 9, none⟩ u9).setCell ⟨g, 10, none⟩ u10) g t #[u0, u1, u2, u3, u4, u5, u6, u7, u8, u9, u10, m, n] := h9.put 10 u10 rfl
  have h11 : Has ((((((((((((w.setCell ⟨g, 0, none⟩ u0).setCell ⟨g, 1, none⟩ u1).setCell ⟨g, 2, none⟩ u2).setCell ⟨g, 3, none⟩ u3).setCell ⟨g, 4, none⟩ u4).setCell ⟨g, 5, none⟩ u5).setCell ⟨g, 6, none⟩ u6).setCell ⟨g, 7, none⟩ u7).setCell ⟨g, 8, none⟩ u8).setCell ⟨g, 9, none⟩ u9).setCell ⟨g, 10, none⟩ u10).setCell ⟨g, 11, none⟩ u11) g t #[u0, u1, u2, u3, u4, u5, u6, u7, u8, u9, u10, u11, n] := h10.put 11 u11 rfl
  have h12 : Has (((((((((((((w.setCell ⟨g, 0, none⟩ u0).setCell ⟨g, 1, none⟩ u1).setCell ⟨g, 2, none⟩ u2).setCell ⟨g, 3, none⟩ u3).setCell ⟨g, 4, none⟩ u4).setCell ⟨g, 5, none⟩ u5).setCell ⟨g, 6, none⟩ u6).setCell ⟨g, 7, none⟩ u7).setCell ⟨g, 8, none⟩ u8).setCell ⟨g, 9, none⟩ u9).setCell ⟨g, 10, none⟩ u10).setCell ⟨g, 11, none⟩ u11).setCell ⟨g, 12, none⟩ u12) g t #[u0, u1, u2, u3, u4, u5, u6, u7, u8, u9, u10, u11, u12] := h11.put 12 u12 rfl
  exact h12
theorem chg_lay (w : World) (g : Nat) (u0 u1 u2 u3 u4 u5 u6 u7 u8 u9 u10 u11 u12 : Value) : w.grownBy (lay13 w g u0 u1 u2 u3 u4 u5 u6 u7 u8 u9 u10 u11 u12) (some g) := (gr_set (gr_set (gr_set (gr_set (gr_set (gr_set (gr_set (gr_set (gr_set (gr_set (gr_set (gr_set (gr_set (gr_refl w (some g)) _ _) _ _) _ _) _ _) _ _) _ _) _ _) _ _) _ _) _ _) _ _) _ _) _ _)
theorem other_lay {w : World} {g b : Nat} {t : TypeId} {cs : Array Value} (H : Has w b t cs) (hn : b ≠ g) (u0 u1 u2 u3 u4 u5 u6 u7 u8 u9 u10 u11 u12 : Value) : Has (lay13 w g u0 u1 u2 u3 u4 u5 u6 u7 u8 u9 u10 u11 u12) b t cs := H.grown (chg_lay w g u0 u1 u2 u3 u4 u5 u6 u7 u8 u9 u10 u11 u12) (by simpa using hn)
theorem put0 {w : World} {g : Nat} {t : TypeId} {a b c d e f h i j k l m n : Value} (H : Has w g t #[a, b, c, d, e, f, h, i, j, k, l, m, n]) (u : Value) : Has (w.setCell ⟨g, 0, none⟩ u) g t #[u, b, c, d, e, f, h, i, j, k, l, m, n] := H.put 0 u rfl
theorem put1 {w : World} {g : Nat} {t : TypeId} {a b c d e f h i j k l m n : Value} (H : Has w g t #[a, b, c, d, e, f, h, i, j, k, l, m, n]) (u : Value) : Has (w.setCell ⟨g, 1, none⟩ u) g t #[a, u, c, d, e, f, h, i, j, k, l, m, n] := H.put 1 u rfl
theorem put2 {w : World} {g : Nat} {t : TypeId} {a b c d e f h i j k l m n : Value} (H : Has w g t #[a, b, c, d, e, f, h, i, j, k, l, m, n]) (u : Value) : Has (w.setCell ⟨g, 2, none⟩ u) g t #[a, b, u, d, e, f, h, i, j, k, l, m, n] := H.put 2 u rfl
theorem put3 {w : World} {g : Nat} {t : TypeId} {a b c d e f h i j k l m n : Value} (H : Has w g t #[a, b, c, d, e, f, h, i, j, k, l, m, n]) (u : Value) : Has (w.setCell ⟨g, 3, none⟩ u) g t #[a, b, c, u, e, f, h, i, j, k, l, m, n] := H.put 3 u rfl
theorem put4 {w : World} {g : Nat} {t : TypeId} {a b c d e f h i j k l m n : Value} (H : Has w g t #[a, b, c, d, e, f, h, i, j, k, l, m, n]) (u : Value) : Has (w.setCell ⟨g, 4, none⟩ u) g t #[a, b, c, d, u, f, h, i, j, k, l, m, n] := H.put 4 u rfl
theorem put5 {w : World} {g : Nat} {t : TypeId} {a b c d e f h i j k l m n : Value} (H : Has w g t #[a, b, c, d, e, f, h, i, j, k, l, m, n]) (u : Value) : Has (w.setCell ⟨g, 5, none⟩ u) g t #[a, b, c, d, e, u, h, i, j, k, l, m, n] := H.put 5 u rfl
theorem put6 {w : World} {g : Nat} {t : TypeId} {a b c d e f h i j k l m n : Value} (H : Has w g t #[a, b, c, d, e, f, h, i, j, k, l, m, n]) (u : Value) : Has (w.setCell ⟨g, 6, none⟩ u) g t #[a, b, c, d, e, f, u, i, j, k, l, m, n] := H.put 6 u rfl
theorem put7 {w : World} {g : Nat} {t : TypeId} {a b c d e f h i j k l m n : Value} (H : Has w g t #[a, b, c, d, e, f, h, i, j, k, l, m, n]) (u : Value) : Has (w.setCell ⟨g, 7, none⟩ u) g t #[a, b, c, d, e, f, h, u, j, k, l, m, n] := H.put 7 u rfl
theorem put8 {w : World} {g : Nat} {t : TypeId} {a b c d e f h i j k l m n : Value} (H : Has w g t #[a, b, c, d, e, f, h, i, j, k, l, m, n]) (u : Value) : Has (w.setCell ⟨g, 8, none⟩ u) g t #[a, b, c, d, e, f, h, i, u, k, l, m, n] := H.put 8 u rfl
theorem put9 {w : World} {g : Nat} {t : TypeId} {a b c d e f h i j k l m n : Value} (H : Has w g t #[a, b, c, d, e, f, h, i, j, k, l, m, n]) (u : Value) : Has (w.setCell ⟨g, 9, none⟩ u) g t #[a, b, c, d, e, f, h, i, j, u, l, m, n] := H.put 9 u rfl
theorem put10 {w : World} {g : Nat} {t : TypeId} {a b c d e f h i j k l m n : Value} (H : Has w g t #[a, b, c, d, e, f, h, i, j, k, l, m, n]) (u : Value) : Has (w.setCell ⟨g, 10, none⟩ u) g t #[a, b, c, d, e, f, h, i, j, k, u, m, n] := H.put 10 u rfl
theorem put11 {w : World} {g : Nat} {t : TypeId} {a b c d e f h i j k l m n : Value} (H : Has w g t #[a, b, c, d, e, f, h, i, j, k, l, m, n]) (u : Value) : Has (w.setCell ⟨g, 11, none⟩ u) g t #[a, b, c, d, e, f, h, i, j, k, l, u, n] := H.put 11 u rfl
theorem put12 {w : World} {g : Nat} {t : TypeId} {a b c d e f h i j k l m n : Value} (H : Has w g t #[a, b, c, d, e, f, h, i, j, k, l, m, n]) (u : Value) : Has (w.setCell ⟨g, 12, none⟩ u) g t #[a, b, c, d, e, f, h, i, j, k, l, m, u] := H.put 12 u rfl
/-- A block of another type is none of its own. -/
theorem OwnB.far {z : Nat} {w : World} {b : B} {p : P} (h : OwnB z w b p) {g : Nat} {t : TypeId} {cs : Array Value} (k : Has w g t cs) (h1 : t ≠ 42) (h2 : t ≠ 2) (h3 : t ≠ 189) {w' : World} (hg : w.grownBy w' (some g)) : OwnB z w' b p := by
  refine ⟨h.fa.grown hg (fun x e => ?_), h.se.chg (T := fun c => c = g) (se.chg_of_gr hg (fun b e => by injection e)) (h.se.nbox k h1 h2), h.ou.grown hg (fun x e => ?_), h.zf, h.zo⟩
  · rcases h.fa with ⟨e1, _⟩ | ⟨g', cs', e1, hc, _⟩
    · rw [e1] at e; cases e
    · rw [e1] at e; injection e with e; subst e
      intro e2
      have e3 : g' = g := by injection e2
      subst e3
      have := hc.symm.trans k
      simp at this
      exact h3 this.2.symm
  · intro e2
    have e3 : x = g := by injection e2
    subst e3
    exact h.ou.ne k h2 e.symm
end Go.Proofs.YtdikhdfpcipdbaaGreatDoor.br

/- A brain of one's own stands where blocks ahead of it change. -/
namespace Go.Proofs.YtdikhdfpcipdbaaGreatDoor.br
open Go.Proofs.YtdikhdfpcipdbaaGreatDoor.nums Go.Proofs.YtdikhdfpcipdbaaGreatDoor.mem
open Go.Proofs.YtdikhdfpcipdbaaGreatDoor.il (nth Ints Own)
set_option linter.unusedVariables false

/-- Blocks ahead of its own may change. -/
theorem OwnB.low {z : Nat} {w w' : World} {b : B} {p : P} (h : OwnB z w b p) {g : Nat} (hg : w.grownBy w' (some g)) (hlt : g < z) : OwnB z w' b p := by
  refine ⟨h.fa.grown hg (fun x e => ?_), h.se.chg (T := fun c => c = g) (se.chg_of_gr hg (fun b e => by injection e)) (fun c hc => ?_), h.ou.grown hg (fun x e => ?_), h.zf, h.zo⟩
  · have := h.zf x e
    intro e2
    have e3 : x.block = g := by injection e2
    omega
  · intro e2
    have e2 : c = g := e2
    rcases hc with ⟨x, e, e3⟩ | ⟨x, e, e3⟩ | ⟨x, e, e3⟩ | e
    · have := h.se.b1 x e; omega
    · have := h.se.b2 x e; omega
    · have := h.se.b3 x e; omega
    · have := h.se.b4 c e; omega
  · have := h.zo x e
    intro e2
    have e3 : x = g := by injection e2
    omega
end Go.Proofs.YtdikhdfpcipdbaaGreatDoor.br

