/- Senses of one's own while they are drawn: what is laid in them anew. -/
import Derived.Test.YtdikhdfpcipdbaaGreatDoorSeStep
import Derived.Test.YtdikhdfpcipdbaaGreatDoorSeCopS
import Derived.Test.YtdikhdfpcipdbaaGreatDoorRdDraw2
namespace Go.Proofs.YtdikhdfpcipdbaaGreatDoor.se
open Go.ChangeShapes Go.WideShapes Go.ChangeAt Go.RowKit
open Go.Proofs.YtdikhdfpcipdbaaGreatDoor.nums Go.Proofs.YtdikhdfpcipdbaaGreatDoor.mem
open Go.Proofs.YtdikhdfpcipdbaaGreatDoor.tab (Ret)
open Go.Proofs.YtdikhdfpcipdbaaGreatDoor.rd (R okR ageR zR rx ra ro OwnR rowR)
open Go.Proofs.YtdikhdfpcipdbaaGreatDoor.il (nth Ints Own)
set_option linter.unusedVariables false

theorem OwnS.low {b : Nat} {w w' : World} {s : S} {p : P} (h : OwnS b w s p) {g : Nat} (hg : w.grownBy w' (some g)) (hlt : g < b) : OwnS b w' s p :=
  h.chg (chg_of_gr (S := fun i => i = g) hg (fun i e => by injection e)) (fun c hc e => by have := (h.lt hc).1; omega)
theorem OwnS.lay1 {b : Nat} {w : World} {s : S} {p : P} (h : OwnS b w s p) {g cap : Nat} {l : List R} (o : OwnR w (some ⟨g, 0, none⟩) l) (hb : b ≤ g) (hn : ∀ c, blkS s p c → c ≠ g) : OwnS b w ⟨l, s.he, s.fa, s.wn, s.ar, s.sq⟩ ⟨some ⟨g, 0, none⟩, cap, p.a2, p.c2, p.a3, p.c3, p.a4, p.c4⟩ :=
  ⟨o, h.he, h.fa, h.sq, fun x e => by cases e; exact hb, h.b2, h.b3, h.b4,
    fun x y ex ey => by cases ex; exact fun e => hn y.block (Or.inr (Or.inl ⟨y, ey, rfl⟩)) e.symm,
    fun x y ex ey => by cases ex; exact fun e => hn y.block (Or.inr (Or.inr (Or.inl ⟨y, ey, rfl⟩))) e.symm, h.d23⟩
theorem OwnS.lay2 {b : Nat} {w : World} {s : S} {p : P} (h : OwnS b w s p) {g cap : Nat} {l : List R} (o : OwnR w (some ⟨g, 0, none⟩) l) (hb : b ≤ g) (hn : ∀ c, blkS s p c → c ≠ g) : OwnS b w ⟨s.sp, l, s.fa, s.wn, s.ar, s.sq⟩ ⟨p.a1, p.c1, some ⟨g, 0, none⟩, cap, p.a3, p.c3, p.a4, p.c4⟩ :=
  ⟨h.sp, o, h.fa, h.sq, h.b1, fun x e => by cases e; exact hb, h.b3, h.b4,
    fun x y ex ey => by cases ey; exact fun e => hn x.block (Or.inl ⟨x, ex, rfl⟩) e, h.d13,
    fun x y ex ey => by cases ex; exact fun e => hn y.block (Or.inr (Or.inr (Or.inl ⟨y, ey, rfl⟩))) e.symm⟩
theorem OwnS.want {b : Nat} {w : World} {s : S} {p : P} (h : OwnS b w s p) (v : Int) : OwnS b w ⟨s.sp, s.he, s.fa, v, s.ar, s.sq⟩ p := ⟨h.sp, h.he, h.fa, h.sq, h.b1, h.b2, h.b3, h.b4, h.d12, h.d13, h.d23⟩
theorem own_take {w : World} {a : Option Addr} {l : List R} (h : OwnR w a l) (n : Nat) : OwnR w a (l.take n) := by
  rcases h with ⟨h1, h2⟩ | ⟨g, cs, h1, h2, h3⟩
  · exact Or.inl ⟨h1, by rw [h2]; simp⟩
  · refine Or.inr ⟨g, cs, h1, h2, fun k hk => ?_⟩
    have hk2 : k < n ∧ k < l.length := by simp at hk; omega
    have e : (l.take n).getD k zR = l.getD k zR := by simp [List.getD, hk2.1]
    have := h3 k hk2.2
    simpa only [rx, ra, ro, e] using this
theorem OwnS.cut {b : Nat} {w : World} {s : S} {p : P} (h : OwnS b w s p) (n : Nat) : OwnS b w ⟨s.sp, s.he, s.fa.take n, s.wn, s.ar, s.sq⟩ p := ⟨h.sp, h.he, own_take h.fa n, h.sq, h.b1, h.b2, h.b3, h.b4, h.d12, h.d13, h.d23⟩
/-- A row that was drawn is not one of these blocks. -/
theorem OwnS.far {b : Nat} {w : World} {s : S} {p : P} (h : OwnS b w s p) {g : Nat} (hg : w.heap.size ≤ g) : ∀ c, blkS s p c → c ≠ g := fun c hc e => by have := (h.lt hc).2; omega
/-- How many there are of each. -/
structure Len (s : S) (p : P) : Prop where
  sp : s.sp.length = 3
  he : s.he.length = 2
  fa : s.fa.length = 6
  sq : s.sq.length = 4
  c1 : 6 ≤ p.c3
  c2 : p.c3 ≤ maxLen
/-- Senses are drawn from the cursor in block q. -/
def DrawnS (b : Option Addr) (n c : Nat) (w : World) (q : Nat) (e : Ending) (w' : World) : Prop :=
  ∃ s p, e = .returned (sv s p) ∧ w.grownBy w' (some q) ∧ OwnS w.heap.size w' s p ∧ cur.Cur b n c w' q ∧ s.sp.length = 3 ∧ s.he.length = 2 ∧ s.fa.length ≤ 6 ∧ s.sq.length = 4
end Go.Proofs.YtdikhdfpcipdbaaGreatDoor.se
