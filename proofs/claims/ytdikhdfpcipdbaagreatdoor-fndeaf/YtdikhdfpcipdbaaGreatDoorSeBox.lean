/- Senses of one's own beside a box of another type. -/
import Derived.Test.YtdikhdfpcipdbaaGreatDoorSeCopy
namespace Go.Proofs.YtdikhdfpcipdbaaGreatDoor.se
open Go.ChangeShapes Go.WideShapes Go.ChangeAt Go.RowKit
open Go.Proofs.YtdikhdfpcipdbaaGreatDoor.nums Go.Proofs.YtdikhdfpcipdbaaGreatDoor.mem
open Go.Proofs.YtdikhdfpcipdbaaGreatDoor.tab (Ret)
open Go.Proofs.YtdikhdfpcipdbaaGreatDoor.rd (R okR ageR zR rx ra ro OwnR)
open Go.Proofs.YtdikhdfpcipdbaaGreatDoor.il (nth Ints Own)
set_option linter.unusedVariables false

/-- Its own blocks are none of senses' own. -/
theorem OwnS.nbox {b : Nat} {w : World} {s : S} {p : P} (h : OwnS b w s p) {g : Nat} {t : TypeId} {cs : Array Value} (k : Has w g t cs) (ht : t ≠ 42) (ht' : t ≠ 2) : ∀ c, blkS s p c → c ≠ g := by
  have key : ∀ {a : Option Addr} {l : List R}, OwnR w a l → ∀ x : Addr, a = some x → x.block ≠ g := by
    intro a l o x e eg
    rcases o with ⟨o, _⟩ | ⟨g', cs', o, hc, _⟩
    · rw [o] at e; cases e
    · rw [o] at e; injection e with e; subst e
      have e2 : g' = g := eg
      subst e2
      have := hc.symm.trans k
      simp at this
      exact ht this.2.symm
  rintro c (⟨x, e, rfl⟩ | ⟨x, e, rfl⟩ | ⟨x, e, rfl⟩ | e) eg
  · exact key h.sp x e eg
  · exact key h.he x e eg
  · exact key h.fa x e eg
  · subst eg; exact h.sq.ne k ht' e.symm
theorem OwnS.boxed {b : Nat} {w : World} {s : S} {p : P} (h : OwnS b w s p) {g : Nat} {x0 x1 x2 x3 x4 x5 : Value} (k : Has w g 27 #[x0, x1, x2, x3, x4, x5]) (u0 u1 u2 u3 u4 u5 : Value) :
    OwnS b ((((((w.setCell ⟨g, 0, none⟩ u0).setCell ⟨g, 1, none⟩ u1).setCell ⟨g, 2, none⟩ u2).setCell ⟨g, 3, none⟩ u3).setCell ⟨g, 4, none⟩ u4).setCell ⟨g, 5, none⟩ u5) s p := by
  have n1 : (27 : TypeId) ≠ 42 := by decide
  have n2 : (27 : TypeId) ≠ 2 := by decide
  have h0 := h.set g 0 u0 (h.nbox k n1 n2)
  have k0 := k.put 0 u0 rfl
  have h1 := h0.set g 1 u1 (h0.nbox k0 n1 n2)
  have k1 := k0.put 1 u1 rfl
  have h2 := h1.set g 2 u2 (h1.nbox k1 n1 n2)
  have k2 := k1.put 2 u2 rfl
  have h3 := h2.set g 3 u3 (h2.nbox k2 n1 n2)
  have k3 := k2.put 3 u3 rfl
  have h4 := h3.set g 4 u4 (h3.nbox k3 n1 n2)
  have k4 := k3.put 4 u4 rfl
  exact h4.set g 5 u5 (h4.nbox k4 n1 n2)
end Go.Proofs.YtdikhdfpcipdbaaGreatDoor.se
