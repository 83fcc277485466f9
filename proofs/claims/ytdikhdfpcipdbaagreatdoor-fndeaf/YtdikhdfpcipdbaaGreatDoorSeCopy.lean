/- Senses: their bulk, copied, compared. -/
import Derived.Test.YtdikhdfpcipdbaaGreatDoorSeMark
namespace Go.Proofs.YtdikhdfpcipdbaaGreatDoor.se
open Go.ChangeShapes Go.WideShapes Go.ChangeAt Go.RowKit
open Go.Proofs.YtdikhdfpcipdbaaGreatDoor.nums Go.Proofs.YtdikhdfpcipdbaaGreatDoor.mem
open Go.Proofs.YtdikhdfpcipdbaaGreatDoor.tab (Ret)
open Go.Proofs.YtdikhdfpcipdbaaGreatDoor.rd (R okR zR OwnR)
open Go.Proofs.YtdikhdfpcipdbaaGreatDoor.il (nth Ints Own)
set_option linter.unusedVariables false

theorem gr6 {a w : World} {g : Nat} (h : a.grownBy w none) (hg : a.heap.size ≤ g) (u0 u1 u2 u3 u4 u5 : Value) :
    a.grownBy ((((((w.setCell ⟨g, 0, none⟩ u0).setCell ⟨g, 1, none⟩ u1).setCell ⟨g, 2, none⟩ u2).setCell ⟨g, 3, none⟩ u3).setCell ⟨g, 4, none⟩ u4).setCell ⟨g, 5, none⟩ u5) none :=
  gr_new (gr_new (gr_new (gr_new (gr_new (gr_new h hg _ _) hg _ _) hg _ _) hg _ _) hg _ _) hg _ _
theorem set6 {w : World} {g : Nat} {t : TypeId} {a b c d e f : Value} (k : Has w g t #[a, b, c, d, e, f]) (u0 u1 u2 u3 u4 u5 : Value) :
    Has ((((((w.setCell ⟨g, 0, none⟩ u0).setCell ⟨g, 1, none⟩ u1).setCell ⟨g, 2, none⟩ u2).setCell ⟨g, 3, none⟩ u3).setCell ⟨g, 4, none⟩ u4).setCell ⟨g, 5, none⟩ u5) g t #[u0, u1, u2, u3, u4, u5] :=
  (((((k.put 0 u0 rfl).put 1 u1 rfl).put 2 u2 rfl).put 3 u3 rfl).put 4 u4 rfl).put 5 u5 rfl
/-- A store into an older block of one's own is seen by none of what is kept. -/
theorem OwnS.set {b : Nat} {w : World} {s : S} {p : P} (h : OwnS b w s p) (g i : Nat) (u : Value) (hg : ∀ c, blkS s p c → c ≠ g) : OwnS b (w.setCell ⟨g, i, none⟩ u) s p :=
  h.chg (T := fun c => c = g) (chg_of_gr (gr_set (gr_refl w (some g)) i u) (fun b e => by injection e)) hg
theorem OwnS.set6 {b : Nat} {w : World} {s : S} {p : P} (h : OwnS b w s p) (g : Nat) (hg : g < b) (u0 u1 u2 u3 u4 u5 : Value) :
    OwnS b ((((((w.setCell ⟨g, 0, none⟩ u0).setCell ⟨g, 1, none⟩ u1).setCell ⟨g, 2, none⟩ u2).setCell ⟨g, 3, none⟩ u3).setCell ⟨g, 4, none⟩ u4).setCell ⟨g, 5, none⟩ u5) s p := by
  have hn : ∀ (W : World) (K : OwnS b W s p) c, blkS s p c → c ≠ g := fun W K c hc e => by have := (K.lt hc).1; omega
  have h0 := h.set g 0 u0 (hn _ h)
  have h1 := h0.set g 1 u1 (hn _ h0)
  have h2 := h1.set g 2 u2 (hn _ h1)
  have h3 := h2.set g 3 u3 (hn _ h2)
  have h4 := h3.set g 4 u4 (hn _ h3)
  exact h4.set g 5 u5 (hn _ h4)

end Go.Proofs.YtdikhdfpcipdbaaGreatDoor.se
