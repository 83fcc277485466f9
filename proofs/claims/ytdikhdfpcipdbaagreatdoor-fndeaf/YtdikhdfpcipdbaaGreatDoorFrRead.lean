/- ReadFrame of the program. -/
import Derived.Test.YtdikhdfpcipdbaaGreatDoorFrAhead
namespace Go.Proofs.YtdikhdfpcipdbaaGreatDoor.frm
open Go.ChangeShapes Go.WideShapes Go.ChangeAt Go.RowKit
open Go.Proofs.YtdikhdfpcipdbaaGreatDoor.nums Go.Proofs.YtdikhdfpcipdbaaGreatDoor.mem Go.Proofs.YtdikhdfpcipdbaaGreatDoor.txt Go.Proofs.YtdikhdfpcipdbaaGreatDoor.fix
open Go.Proofs.YtdikhdfpcipdbaaGreatDoor.tab (Ret quiet_w wpList_make_has)
set_option linter.unusedVariables false

theorem Own.grown {base : Nat} {w w' : World} {a : Option Addr} {vs : List Int} {row : Option Nat} (h : Own base w a vs) (hg : w.grownBy w' row) (hn : ∀ g, base ≤ g → some g ≠ row) : Own base w' a vs := by
  obtain ⟨g, o, cs, ha, hb, hc, hj⟩ := h
  exact ⟨g, o, cs, ha, hb, hc.grown hg (hn g hb), hj⟩
theorem Own.kept {base : Nat} {w w' : World} {a : Option Addr} {vs : List Int} (h : Own base w a vs) (hg : w.grownBy w' none) : Own base w' a vs := h.grown hg (fun _ _ => by simp)
theorem Own.up {base base' : Nat} {w : World} {a : Option Addr} {vs : List Int} (h : Own base w a vs) (hb : base' ≤ base) : Own base' w a vs := by
  obtain ⟨g, o, cs, ha, hb', hc, hj⟩ := h
  exact ⟨g, o, cs, ha, by omega, hc, hj⟩

theorem Own.set {n : Nat} {w : World} {a : Option Addr} {vs : List Int} (h : Own (n + 1) w a vs) (i : Nat) (u : Value) : Own (n + 1) (w.setCell ⟨n, i, none⟩ u) a vs :=
  h.grown (gr_set (gr_refl w (some n)) i u) (fun g hg e => by injection e with e; omega)

/-- What ReadFrame answers, where r is what is read. -/
def ReadOut (r : Option (Int × Int × List Int)) (w : World) (e : Ending) (w' : World) : Prop := w.grownBy w' none ∧
  match r with
  | some (k, sq, vs) => ∃ a cap, e = .returned (.tuple #[fr k sq a vs.length cap, .bool true]) ∧ Own w.heap.size w' a vs
  | none => e = .returned (.tuple #[fr 0 0 none 0 0, .bool false])

theorem notFrame_none {l : List UInt8} (h : NotFrame l) : IsRead l none := by
  intro k sq vs ho e
  rw [showF_cons ho] at e
  exact h (letter k) (sq :: vs) _ (okF_small ho) (by simp) e.symm
theorem ok_of_show {k sq : Int} {vs : List Int} (h : showF k sq vs ≠ []) : okF k sq vs = true := by
  cases ho : okF k sq vs
  · exact absurd (showF_not ho) h
  · rfl
theorem read_some {l : List UInt8} {k sq : Int} {vs : List Int} (hne : l ≠ []) (h : showF k sq vs = l) : IsRead l (some (k, sq, vs)) := ⟨ok_of_show (by rw [h]; exact hne), h⟩
theorem read_not {l : List UInt8} {k sq : Int} {vs : List Int} (hU : ∀ x ns t, (∀ n ∈ ns, -1000000000 < n ∧ n < 1000000000) → l = x :: (blanks ns ++ 32 :: 42 :: t) → ns = sq :: vs ∧ k = kindL x) (h : showF k sq vs ≠ l) : IsRead l none := by
  intro k' sq' vs' ho e
  have e' := e
  rw [showF_cons ho] at e'
  obtain ⟨h1, h2⟩ := hU (letter k') (sq' :: vs') _ (okF_small ho) e'.symm
  obtain ⟨k1, k2, _⟩ := okF_parts ho
  rw [kindL_letter k1 k2] at h2
  simp only [List.cons.injEq] at h1
  obtain ⟨rfl, rfl⟩ := h1
  subst h2
  exact h e

end Go.Proofs.YtdikhdfpcipdbaaGreatDoor.frm
