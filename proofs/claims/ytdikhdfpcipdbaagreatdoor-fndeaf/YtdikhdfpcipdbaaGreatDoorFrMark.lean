/- Marks in the memory of an answer: markFrame, heldFrame. -/
import Derived.Test.YtdikhdfpcipdbaaGreatDoorFrReadS
namespace Go.Proofs.YtdikhdfpcipdbaaGreatDoor.frm
open Go.ChangeShapes Go.WideShapes Go.ChangeAt Go.RowKit
open Go.Proofs.YtdikhdfpcipdbaaGreatDoor.nums Go.Proofs.YtdikhdfpcipdbaaGreatDoor.mem Go.Proofs.YtdikhdfpcipdbaaGreatDoor.txt Go.Proofs.YtdikhdfpcipdbaaGreatDoor.fix
open Go.Proofs.YtdikhdfpcipdbaaGreatDoor.tab (Ret quiet_w wpList_make_has)
set_option linter.unusedVariables false

def OwnE (base : Nat) (w : World) (a : Option Addr) (vs : List Int) : Prop := vs = [] ∨ Own base w a vs
theorem OwnE.ints {base : Nat} {w : World} {a : Option Addr} {vs : List Int} (h : OwnE base w a vs) : Ints w a vs := by
  rcases h with rfl | h
  · exact Ints.nil _ _
  · exact h.ints
theorem OwnE.grown {base : Nat} {w w' : World} {a : Option Addr} {vs : List Int} {row : Option Nat} (h : OwnE base w a vs) (hg : w.grownBy w' row) (hn : ∀ g, base ≤ g → some g ≠ row) : OwnE base w' a vs := h.imp id (fun h => h.grown hg hn)
theorem OwnE.kept {base : Nat} {w w' : World} {a : Option Addr} {vs : List Int} (h : OwnE base w a vs) (hg : w.grownBy w' none) : OwnE base w' a vs := h.imp id (fun h => h.kept hg)
/-- What is read, as the answer tells it. -/
def dec : Option (Int × Int × List Int) → Int × Int × List Int × Bool
  | some (k, sq, vs) => (k, sq, vs, true)
  | none => (0, 0, [], false)
theorem ReadOut.got {r : Option (Int × Int × List Int)} {w w' : World} {e : Ending} {k sq : Int} {vs : List Int} {is : Bool} (h : ReadOut r w e w') (hd : dec r = (k, sq, vs, is)) : ∃ a cap, e = .returned (.tuple #[fr k sq a vs.length cap, .bool is]) ∧ OwnE w.heap.size w' a vs ∧ w.grownBy w' none := by
  obtain ⟨hg, h⟩ := h
  match r with
  | some (k', sq', vs') =>
    simp only [dec, Prod.mk.injEq] at hd
    obtain ⟨rfl, rfl, rfl, rfl⟩ := hd
    obtain ⟨a, cap, he, ho⟩ := h
    exact ⟨a, cap, he, Or.inr ho, hg⟩
  | none =>
    simp only [dec, Prod.mk.injEq] at hd
    obtain ⟨rfl, rfl, rfl, rfl⟩ := hd
    exact ⟨none, 0, h, Or.inl rfl, hg⟩
theorem dec_len {l : List UInt8} {r : Option (Int × Int × List Int)} {k sq : Int} {vs : List Int} {is : Bool} (h : IsRead l r) (hd : dec r = (k, sq, vs, is)) : vs.length ≤ 6 := by
  match r with
  | some (k', sq', vs') =>
    simp only [dec, Prod.mk.injEq] at hd
    obtain ⟨rfl, rfl, rfl, rfl⟩ := hd
    exact okF_short h.1
  | none =>
    simp only [dec, Prod.mk.injEq] at hd
    obtain ⟨rfl, rfl, rfl, rfl⟩ := hd
    simp
def marks (n : Nat) : List Int := (List.range n).map fun (j : Nat) => (j : Int) + 1
theorem marks_len (n : Nat) : (marks n).length = n := by simp [marks]
theorem marks_at {n j : Nat} (h : j < n) : nth (marks n) j = (j : Int) + 1 := by rw [nth_lt (by rw [marks_len]; exact h)]; simp [marks]

/-- The marks are laid. -/
def Marked (base n : Nat) (a : Option Addr) (w : World) (e : Ending) (w' : World) : Prop := e = .returned (.int .i64 ((n : Int) + 1)) ∧ (∃ row, w.grownBy w' row ∧ ∀ q, row = some q → base ≤ q ∧ ∃ cs, Has w q 2 cs) ∧ OwnE base w' a (marks n)

theorem Has.marked {w w' : World} {b base : Nat} {t : TypeId} {cs : Array Value} {row : Option Nat} (h : Has w b t cs) (hg : w.grownBy w' row) (hq : ∀ q, row = some q → base ≤ q ∧ ∃ cs, Has w q 2 cs) (hb : b < base ∨ t ≠ 2) : Has w' b t cs := by
  refine h.grown hg (fun e => ?_)
  obtain ⟨h1, cs', h2⟩ := hq b e.symm
  rcases hb with hb | hb
  · omega
  · have h4 := h.symm.trans h2
    simp at h4
    exact hb h4.2
theorem gr_marked {w0 w w' : World} {base : Nat} {row : Option Nat} (h0 : w0.grownBy w none) (hg : w.grownBy w' row) (hq : ∀ q, row = some q → base ≤ q ∧ ∃ cs, Has w q 2 cs) (hb : w0.heap.size ≤ base) : w0.grownBy w' none := by
  cases row with
  | none => exact gr_trans h0 hg
  | some q => exact gr_past h0 hg (by have := (hq q rfl).1; omega)
end Go.Proofs.YtdikhdfpcipdbaaGreatDoor.frm
