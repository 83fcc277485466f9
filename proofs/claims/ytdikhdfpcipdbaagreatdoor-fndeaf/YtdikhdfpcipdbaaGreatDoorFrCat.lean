/- slices.Grow of a nil list, slices.Concat of one number and a list: a new list of them all. -/
import Derived.Test.YtdikhdfpcipdbaaGreatDoorFrShow
import Derived.Lib.AppendZeros
import Derived.Deep.AppendLies
import Derived.Deep.DeepMust
namespace Go.Proofs.YtdikhdfpcipdbaaGreatDoor.frm
open Go.ChangeShapes Go.WideShapes Go.ChangeAt Go.RowKit
open Go.Proofs.YtdikhdfpcipdbaaGreatDoor.nums Go.Proofs.YtdikhdfpcipdbaaGreatDoor.mem Go.Proofs.YtdikhdfpcipdbaaGreatDoor.txt Go.Proofs.YtdikhdfpcipdbaaGreatDoor.fix
open Go.Proofs.YtdikhdfpcipdbaaGreatDoor.tab (Ret quiet_w wpList_make_has)
set_option linter.unusedVariables false

abbrev vals (l : List Int) : List Value := l.map (Value.int .i64)
/-- The list l is a row of its own, in a block that is not below base. -/
abbrev Row (w : World) (base g cap : Nat) (l : List Int) : Prop := w.ownsRow base 2 1 (.slice (some ⟨g, 0, none⟩) l.length cap) l.length (vals l)
theorem Row.ints {w : World} {base g cap : Nat} {l : List Int} (h : Row w base g cap l) : Ints w (some ⟨g, 0, none⟩) l := by
  intro k hk
  refine ⟨_, rfl, (h.lt g rfl).2, ?_⟩
  refine h.cells rfl k _ ?_
  rw [nth_lt hk]; simp [hk]
theorem Ints.news {w : World} {a : Addr} {l : List Int} (h : Ints w (some a) l) : ∀ j u, (vals l)[j]? = some u → w.cell? (a.add j) = some u := by
  intro j u hj
  have hj' : j < l.length := by have := (List.getElem?_eq_some_iff.1 hj).1; simpa using this
  obtain ⟨x, e, _, hc⟩ := h j hj'
  injection e with e
  subst e
  rw [hc, nth_lt hj']
  simpa [hj'] using hj
theorem vals_one (l : List Int) : ∀ u ∈ vals l, u.oneCell' = true := by
  intro u hu
  simp only [vals, List.mem_map] at hu
  obtain ⟨n, _, rfl⟩ := hu
  rfl

/-- Room for n numbers. -/
def Room (w : World) (e : Ending) (w' : World) : Prop := ∃ g cap, e = .returned (.slice (some ⟨g, 0, none⟩) 0 cap) ∧ w.heap.size ≤ g ∧ w.grownBy w' none ∧ Row w' w.heap.size g cap []

/-- One number and a list, in a new list. -/
def Joined (sq : Int) (l : List Int) (w : World) (e : Ending) (w' : World) : Prop := ∃ g cap, e = .returned (.slice (some ⟨g, 0, none⟩) (sq :: l).length cap) ∧ w.grownBy w' none ∧ Ints w' (some ⟨g, 0, none⟩) (sq :: l)
/-- How many stand there, of the first k pieces. -/
def upto (l : List Int) (k : Nat) : Nat := if k = 0 then 0 else if k = 1 then 1 else 1 + l.length

end Go.Proofs.YtdikhdfpcipdbaaGreatDoor.frm
