/- Lists of numbers that lie in a block of whatever type (an array's block, cut): read, marked. -/
import Derived.Test.YtdikhdfpcipdbaaGreatDoorIl
namespace Go.Proofs.YtdikhdfpcipdbaaGreatDoor.il
open Go.ChangeShapes Go.WideShapes Go.ChangeAt Go.RowKit
open Go.Proofs.YtdikhdfpcipdbaaGreatDoor.nums Go.Proofs.YtdikhdfpcipdbaaGreatDoor.mem
open Go.Proofs.YtdikhdfpcipdbaaGreatDoor.tab (Ret quiet_w)
set_option linter.unusedVariables false

/-- The numbers lie in a block that is known whole, of whatever type, or there are none. -/
def OwnT (w : World) (a : Option Addr) (l : List Int) : Prop := l = [] ∨ ∃ (g o : Nat) (t : TypeId) (cs : Array Value), a = some ⟨g, o, none⟩ ∧ Has w g t cs ∧ ∀ k, k < l.length → cs[o + k]? = some (.int .i64 (nth l k))
theorem Own.toT {w : World} {a : Option Addr} {l : List Int} (h : Own w a l) : OwnT w a l := h.imp id fun ⟨g, o, cs, e, hc, hj⟩ => ⟨g, o, _, cs, e, hc, hj⟩
theorem OwnT.ints {w : World} {a : Option Addr} {l : List Int} (h : OwnT w a l) : Ints w a l := by
  rcases h with rfl | ⟨g, o, t, cs, rfl, hc, hj⟩
  · exact Ints.nil _ _
  · intro k hk
    refine ⟨_, rfl, hc.lt, ?_⟩
    rw [addo, hc.cell]; exact hj k hk
theorem OwnT.grown {w w' : World} {a : Option Addr} {l : List Int} {row : Option Nat} (h : OwnT w a l) (hg : w.grownBy w' row) (hn : ∀ b, blk a l = some b → some b ≠ row) : OwnT w' a l := by
  rcases h with h | ⟨g, o, t, cs, rfl, hc, hj⟩
  · exact Or.inl h
  · by_cases hl : l = []
    · exact Or.inl hl
    · exact Or.inr ⟨g, o, t, cs, rfl, hc.grown hg (hn _ (blk_some hl)), hj⟩
theorem OwnT.kept {w w' : World} {a : Option Addr} {l : List Int} (h : OwnT w a l) (hg : w.grownBy w' none) : OwnT w' a l := h.grown hg (fun x e => by simp)
theorem OwnT.lt {w : World} {a : Option Addr} {l : List Int} (h : OwnT w a l) {b : Nat} (e : blk a l = some b) : b < w.heap.size := by
  rcases h with rfl | ⟨g, o, t, cs, rfl, hc, hj⟩
  · rw [blk_nil] at e; cases e
  · by_cases hl : l = []
    · subst hl; rw [blk_nil] at e; cases e
    · rw [blk_some hl] at e; injection e with e; subst e; exact hc.lt
/-- A list comes back in memory of its own, in a block of whatever type; of what was there nothing is another. -/
def RetT (l : List Int) (w : World) (e : Ending) (w' : World) : Prop :=
  ∃ a cap, e = .returned (.slice a l.length cap) ∧ w.grownBy w' none ∧ OwnT w' a l ∧ ∀ b, blk a l = some b → w.heap.size ≤ b
theorem RetI.toT {l : List Int} {w w' : World} {e : Ending} (h : RetI l w e w') : RetT l w e w' := by
  obtain ⟨a, cap, e, g, o, b⟩ := h
  exact ⟨a, cap, e, g, o.toT, b⟩
/-- The marks are laid, from m on. -/
def MarkedT (m : Nat) (l : List Int) (a : Option Addr) (w : World) (e : Ending) (w' : World) : Prop := e = .returned (.int .i64 ((m : Int) + l.length)) ∧ w.grownBy w' (blk a l) ∧ OwnT w' a (mks m l.length)

end Go.Proofs.YtdikhdfpcipdbaaGreatDoor.il
