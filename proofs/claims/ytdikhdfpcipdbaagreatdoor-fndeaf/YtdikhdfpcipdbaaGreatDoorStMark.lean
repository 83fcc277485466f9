/- A list of frames of one's own: marked, and held; the bulk of one that came in; its copy. -/
import Derived.Test.YtdikhdfpcipdbaaGreatDoorStMem
namespace Go.Proofs.YtdikhdfpcipdbaaGreatDoor.stm
open Go.ChangeShapes Go.WideShapes Go.ChangeAt Go.RowKit
open Go.Proofs.YtdikhdfpcipdbaaGreatDoor.nums Go.Proofs.YtdikhdfpcipdbaaGreatDoor.mem Go.Proofs.YtdikhdfpcipdbaaGreatDoor.txt Go.Proofs.YtdikhdfpcipdbaaGreatDoor.fix Go.Proofs.YtdikhdfpcipdbaaGreatDoor.frm
open Go.Proofs.YtdikhdfpcipdbaaGreatDoor.tab (Ret quiet_w wpList_make_has add_off)
set_option linter.unusedVariables false

def mks (m n : Nat) : List Int := (List.range n).map fun (j : Nat) => ((m + j : Nat) : Int)
theorem mks_len (m n : Nat) : (mks m n).length = n := by simp [mks]
theorem mks_at {m n j : Nat} (h : j < n) : nth (mks m n) j = ((m + j : Nat) : Int) := by rw [nth_lt (by rw [mks_len]; exact h)]; simp [mks]

/-- The values lie in a block of numbers that is known whole. -/
def OwnV (w : World) (a : Option Addr) (vs : List Int) : Prop := vs = [] ∨ ∃ (g o : Nat) (cs : Array Value), a = some ⟨g, o, none⟩ ∧ Has w g 2 cs ∧ ∀ j, j < vs.length → cs[o + j]? = some (.int .i64 (nth vs j))
theorem OwnV.of {base : Nat} {w : World} {a : Option Addr} {vs : List Int} (h : Own base w a vs) : OwnV w a vs := by
  by_cases hv : vs = []
  · exact Or.inl hv
  · obtain ⟨g, o, cs, ha, hb, hc, hj⟩ := h
    exact Or.inr ⟨g, o, cs, ha hv, hc, hj⟩
theorem OwnV.ints {w : World} {a : Option Addr} {vs : List Int} (h : OwnV w a vs) : Ints w a vs := by
  rcases h with rfl | ⟨g, o, cs, rfl, hc, hj⟩
  · exact Ints.nil _ _
  · intro k hk
    refine ⟨_, rfl, hc.lt, ?_⟩
    rw [addo, hc.cell]; exact hj k hk
/-- The block of the values, where there are any. -/
def blkV (a : Option Addr) (vs : List Int) (b : Nat) : Prop := vs ≠ [] ∧ ∃ x : Addr, a = some x ∧ x.block = b
theorem Chg.ownV {S : Nat → Prop} {w w' : World} {a : Option Addr} {vs : List Int} (h : Chg S w w') (H : OwnV w a vs) (hn : ∀ b, blkV a vs b → ¬ S b) : OwnV w' a vs := by
  rcases H with rfl | ⟨g, o, cs, rfl, hc, hj⟩
  · exact Or.inl rfl
  · by_cases hv : vs = []
    · exact Or.inl hv
    · exact Or.inr ⟨g, o, cs, rfl, h.has hc (hn g ⟨hv, _, rfl, rfl⟩), hj⟩
theorem OwnV.lt {w : World} {a : Option Addr} {vs : List Int} (h : OwnV w a vs) {b : Nat} (hb : blkV a vs b) : b < w.heap.size := by
  obtain ⟨hne, x, rfl, rfl⟩ := hb
  rcases h with rfl | ⟨g, o, cs, e, hc, hj⟩
  · exact absurd rfl hne
  · injection e with e; subst e; exact hc.lt
/-- A block of something else is not the values'. -/
theorem OwnV.ne {w : World} {a : Option Addr} {vs : List Int} (h : OwnV w a vs) {g : Nat} {t : TypeId} {cs : Array Value} (H : Has w g t cs) (ht : t ≠ 2) : ¬ blkV a vs g := by
  rintro ⟨hne, x, rfl, rfl⟩
  rcases h with rfl | ⟨g, o, cs', e, hc, hj⟩
  · exact hne rfl
  · injection e with e
    subst e
    have h4 := H.symm.trans hc
    simp at h4
    exact ht h4.2

/-- The marks are laid, from m on. -/
def MarkedV (m : Nat) (vs : List Int) (a : Option Addr) (w : World) (e : Ending) (w' : World) : Prop := e = .returned (.int .i64 ((m : Int) + vs.length)) ∧ Chg (blkV a vs) w w' ∧ Ints w' a (mks m vs.length)

end Go.Proofs.YtdikhdfpcipdbaaGreatDoor.stm
