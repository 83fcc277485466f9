/- What is drawn for the law of the newer ones: two numbers; a list of frames. -/
import Derived.Test.YtdikhdfpcipdbaaGreatDoorStLst
import Derived.Test.YtdikhdfpcipdbaaGreatDoorFrLike
import Derived.Deep.Cut
namespace Go.Proofs.YtdikhdfpcipdbaaGreatDoor.stm
open Go.ChangeShapes Go.WideShapes Go.ChangeAt Go.RowKit
open Go.Proofs.YtdikhdfpcipdbaaGreatDoor.nums Go.Proofs.YtdikhdfpcipdbaaGreatDoor.mem Go.Proofs.YtdikhdfpcipdbaaGreatDoor.txt Go.Proofs.YtdikhdfpcipdbaaGreatDoor.fix Go.Proofs.YtdikhdfpcipdbaaGreatDoor.frm
open Go.Proofs.YtdikhdfpcipdbaaGreatDoor.cur (Cur Bytes below once from_ new Cur.alloc Cur.kept Cur.lt)
open Go.Proofs.YtdikhdfpcipdbaaGreatDoor.tab (Ret quiet_w wpList_make_has add_off)
set_option linter.unusedVariables false

def tab5 (k : Nat) : Int := [0, 1, 50, 51, 99].getD k 0
theorem tab5_in (k : Nat) (hk : k < 5) : 0 ≤ tab5 k ∧ tab5 k ≤ 99 := by
  obtain rfl | rfl | rfl | rfl | rfl : k = 0 ∨ k = 1 ∨ k = 2 ∨ k = 3 ∨ k = 4 := by omega
  all_goals exact ⟨by decide, by decide⟩
theorem tab5_cell (k : Nat) (hk : k < 5) : #[Value.int .i64 0, .int .i64 1, .int .i64 50, .int .i64 51, .int .i64 99][k]? = some (.int .i64 (tab5 k)) := by
  obtain rfl | rfl | rfl | rfl | rfl : k = 0 ∨ k = 1 ∨ k = 2 ∨ k = 3 ∨ k = 4 := by omega
  all_goals rfl

/-- Two small numbers. -/
def TwoS (w : World) (e : Ending) (w' : World) : Prop := ∃ x y : Int, -2 ≤ x ∧ x ≤ 100 ∧ -100 ≤ y ∧ y ≤ 100 ∧ e = .returned (.tuple #[.int .i64 x, .int .i64 y]) ∧ w.grownBy w' none

theorem tmod100 (x : Int) : -100 ≤ x.tmod 100 ∧ x.tmod 100 ≤ 100 := by
  have h1 := Int.lt_tmod_of_pos x (show (0 : Int) < 100 by decide)
  have h2 := Int.tmod_lt_of_pos x (show (0 : Int) < 100 by decide)
  omega

/-- A list of frames, of new memory, a kind and a number. -/
def DrewL (w : World) (e : Ending) (w' : World) : Prop := ∃ (fs : List Fr) (ps : List Pl) (a : Option Addr) (cap : Nat) (kind old : Int), e = .returned (.tuple #[.slice a fs.length cap, .int .i64 kind, .int .i64 old]) ∧ fs.length ≤ 6 ∧ Frs w' a fs ps ∧ (∀ k, k < fs.length → (fv fs k).length ≤ 6) ∧ w.grownBy w' none
theorem short_snoc {fs : List Fr} {f : Fr} (h : ∀ k, k < fs.length → (fv fs k).length ≤ 6) (hf : f.2.2.length ≤ 6) : ∀ k, k < (fs ++ [f]).length → (fv (fs ++ [f]) k).length ≤ 6 := by
  intro k hk
  by_cases e : k < fs.length
  · rw [(fk_lt e).2.2]; exact h k e
  · have e' : k = fs.length := by simp at hk; omega
    subst e'
    rw [fk_eq.2.2]; exact hf

theorem ints_past {w w' : World} {q : Nat} {a : Option Addr} {vs : List Int} (hI : Ints w a vs) (hg : w.grownBy w' (some q)) (hoff : ∀ d, blkV a vs d → q < d) : Ints w' a vs :=
  (chg_of_gr (S := fun d => some d = some q) hg (fun b e => e)).ints hI (fun x e hl er => by
    have := hoff x.block ⟨fun e => by rw [e] at hl; simp at hl, x, e, rfl⟩
    injection er with er
    omega)

end Go.Proofs.YtdikhdfpcipdbaaGreatDoor.stm
