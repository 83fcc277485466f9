/- Slewed of the program. -/
import Derived.Test.YtdikhdfpcipdbaaGreatDoorBl
import Derived.Test.YtdikhdfpcipdbaaGreatDoorShLaid
import Derived.Test.YtdikhdfpcipdbaaGreatDoorIlT
import Derived.Test.YtdikhdfpcipdbaaGreatDoorQuietTail
import Derived.Deep.DeepCutAuto
import Derived.Laws.CopyOwn
namespace Go.Proofs.YtdikhdfpcipdbaaGreatDoor.bl
open Go.ChangeShapes Go.WideShapes Go.ChangeAt Go.RowKit
open Go.Proofs.YtdikhdfpcipdbaaGreatDoor.nums Go.Proofs.YtdikhdfpcipdbaaGreatDoor.mem
open Go.Proofs.YtdikhdfpcipdbaaGreatDoor.fix (ret_int ret_bool)
open Go.Proofs.YtdikhdfpcipdbaaGreatDoor.tab (Ret quiet_w)
open Go.Proofs.YtdikhdfpcipdbaaGreatDoor.il (nth Ints vals RetT OwnT blk blk_some blk_nil)
set_option linter.unusedVariables false

def okO (n : Int) : Bool := inb n 0 1000
theorem ok_bd {n : Int} (h : okO n = true) : 0 ≤ n ∧ n ≤ 1000 := by unfold okO inb at h; simpa using h
theorem all_not (l : List Int) (k : Nat) (h : k < l.length) (hs : okO (nth l k) = false) : l.all okO = false := by
  rw [List.all_eq_false]
  exact ⟨nth l k, il.nth_mem h, by rw [hs]; simp⟩
theorem all_of {l : List Int} (h : ∀ j, j < l.length → okO (nth l j) = true) : l.all okO = true := by
  rw [List.all_eq_true]
  intro x hx
  obtain ⟨j, hj, rfl⟩ := List.getElem_of_mem hx
  rw [← il.nth_lt hj]; exact h j hj
theorem all_at {l : List Int} (h : l.all okO = true) {k : Nat} (hk : k < l.length) : okO (nth l k) = true := List.all_eq_true.1 h _ (il.nth_mem hk)
def okA (l : List Int) : Bool := decide (l.length ≤ 7) && l.all okO
/-- Both are Outs, and as many. -/
def okAB (x y : List Int) : Bool := decide (x.length = y.length) && (okA x && okA y)
def slewTo (x y : List Int) (s : Int) (k : Nat) : List Int := (List.range k).map fun j => one (nth x j) (nth y j) s
/-- What is slewed. -/
def slew (x y : List Int) (s : Int) : List Int := if okAB x y = true then slewTo x y s x.length else []
theorem slew_no {x y : List Int} (h : okAB x y = false) (s : Int) : slew x y s = [] := by unfold slew; rw [h]; rfl
theorem slew_yes {x y : List Int} (h : okAB x y = true) (s : Int) : slew x y s = slewTo x y s x.length := if_pos h
theorem to_len (x y : List Int) (s : Int) (k : Nat) : (slewTo x y s k).length = k := by simp [slewTo]
theorem to_at {x y : List Int} {s : Int} {k j : Nat} (h : j < k) : nth (slewTo x y s k) j = one (nth x j) (nth y j) s := by
  rw [il.nth_lt (by rw [to_len]; exact h)]; simp [slewTo]
theorem to_succ (x y : List Int) (s : Int) (k : Nat) : slewTo x y s (k + 1) = slewTo x y s k ++ [one (nth x k) (nth y k) s] := by simp [slewTo, List.range_succ]
theorem ok_len {x y : List Int} (h : okAB x y = true) : x.length = y.length ∧ x.length ≤ 7 ∧ okA x = true ∧ okA y = true := by
  unfold okAB at h
  simp only [Bool.and_eq_true, decide_eq_true_eq] at h
  have h2 := h.2.1
  unfold okA at h2
  simp only [Bool.and_eq_true, decide_eq_true_eq] at h2
  exact ⟨h.1, h2.1, h.2.1, h.2.2⟩
theorem slew_len (x y : List Int) (s : Int) : (slew x y s).length ≤ 7 := by
  cases h : okAB x y
  · rw [slew_no h]; simp
  · rw [slew_yes h, to_len]; exact (ok_len h).2.1

abbrev zero7 : List Value := [.int .i64 0, .int .i64 0, .int .i64 0, .int .i64 0, .int .i64 0, .int .i64 0, .int .i64 0]
theorem splice_at {L : List Value} {l : List Int} {k : Nat} (h : k < l.length) : (splice L 0 (vals l)).toArray[k]? = some (.int .i64 (nth l k)) := by
  simp only [splice, List.take_zero, List.nil_append, List.getElem?_toArray]
  rw [List.getElem?_append_left (by simpa [vals] using h), il.nth_lt h]
  simp [vals, h]

end Go.Proofs.YtdikhdfpcipdbaaGreatDoor.bl
