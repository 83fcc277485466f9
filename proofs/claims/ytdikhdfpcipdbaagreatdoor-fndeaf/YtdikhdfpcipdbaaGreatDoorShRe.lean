/- Reached of both sides. -/
import Derived.Test.YtdikhdfpcipdbaaGreatDoorShIn
import Derived.Test.YtdikhdfpcipdbaaGreatDoorQuietTail
import Derived.Deep.DeepCutAuto
namespace Go.Proofs.YtdikhdfpcipdbaaGreatDoor.sh
open Go.ChangeShapes Go.WideShapes Go.ChangeAt Go.RowKit
open Go.Proofs.YtdikhdfpcipdbaaGreatDoor.nums Go.Proofs.YtdikhdfpcipdbaaGreatDoor.mem
open Go.Proofs.YtdikhdfpcipdbaaGreatDoor.tab (Ret quiet_w)
open Go.Proofs.YtdikhdfpcipdbaaGreatDoor.il (nth Ints)
open Go.Proofs.YtdikhdfpcipdbaaGreatDoor.qt (region_below_tail gr_rg)
set_option linter.unusedVariables false

/-- The first k together. -/
def psum (g : Nat → Int) : Nat → Int
  | 0 => 0
  | k + 1 => psum g k + g k
theorem psum_in {g : Nat → Int} {B : Int} : ∀ k, (∀ j, j < k → -B ≤ g j ∧ g j ≤ B) → -(k * B) ≤ psum g k ∧ psum g k ≤ k * B
  | 0, _ => by simp [psum]
  | k + 1, h => by
    have h1 := psum_in k (fun j hj => h j (by omega))
    have h2 := h k (by omega)
    have e : ((k + 1 : Nat) : Int) * B = k * B + B := by rw [Int.natCast_add, Int.add_mul]; simp
    rw [e]; unfold psum; omega
theorem psum_bd {g : Nat → Int} {k : Nat} (hk : k ≤ 6) (h : ∀ j, j < k → -2000 ≤ g j ∧ g j ≤ 2000) : -12000 ≤ psum g k ∧ psum g k ≤ 12000 := by
  have := psum_in k h
  omega
def gL (l : List Int) (k : Nat) : Int := nth l k
def gR (l : List Int) (k : Nat) : Int := tR k * nth l k
def gP (l : List Int) (k : Nat) : Int := tP k * nth l k
def okO (n : Int) : Bool := inb n 0 1000
def okL (l : List Int) : Bool := decide (l.length = 6) && l.all okO
theorem ok_at {l : List Int} {k : Nat} (h : okO (nth l k) = true) : 0 ≤ nth l k ∧ nth l k ≤ 1000 := by unfold okO inb at h; simpa using h
theorem gR_in {l : List Int} {k : Nat} (hk : k < 6) (h : okO (nth l k) = true) : -2000 ≤ gR l k ∧ gR l k ≤ 2000 := by
  have h1 := ok_at h
  have := mul_bd (tR_in hk).1 (tR_in hk).2 (b := nth l k) (n := 1000) (by omega) (by omega)
  unfold gR; simpa using this
theorem gP_in {l : List Int} {k : Nat} (hk : k < 6) (h : okO (nth l k) = true) : -2000 ≤ gP l k ∧ gP l k ≤ 2000 := by
  have h1 := ok_at h
  have := mul_bd (tP_in hk).1 (tP_in hk).2 (b := nth l k) (n := 1000) (by omega) (by omega)
  unfold gP; simpa using this
theorem all_step (l : List Int) (k : Nat) (h : k < l.length) : (l.take (k + 1)).all okO = ((l.take k).all okO && okO (nth l k)) := by
  rw [il.nth_take h]; simp
theorem all_not (l : List Int) (k : Nat) (h : k < l.length) (hs : okO (nth l k) = false) : l.all okO = false := by
  rw [List.all_eq_false]
  exact ⟨nth l k, il.nth_mem h, by rw [hs]; simp⟩
theorem all_of {l : List Int} (h : ∀ j, j < l.length → okO (nth l j) = true) : l.all okO = true := by
  rw [List.all_eq_true]
  intro x hx
  obtain ⟨j, hj, rfl⟩ := List.getElem_of_mem hx
  rw [← il.nth_lt hj]; exact h j hj
theorem gL_in {l : List Int} {k : Nat} (h : okO (nth l k) = true) : -2000 ≤ gL l k ∧ gL l k ≤ 2000 := by
  have h1 := ok_at h
  unfold gL; omega
theorem all_at {l : List Int} (h : l.all okO = true) {k : Nat} (hk : k < l.length) : okO (nth l k) = true := List.all_eq_true.1 h _ (il.nth_mem hk)
/-- What is reached. -/
def reL (l : List Int) : Int := if okL l = true then psum (gL l) 6 else 0
def reR (l : List Int) : Int := if okL l = true then psum (gR l) 6 else 0
def reP (l : List Int) : Int := if okL l = true then psum (gP l) 6 else 0
theorem re_no {l : List Int} (h : okL l = false) : reL l = 0 ∧ reR l = 0 ∧ reP l = 0 := by unfold reL reR reP; rw [h]; simp
theorem re_yes {l : List Int} (h : okL l = true) : reL l = psum (gL l) 6 ∧ reR l = psum (gR l) 6 ∧ reP l = psum (gP l) 6 := by unfold reL reR reP; rw [h]; simp
def RetRe (l : List Int) (w : World) (e : Ending) (w' : World) : Prop := e = .returned (dem (reL l) (reR l) (reP l)) ∧ w.grownBy w' none

/-- A list of so many numbers, each out to 1000. -/
theorem specAll (a : Option Addr) (cap : Nat) (l : List Int) (w : World) (h : Ints w a l) (hl : l.length ≤ maxLen) :
    Calls Tryz.prog 53 #[.slice a l.length cap, .int .i64 6, .int .i64 0, .int .i64 1000] w fun e w' => e = .returned (.bool (okL l)) ∧ w = w' := by
  have hm : l.length ≤ 9223372036854775807 := by unfold maxLen at hl; exact hl
  clear hl
  go_enter Tryz.func53, Tryz.ntmps53
  go_wp2_with fail
  go_loopw [9] (fun i wr => wr = w ∧ ∃ k : Nat, k ≤ l.length ∧ i = .int .i64 k ∧ Hid (∀ j, j < k → okO (nth l j) = true)) (fun i _ => l.length - (intOf i).toNat)
  case atStart => exact ⟨rfl, 0, Nat.zero_le _, rfl, Lib.hid (fun j hj => by omega)⟩
  case round =>
    obtain ⟨rfl, k, hk, rfl, hs⟩ := hrel
    by_cases hlt : k < l.length
    · obtain ⟨x, rfl, hb, cx⟩ := h k hlt
      cases hz : okO (nth l k)
      · have hz' : inb (nth l k) 0 1000 = false := hz
        go_wp2_with fail
        refine (fix.specIn _ _ _ _).mono ?_
        rintro e w' ⟨rfl, rfl⟩
        go_wp2_with fail
        go_ret
        exact ⟨by unfold okL; rw [all_not l k hlt hz]; simp, rfl⟩
      · have hz' : inb (nth l k) 0 1000 = true := hz
        go_wp2_with fail
        refine (fix.specIn _ _ _ _).mono ?_
        rintro e w' ⟨rfl, rfl⟩
        go_wp2_with fail
        go_roundw
        case rel => exact ⟨trivial, k + 1, by omega, by go_num, Lib.hid (fun j hj => by
          by_cases e : j = k
          · subst e; exact hz
          · exact hs.out j (by omega))⟩
        case measure => simp [intOf]; omega
    · obtain rfl : k = l.length := by omega
      go_wp2_with fail
      go_ret
      refine ⟨?_, rfl⟩
      unfold okL
      rw [all_of hs.out, Bool.and_true]
      have e : decide ((l.length : Int) = 6) = decide (l.length = 6) := by simp; omega
      rw [← e]
      first | rfl | simp

theorem specWeights_at {k : Nat} (hk : k < 6) (w : World) : Calls Tryz.prog 194 #[.int .i64 (k : Int)] w (fun e w' => e = .returned (.tuple #[.int .i64 (tR k), .int .i64 (tP k)]) ∧ w.grownBy w' none) := by
  have := specWeightsOf (k : Int) w
  unfold RetW at this
  rw [wR_nat hk, wP_nat hk] at this
  exact this

end Go.Proofs.YtdikhdfpcipdbaaGreatDoor.sh
