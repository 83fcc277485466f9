/- SumOf, the program's and the model's: each gives the sum of the plain text. -/
import Derived.Test.YtdikhdfpcipdbaaGreatDoorRows
import Derived.Test.YtdikhdfpcipdbaaGreatDoorTxt
import Derived.WalkKit
import Derived.ProofKit
import Derived.OpenShut
import Derived.IntWalk
import Derived.WalkSpells
namespace Go.Proofs.YtdikhdfpcipdbaaGreatDoor.frm
open Go.ChangeShapes Go.WideShapes Go.ChangeAt Go.RowKit
open Go.Proofs.YtdikhdfpcipdbaaGreatDoor.txt
set_option linter.unusedVariables false

/-- The text of these bytes. -/
abbrev str (l : List UInt8) : Value := .string ⟨l.toArray⟩
theorem at_str (l : List UInt8) (i : Nat) (h : i < (ByteArray.mk l.toArray).size) : (ByteArray.mk l.toArray)[i]'h = l.getD i 0 := by
  have hi : i < l.length := by simpa [ByteArray.size] using h
  show l.toArray[i]'_ = _
  simp [List.getD, hi]
theorem wsum_take (l : List UInt8) (i : Nat) (h : i < l.length) : wsum 0 (l.take (i + 1)) = wsum 0 (l.take i) + (i + 1) * (l.getD i 0).toNat := by
  have e : l.take (i + 1) = l.take i ++ [l.getD i 0] := by rw [List.take_add_one]; simp [List.getD, h]
  rw [e, wsum_snoc]; simp [List.length_take, Nat.min_eq_left (Nat.le_of_lt h)]
theorem wsum_bd (l : List UInt8) : ∀ i, i ≤ 200 → i ≤ l.length → wsum 0 (l.take i) ≤ i * 51200 := by
  intro i
  induction i with
  | zero => intros; simp [wsum]
  | succ i ih =>
    intro h1 h2
    have := ih (by omega) (by omega)
    rw [wsum_take l i (by omega)]
    have h3 := UInt8.toNat_lt (l.getD i 0)
    have h4 : (i + 1) * (l.getD i 0).toNat ≤ 200 * 256 := Nat.mul_le_mul (by omega) (by omega)
    omega

theorem w64 (x : Int) (h1 : -9223372036854775808 ≤ x) (h2 : x ≤ 9223372036854775807) : wrap64 x = x := by unfold wrap64; omega
theorem sum_step (l : List UInt8) (k : Nat) (h1 : k < l.length) (h2 : l.length ≤ 200) (h : k < (ByteArray.mk l.toArray).size) :
    wrap64 (((wsum 0 (l.take k) : Nat) : Int) + wrap64 (((k : Int) + 1) * wrap64 (((ByteArray.mk l.toArray)[k]'h).toNat : Int))) = ((wsum 0 (l.take (k + 1)) : Nat) : Int) := by
  rw [at_str, wsum_take l k h1]
  have hb := wsum_bd l k (by omega) (by omega)
  have h3 := UInt8.toNat_lt (l.getD k 0)
  have h4 : (k + 1) * (l.getD k 0).toNat ≤ 200 * 256 := Nat.mul_le_mul (by omega) (by omega)
  have e : ((k : Int) + 1) * ((l.getD k 0).toNat : Int) = (((k + 1) * (l.getD k 0).toNat : Nat) : Int) := by simp
  rw [w64 ((l.getD k 0).toNat : Int) (by omega) (by omega), e]
  generalize (k + 1) * (l.getD k 0).toNat = x at *
  rw [w64 (x : Int) (by omega) (by omega), w64 _ (by omega) (by omega)]
  simp
theorem sum_mod (l : List UInt8) (k : Nat) (h1 : k < l.length) (h2 : l.length ≤ 200) (h : k < (ByteArray.mk l.toArray).size) :
    (wrap64 (((wsum 0 (l.take k) : Nat) : Int) % 251 + wrap64 (((k : Int) + 1) * wrap64 (((ByteArray.mk l.toArray)[k]'h).toNat : Int)))).tmod 251 = ((wsum 0 (l.take (k + 1)) % 251 : Nat) : Int) := by
  rw [at_str, wsum_take l k h1]
  have h3 := UInt8.toNat_lt (l.getD k 0)
  have h4 : (k + 1) * (l.getD k 0).toNat ≤ 200 * 256 := Nat.mul_le_mul (by omega) (by omega)
  have e : ((k : Int) + 1) * ((l.getD k 0).toNat : Int) = (((k + 1) * (l.getD k 0).toNat : Nat) : Int) := by simp
  rw [w64 ((l.getD k 0).toNat : Int) (by omega) (by omega), e]
  generalize (k + 1) * (l.getD k 0).toNat = x at *
  rw [w64 (x : Int) (by omega) (by omega), w64 _ (by omega) (by omega)]
  rw [Int.tmod_eq_emod_of_nonneg (by omega)]
  omega

set_option maxHeartbeats 1000000 in
theorem specSum (l : List UInt8) (w : World) (hl : l.length ≤ maxLen) :
    Calls Tryz.prog 183 #[str l] w fun e w' => e = .returned (.int .i64 (sumL l)) ∧ w = w' := by
  have hm : l.length ≤ 9223372036854775807 := by unfold maxLen at hl; exact hl
  clear hl
  by_cases h2 : 200 < l.length
  · go_enter Tryz.func183, Tryz.ntmps183
    go_wp2
    go_ret
    exact ⟨by rw [sumL, if_pos h2]; rfl, rfl⟩
  · go_enter Tryz.func183, Tryz.ntmps183
    go_wp2
    go_loopw [3, 4] (fun n i wr => wr = w ∧ ∃ k : Nat, k ≤ l.length ∧ i = .int .i64 k ∧ n = .int .i64 ((wsum 0 (l.take k) % 251 : Nat) : Int)) (fun n i _ => l.length - (intOf i).toNat)
    case atStart => exact ⟨rfl, 0, Nat.zero_le _, rfl, rfl⟩
    case round =>
      obtain ⟨rfl, k, hk, rfl, rfl⟩ := hrel
      by_cases hlt : k < l.length
      · go_wp2
        go_roundw
        case rel => exact ⟨trivial, k + 1, by omega, by go_num, by rw [sum_mod l k hlt (by omega)]⟩
        case measure => simp [intOf]; omega
      · obtain rfl : k = l.length := by omega
        go_wp2
        go_ret
        refine ⟨?_, rfl⟩
        rw [sumL, if_neg h2, List.take_length] at *
        rfl
end Go.Proofs.YtdikhdfpcipdbaaGreatDoor.frm
