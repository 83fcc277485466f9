/- Two lists of readings that hold the same are told alike; what the law of freshness says of plain triples. -/
import Derived.Test.YtijdggbgmpodmaaRdAll
import Derived.Test.YtijdggbgmpodmaaRdDraw2
namespace Go.Proofs.Ytijdggbgmpodmaa.rd
open Go.ChangeShapes Go.WideShapes Go.ChangeAt Go.RowKit
open Go.Proofs.Ytijdggbgmpodmaa.nums Go.Proofs.Ytijdggbgmpodmaa.mem Go.Proofs.Ytijdggbgmpodmaa.cur
open Go.Proofs.Ytijdggbgmpodmaa.tab (Ret quiet_w wpList_make_has add_off)
set_option linter.unusedVariables false

theorem eqR_same (r : R) : eqR r r = true := by simp [eqR]
theorem neqR_same (w : World) (v a : Int) (o : Bool) : (binOp .neq 25 (.agg #[.int .i64 v, .int .i64 a, .bool o]) (.agg #[.int .i64 v, .int .i64 a, .bool o])).run Try.prog w = .ok (.bool false) w := by
  rw [neqR, eqR_same]; rfl

set_option maxHeartbeats 2000000 in
theorem likeReadings (a a' : Option Addr) (cap cap' : Nat) (l : List R) (w : World) (h : Arg w a l) (h' : Arg w a' l) (hl : l.length ≤ 1048576) :
    Calls Try.prog 21 #[.slice a l.length cap, .slice a' l.length cap'] w (Ret (.bool true) w) := by
  go_enter Try.func21, Try.ntmps21
  go_wp2_with fail
  go_loopw [5] (fun i wr => ∃ k : Nat, k ≤ l.length ∧ i = .int .i64 k ∧ w.grownBy wr none) (fun i _ => l.length - (intOf i).toNat)
  case atStart => exact ⟨0, Nat.zero_le _, rfl, gr_refl _ _⟩
  case round =>
    obtain ⟨k, hk, rfl, hg⟩ := hrel
    by_cases hlt : k < l.length
    · obtain ⟨x, rfl, hb, cx, cy, cz⟩ := (h.kept hg) k hlt
      obtain ⟨x', rfl, hb', cx', cy', cz'⟩ := (h'.kept hg) k hlt
      have hq := fun W => neqR_same W (rx l k) (ra l k) (ro l k)
      have hG := guardR
      go_wp2_with fail
      go_quiet (fail)
      go_wp2_with fail
      go_roundw
      case rel => exact ⟨k + 1, by omega, by go_num, gr_drewN hg _⟩
      case measure => simp [intOf]; omega
    · obtain rfl : k = l.length := by omega
      go_wp2_with fail
      go_ret
      exact ⟨rfl, hg⟩

theorem fresh_more {r : R} {m : Int} (h : fresh r m = true) : fresh r (m + 1) = true := by
  unfold fresh at *
  simp at *
  exact ⟨h.1, h.2.1, by omega⟩
theorem fresh_aged {r : R} {m : Int} (h : fresh r m = false) : fresh (aged r) m = false := by
  obtain ⟨v, a, o⟩ := r
  by_cases ho : okR (v, a, o) = true
  · rw [aged_ok ho]
    obtain ⟨hv, h0, h1⟩ := okR_iff.1 ho
    unfold fresh at *
    rw [ho] at h
    simp at h
    simp
    intro _ hw
    have := h hw
    omega
  · rw [aged_no (Bool.eq_false_iff.2 ho)]
    simp [fresh]
theorem fresh_got {v a x : Int} {o : Bool} : got (v, a, o) x = zR ∨ (got (v, a, o) x = (x, 0, true) ∧ fresh (x, 0, true) 0 = true) := by
  unfold got
  split
  · rename_i h
    refine Or.inr ⟨rfl, ?_⟩
    simp only [Bool.and_eq_true] at h
    unfold fresh okR
    have h2 := h.2
    unfold inb at h2
    simp at h2
    simp [inb, h2]
  · exact Or.inl rfl
end Go.Proofs.Ytijdggbgmpodmaa.rd
