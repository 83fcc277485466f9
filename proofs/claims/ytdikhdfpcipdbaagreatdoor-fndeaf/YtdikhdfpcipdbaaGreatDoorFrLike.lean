/- Two frames that hold the same are told alike; SumOf's text is drawn. -/
import Derived.Test.YtdikhdfpcipdbaaGreatDoorFrMark
import Derived.Test.YtdikhdfpcipdbaaGreatDoorFrDraw2
namespace Go.Proofs.YtdikhdfpcipdbaaGreatDoor.frm
open Go.ChangeShapes Go.WideShapes Go.ChangeAt Go.RowKit
open Go.Proofs.YtdikhdfpcipdbaaGreatDoor.nums Go.Proofs.YtdikhdfpcipdbaaGreatDoor.mem Go.Proofs.YtdikhdfpcipdbaaGreatDoor.txt Go.Proofs.YtdikhdfpcipdbaaGreatDoor.fix Go.Proofs.YtdikhdfpcipdbaaGreatDoor.cur
open Go.Proofs.YtdikhdfpcipdbaaGreatDoor.tab (Ret quiet_w wpList_make_has)
set_option linter.unusedVariables false

set_option maxHeartbeats 1000000 in
theorem likeInts (a a' : Option Addr) (cap cap' : Nat) (l : List Int) (w : World) (h : Ints w a l) (h' : Ints w a' l) (hl : l.length ≤ maxLen) :
    Calls Tryz.prog 38 #[.slice a l.length cap, .slice a' l.length cap'] w (Ret (.bool true) w) := by
  have hm : l.length ≤ 9223372036854775807 := by unfold maxLen at hl; exact hl
  clear hl
  go_enter Tryz.func38, Tryz.ntmps38
  go_wp2
  go_loopw [5] (fun i wr => ∃ k : Nat, k ≤ l.length ∧ i = .int .i64 k ∧ w.grownBy wr none) (fun i _ => l.length - (intOf i).toNat)
  case atStart => exact ⟨0, Nat.zero_le _, rfl, gr_refl _ _⟩
  case round =>
    obtain ⟨k, hk, rfl, hg⟩ := hrel
    by_cases hlt : k < l.length
    · obtain ⟨x, rfl, _, cx⟩ := (h.kept hg) k hlt
      obtain ⟨x', rfl, _, dx⟩ := (h'.kept hg) k hlt
      go_wp2_with fail
      go_quiet (fail)
      go_wp2_with fail
      go_roundw
      case rel => exact ⟨k + 1, by omega, by go_num, gr_drewN hg _⟩
      case measure => simp [intOf]; omega
    · obtain rfl : k = l.length := by omega
      go_wp2_with fail
      go_ret
      exact ⟨rfl, hg⟩

theorem showF_small (k sq : Int) (vs : List Int) : (showF k sq vs).length ≤ 1000 := by
  cases ho : okF k sq vs with
  | false => simp [showF, ho]
  | true =>
    have hl := aheadF_len ho
    have b1 := sumL_small (aheadF k sq vs)
    have := itoa_len (sumL (aheadF k sq vs)) b1.1 b1.2
    rw [showF_ok ho]
    simp [behind]
    omega

theorem info8 : (Tryz.prog.info? 5).map (fun i => (i.zero, i.size, i.bytes)) = some (some (.int .u8 0), 1, 1) := by kernel_rfl
theorem conv_zeros (w : World) (n : Nat) : (convert 22 9 (.slice (some ⟨w.heap.size, 0, none⟩) n n)).run Tryz.prog (w.alloc (.cells (madeCells #[.int .u8 0] n) 5)) = .ok (str (List.replicate n 0)) (w.alloc (.cells (madeCells #[.int .u8 0] n) 5)) := by
  have := run_convert_bytes_back (P := Tryz.prog) (w.alloc (.cells (madeCells #[.int .u8 0] n) 5)) _ _ 5 ⟨w.heap.size, 0, none⟩ n (List.replicate n 0) Tryz.underlying22 Tryz.underlying5 Tryz.underlying9 (fun j hj => by
    have hj' : j < n := by simpa using hj
    have hc := (Has.fresh w 5 (madeCells #[.int .u8 0] n)).cell j
    have e : (madeCells #[Value.int .u8 0] n)[j]? = some (.int .u8 0) := by
      simp [madeCells, hj', Nat.mod_one]
    rw [e] at hc
    rw [show Addr.add ⟨w.heap.size, 0, none⟩ j = ⟨w.heap.size, j, none⟩ by simp [Addr.add]; intro h; exact h.symm]
    rw [hc]
    simp)
  rw [List.length_replicate] at this
  exact this

theorem conv_some (w : World) (n : Nat) : ∃ T : List UInt8, T.length = n ∧ (convert 22 9 (.slice (some ⟨w.heap.size, 0, none⟩) n n)).run Tryz.prog (w.alloc (.cells (madeCells #[.int .u8 0] n) 5)) = .ok (str T) (w.alloc (.cells (madeCells #[.int .u8 0] n) 5)) :=
  ⟨List.replicate n 0, by simp, conv_zeros w n⟩

/-- Some text, not long. -/
def NewT (m : Nat) (w : World) (e : Ending) (w' : World) : Prop := ∃ l : List UInt8, e = .returned (str l) ∧ l.length ≤ m ∧ w.grownBy w' none

end Go.Proofs.YtdikhdfpcipdbaaGreatDoor.frm
