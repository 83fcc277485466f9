/- Chapter 3: the program's functions answer as one plain function does. -/
import Derived.Test.YtdpoecebjjcicaaBncSpec
import Derived.WalkMore
namespace Go.Proofs.Ytdpoecebjjcicaa.bnc
open Go.ChangeShapes Go.WideShapes Go.ChangeAt Go.RowKit
open Go.Proofs.Ytdpoecebjjcicaa.nums Go.Proofs.Ytdpoecebjjcicaa.mem
open Go.Proofs.Ytdpoecebjjcicaa.tab (Ret quiet_w)
set_option linter.unusedVariables false

theorem implBounceOk (N : Int) (on : Bool) (w : World) : Calls Try.prog 44 #[.agg #[.int .i64 N, .bool on]] w (Ret (.bool (inb N 0 100)) w) := by
  by_cases h : 0 ≤ N
  · go_enter Try.func44, Try.ntmps44
    go_wp2
    go_ret
    exact ⟨fix.ret_bool (by unfold inb; simp [h]), World.grownBy_alloc _ _ _⟩
  · go_enter Try.func44, Try.ntmps44
    go_wp2
    go_ret
    exact ⟨fix.ret_bool (by unfold inb; simp; omega), World.grownBy_alloc _ _ _⟩

set_option maxHeartbeats 1000000 in
theorem implRisen (N : Int) (on : Bool) (u d : Int) (w : World) (h0 : 0 ≤ N) (h1 : N ≤ 100) : Calls Try.prog 54 #[.agg #[.int .i64 N, .bool on], .int .i64 u] w (RetB (feel u d (N, on) true) w) := by
  by_cases h : N + 1 < u
  · go_enter Try.func54, Try.ntmps54
    go_wp2
    exact bodyPost_ret (v := .agg #[.int .i64 (N + 1), .bool on]) (by simp [results, Try.results54, go_sem]) rfl ⟨by
      have e1 : min u (N + 1) = N + 1 := by omega
      have e2 : decide (u ≤ N + 1) = false := by simp; omega
      simp only [feel, e1, e2, Bool.or_false], gr_alloc (World.grownBy_alloc _ _ _) _⟩
  · by_cases h2 : N + 1 = u
    · subst h2
      go_enter Try.func54, Try.ntmps54
      go_wp2
      exact bodyPost_ret (v := .agg #[.int .i64 (N + 1), .bool true]) (by simp [results, Try.results54, go_sem]) rfl ⟨by simp [feel], gr_alloc (World.grownBy_alloc _ _ _) _⟩
    · have h3 : u < N + 1 := by omega
      go_enter Try.func54, Try.ntmps54
      go_wp2
      exact bodyPost_ret (v := .agg #[.int .i64 u, .bool true]) (by simp [results, Try.results54, go_sem]) rfl ⟨by
        have e1 : min u (N + 1) = u := by omega
        simp [feel, e1], gr_alloc (World.grownBy_alloc _ _ _) _⟩

set_option maxHeartbeats 1000000 in
theorem implFallen (N : Int) (on : Bool) (u d : Int) (w : World) (h0 : 0 ≤ N) (h1 : N ≤ 100) (hd : 1 ≤ d) : Calls Try.prog 55 #[.agg #[.int .i64 N, .bool on], .int .i64 d] w (RetB (feel u d (N, on) false) w) := by
  have e1 : min d (max 0 (N - 1)) = btw (N - 1) 0 d := by unfold btw; omega
  by_cases h : btw (N - 1) 0 d = 0
  · have HE := Lib.hid e1; clear e1
    go_enter Try.func55, Try.ntmps55
    go_wp2_with fail
    refine (fix.implBetween _ _ _ _).mono ?_
    rintro e w' ⟨rfl, rfl⟩
    go_wp2_with fail
    exact bodyPost_ret (v := .agg #[.int .i64 0, .bool false]) (by simp [results, Try.results55, go_sem]) rfl ⟨by simp [feel, HE.out, h], gr_alloc (World.grownBy_alloc _ _ _) _⟩
  · have h' : 0 < btw (N - 1) 0 d := by unfold btw at *; omega
    have HE := Lib.hid e1; clear e1
    have hne : (btw (N - 1) 0 d == 0) = false := by simp; omega
    go_enter Try.func55, Try.ntmps55
    go_wp2_with fail
    refine (fix.implBetween _ _ _ _).mono ?_
    rintro e w' ⟨rfl, rfl⟩
    go_wp2_with fail
    exact bodyPost_ret (v := .agg #[.int .i64 (btw (N - 1) 0 d), .bool on]) (by simp [results, Try.results55, go_sem]) rfl ⟨by simp [feel, HE.out, h'], gr_alloc (World.grownBy_alloc _ _ _) _⟩

theorem many_one (u d : Int) (b : B) (s : Bool) : many u d b [s] = one u d b s := by unfold many one; simp [felt]

end Go.Proofs.Ytdpoecebjjcicaa.bnc
