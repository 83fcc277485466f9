/- Chapter 3: the program's functions answer as one plain function does. -/
import Derived.Test.YtifafoghgnfioaaBncSpec
import Derived.WalkMore
namespace Go.Proofs.Ytifafoghgnfioaa.bnc
open Go.ChangeShapes Go.WideShapes Go.ChangeAt Go.RowKit
open Go.Proofs.Ytifafoghgnfioaa.nums Go.Proofs.Ytifafoghgnfioaa.mem
open Go.Proofs.Ytifafoghgnfioaa.tab (Ret quiet_w)
set_option linter.unusedVariables false

theorem implBounceOk (N : Int) (on : Bool) (w : World) : Calls Try.prog 14 #[.agg #[.int .i64 N, .bool on]] w (Ret (.bool (inb N 0 100)) w) := by
  by_cases h : 0 ≤ N
  · go_enter Try.func14, Try.ntmps14
    go_wp2
    go_ret
    exact ⟨fix.ret_bool (by unfold inb; simp [h]), World.grownBy_alloc _ _ _⟩
  · go_enter Try.func14, Try.ntmps14
    go_wp2
    go_ret
    exact ⟨fix.ret_bool (by unfold inb; simp; omega), World.grownBy_alloc _ _ _⟩

theorem implTimesOk (x : Int) (w : World) : Calls Try.prog 25 #[.int .i64 x] w fun e w' => e = .returned (.bool (inb x 1 100)) ∧ w = w' := by
  by_cases h : 1 ≤ x
  · go_enter Try.func25, Try.ntmps25
    go_wp2
    go_ret
    exact ⟨fix.ret_bool (by unfold inb; simp [h]), rfl⟩
  · go_enter Try.func25, Try.ntmps25
    go_wp2
    go_ret
    exact ⟨fix.ret_bool (by unfold inb; simp; omega), rfl⟩

set_option maxHeartbeats 1000000 in
theorem implRisen (N : Int) (on : Bool) (u d : Int) (w : World) (h0 : 0 ≤ N) (h1 : N ≤ 100) : Calls Try.prog 26 #[.agg #[.int .i64 N, .bool on], .int .i64 u] w (RetB (feel u d (N, on) true) w) := by
  by_cases h : N + 1 < u
  · go_enter Try.func26, Try.ntmps26
    go_wp2
    exact bodyPost_ret (v := .agg #[.int .i64 (N + 1), .bool on]) (by simp [results, Try.results26, go_sem]) rfl ⟨by
      have e1 : min u (N + 1) = N + 1 := by omega
      have e2 : decide (u ≤ N + 1) = false := by simp; omega
      simp only [feel, e1, e2, Bool.or_false], gr_alloc (World.grownBy_alloc _ _ _) _⟩
  · by_cases h2 : N + 1 = u
    · subst h2
      go_enter Try.func26, Try.ntmps26
      go_wp2
      exact bodyPost_ret (v := .agg #[.int .i64 (N + 1), .bool true]) (by simp [results, Try.results26, go_sem]) rfl ⟨by simp [feel], gr_alloc (World.grownBy_alloc _ _ _) _⟩
    · have h3 : u < N + 1 := by omega
      go_enter Try.func26, Try.ntmps26
      go_wp2
      exact bodyPost_ret (v := .agg #[.int .i64 u, .bool true]) (by simp [results, Try.results26, go_sem]) rfl ⟨by
        have e1 : min u (N + 1) = u := by omega
        simp [feel, e1], gr_alloc (World.grownBy_alloc _ _ _) _⟩

set_option maxHeartbeats 1000000 in
theorem implFallen (N : Int) (on : Bool) (u d : Int) (w : World) (h0 : 0 ≤ N) (h1 : N ≤ 100) (hd : 1 ≤ d) : Calls Try.prog 27 #[.agg #[.int .i64 N, .bool on], .int .i64 d] w (RetB (feel u d (N, on) false) w) := by
  have e1 : min d (max 0 (N - 1)) = btw (N - 1) 0 d := by unfold btw; omega
  by_cases h : btw (N - 1) 0 d = 0
  · have HE := Lib.hid e1; clear e1
    go_enter Try.func27, Try.ntmps27
    go_wp2_with fail
    refine (fix.implBetween _ _ _ _).mono ?_
    rintro e w' ⟨rfl, rfl⟩
    go_wp2_with fail
    exact bodyPost_ret (v := .agg #[.int .i64 0, .bool false]) (by simp [results, Try.results27, go_sem]) rfl ⟨by simp [feel, HE.out, h], gr_alloc (World.grownBy_alloc _ _ _) _⟩
  · have h' : 0 < btw (N - 1) 0 d := by unfold btw at *; omega
    have HE := Lib.hid e1; clear e1
    have hne : (btw (N - 1) 0 d == 0) = false := by simp; omega
    go_enter Try.func27, Try.ntmps27
    go_wp2_with fail
    refine (fix.implBetween _ _ _ _).mono ?_
    rintro e w' ⟨rfl, rfl⟩
    go_wp2_with fail
    exact bodyPost_ret (v := .agg #[.int .i64 (btw (N - 1) 0 d), .bool on]) (by simp [results, Try.results27, go_sem]) rfl ⟨by simp [feel, HE.out, h'], gr_alloc (World.grownBy_alloc _ _ _) _⟩

set_option maxHeartbeats 4000000 in
theorem implFeltAll (N : Int) (on : Bool) (g cap : Nat) (l : List Bool) (u d : Int) (w : World) (hl : l.length ≤ 1048576) (hB : Bs w g l) : Calls Try.prog 11 #[.agg #[.int .i64 N, .bool on], .slice (some ⟨g, 0, none⟩) l.length cap, .int .i64 u, .int .i64 d] w (RetB (many u d (N, on) l) w) := by
  have a0 := (Has.fresh w 25 #[.int .i64 N, .bool on]).alloc (Obj.cells #[.int .i64 0, .bool false] 25)
  have a1 := fresh1 w (Obj.cells #[.int .i64 N, .bool on] 25) 25 #[.int .i64 0, .bool false]
  have g0 : w.grownBy ((w.alloc (Obj.cells #[.int .i64 N, .bool on] 25)).alloc (Obj.cells #[.int .i64 0, .bool false] 25)) none := gr_alloc (World.grownBy_alloc _ _ _) _
  by_cases hr : right (N, on) u d = true
  · obtain ⟨⟨h0, h1⟩, hu, hd⟩ := right_iff.1 hr
    have i0 : inb N 0 100 = true := inb_iff.2 ⟨h0, h1⟩
    have i1 : inb u 1 100 = true := inb_iff.2 hu
    have i2 : inb d 1 100 = true := inb_iff.2 hd
    have hd1 := hd.1
    have HR := Lib.hid hr
    have HU := Lib.hid hu
    have HD := Lib.hid hd
    clear hu hd hr
    go_enter Try.func11, Try.ntmps11
    go_wp2_with fail
    go_step3
    go_wp2_with fail
    refine (implBounceOk _ _ _).mono ?_
    rintro e w1 ⟨rfl, hg⟩
    replace a0 := a0.grown hg (by simp)
    replace a1 := a1.grown hg (by simp)
    replace g0 := gr_trans g0 hg
    clear hg
    go_wp2_with (go_at_call 25; refine (implTimesOk _ _).mono ?_; rintro e w' ⟨rfl, rfl⟩)
    clear i0 i1 i2
    go_step3
    go_wp2_with fail
    go_loopw [27] (fun i wr => ∃ (k : Nat) (M : Int) (o : Bool), k ≤ l.length ∧ k ≤ 200 ∧ i = .int .i64 k ∧ Hid ((M, o) = felt u d (N, on) (l.take k)) ∧ (0 ≤ M ∧ M ≤ 100) ∧ Has wr w.heap.size 25 #[.int .i64 M, .bool o] ∧ Has wr (w.heap.size + 1) 25 #[.int .i64 0, .bool false] ∧ w.grownBy wr none) (fun i _ => l.length - (intOf i).toNat)
    case atStart => exact ⟨0, N, on, Nat.zero_le _, Nat.zero_le _, rfl, Lib.hid rfl, ⟨h0, h1⟩, a0, a1, g0⟩
    case round =>
      clear a0 a1 g0
      obtain ⟨k, M, o, hk, hk2, rfl, hM, ⟨M0, M1⟩, a0, a1, g0⟩ := hrel
      obtain ⟨c0, c1, f0, f1⟩ := two a0
      by_cases hlt : k < l.length
      · have cb := (hB.kept g0).2 k hlt
        by_cases hk3 : k = 200
        · obtain ⟨d0, d1, e0, e1⟩ := two a1
          subst hk3
          go_wp2_with fail
          have a2 := set2 ((a1.set_other (g' := w.heap.size) (by simp) 0 (.int .i64 0)).set_other (g' := w.heap.size) (by simp) 1 (.bool false)) (.int .i64 0) (.bool false)
          obtain ⟨k0, k1, _, _⟩ := two a2
          exact bodyPost_ret (v := .agg #[.int .i64 0, .bool false]) (by simp [results, Try.results11, go_sem, k0, k1]) rfl ⟨by rw [many, if_neg (fun h => by omega)], gr_new (gr_new (gr_new (gr_new g0 (by omega) _ _) (by omega) _ _) (by omega) _ _) (by omega) _ _⟩
        · have hk4 : ((k : Int) == 200) = false := by simp; omega
          by_cases hs : l.getD k false = true
          · have hs2 : l[k] = true := by rw [← hs]; simp [List.getD, hlt]
            rw [hs] at cb
            go_wp2_with fail
            refine (implRisen _ _ _ d _ M0 M1).mono ?_
            rintro e w2 ⟨rfl, hg2⟩
            replace g0 := gr_trans g0 hg2
            replace a0 := a0.grown hg2 (by simp)
            replace a1 := a1.grown hg2 (by simp)
            clear c0 c1 f0 f1 cb
            obtain ⟨c0, c1, f0, f1⟩ := two a0
            go_wp2_with fail
            go_roundw
            case rel => exact ⟨k + 1, _, _, by omega, by omega, by go_num, Lib.hid (by rw [felt_next u d (N, on) hlt, ← hM.out, hs]), feel_rng _ HU.out HD.out M0 M1, set2 a0 _ _, (a1.set_other (by simp) _ _).set_other (by simp) _ _, gr_new (gr_new g0 (by omega) _ _) (by omega) _ _⟩
            case measure => simp [intOf]; omega
          · have hs' : l.getD k false = false := by simpa using hs
            clear hs
            rw [hs'] at cb
            go_wp2_with fail
            refine (implFallen _ _ u _ _ M0 M1 hd1).mono ?_
            rintro e w2 ⟨rfl, hg2⟩
            replace g0 := gr_trans g0 hg2
            replace a0 := a0.grown hg2 (by simp)
            replace a1 := a1.grown hg2 (by simp)
            clear c0 c1 f0 f1 cb
            obtain ⟨c0, c1, f0, f1⟩ := two a0
            go_wp2_with fail
            go_roundw
            case rel => exact ⟨k + 1, _, _, by omega, by omega, by go_num, Lib.hid (by rw [felt_next u d (N, on) hlt, ← hM.out, hs']), feel_rng _ HU.out HD.out M0 M1, set2 a0 _ _, (a1.set_other (by simp) _ _).set_other (by simp) _ _, gr_new (gr_new g0 (by omega) _ _) (by omega) _ _⟩
            case measure => simp [intOf]; omega
      · obtain rfl : k = l.length := by omega
        have hM' := hM.out
        rw [List.take_length] at hM'
        obtain ⟨d0, d1, e0, e1⟩ := two a1
        go_wp2_with fail
        obtain ⟨k0, k1, _, _⟩ := two (set2 a1 (.int .i64 M) (.bool o))
        exact bodyPost_ret (v := .agg #[.int .i64 M, .bool o]) (by simp [results, Try.results11, go_sem, k0, k1]) rfl ⟨by rw [many, if_pos ⟨HR.out, hk2⟩, ← hM'], gr_new (gr_new g0 (by omega) _ _) (by omega) _ _⟩
  · have e1 : many u d (N, on) l = (0, false) := if_neg (fun h => hr h.1)
    rw [e1]; clear e1
    by_cases i0 : inb N 0 100 = true
    · by_cases i1 : inb u 1 100 = true
      · have i2 : inb d 1 100 = false := by
          have : ¬ inb d 1 100 = true := fun h => hr (by unfold right; rw [i0, i1, h]; rfl)
          simpa using this
        clear hr
        go_enter Try.func11, Try.ntmps11
        go_wp2_with fail
        go_step3
        go_wp2_with fail
        refine (implBounceOk _ _ _).mono ?_
        rintro e w1 ⟨rfl, hg⟩
        replace a1 := a1.grown hg (by simp)
        replace g0 := gr_trans g0 hg
        clear hg
        obtain ⟨c0, c1, f0, f1⟩ := two a1
        go_wp2_with (go_at_call 25; refine (implTimesOk _ _).mono ?_; rintro e w' ⟨rfl, rfl⟩)
        obtain ⟨k0, k1, _, _⟩ := two (set2 a1 (.int .i64 0) (.bool false))
        exact bodyPost_ret (v := .agg #[.int .i64 0, .bool false]) (by simp [results, Try.results11, go_sem, k0, k1]) rfl ⟨rfl, gr_new (gr_new g0 (by omega) _ _) (by omega) _ _⟩
      · have i1' : inb u 1 100 = false := by simpa using i1
        clear hr i1
        go_enter Try.func11, Try.ntmps11
        go_wp2_with fail
        go_step3
        go_wp2_with fail
        refine (implBounceOk _ _ _).mono ?_
        rintro e w1 ⟨rfl, hg⟩
        replace a1 := a1.grown hg (by simp)
        replace g0 := gr_trans g0 hg
        clear hg
        obtain ⟨c0, c1, f0, f1⟩ := two a1
        go_wp2_with (go_at_call 25; refine (implTimesOk _ _).mono ?_; rintro e w' ⟨rfl, rfl⟩)
        obtain ⟨k0, k1, _, _⟩ := two (set2 a1 (.int .i64 0) (.bool false))
        exact bodyPost_ret (v := .agg #[.int .i64 0, .bool false]) (by simp [results, Try.results11, go_sem, k0, k1]) rfl ⟨rfl, gr_new (gr_new g0 (by omega) _ _) (by omega) _ _⟩
    · have i0' : inb N 0 100 = false := by simpa using i0
      clear hr i0
      go_enter Try.func11, Try.ntmps11
      go_wp2_with fail
      go_step3
      go_wp2_with fail
      refine (implBounceOk _ _ _).mono ?_
      rintro e w1 ⟨rfl, hg⟩
      replace a1 := a1.grown hg (by simp)
      replace g0 := gr_trans g0 hg
      clear hg
      obtain ⟨c0, c1, f0, f1⟩ := two a1
      go_wp2_with (go_at_call 25; refine (implTimesOk _ _).mono ?_; rintro e w' ⟨rfl, rfl⟩)
      obtain ⟨k0, k1, _, _⟩ := two (set2 a1 (.int .i64 0) (.bool false))
      exact bodyPost_ret (v := .agg #[.int .i64 0, .bool false]) (by simp [results, Try.results11, go_sem, k0, k1]) rfl ⟨rfl, gr_new (gr_new g0 (by omega) _ _) (by omega) _ _⟩

theorem many_one (u d : Int) (b : B) (s : Bool) : many u d b [s] = one u d b s := by unfold many one; simp [felt]

set_option maxHeartbeats 1000000 in
theorem implFelt (N : Int) (on s : Bool) (u d : Int) (w : World) : Calls Try.prog 9 #[.agg #[.int .i64 N, .bool on], .bool s, .int .i64 u, .int .i64 d] w (RetB (one u d (N, on) s) w) := by
  have a1 := (fresh1 w (Obj.cells #[.int .i64 N, .bool on] 25) 25 #[.int .i64 0, .bool false]).alloc (Obj.cells #[.bool s] 4)
  have g0 : w.grownBy (((w.alloc (Obj.cells #[.int .i64 N, .bool on] 25)).alloc (Obj.cells #[.int .i64 0, .bool false] 25)).alloc (Obj.cells #[.bool s] 4)) none := gr_alloc (gr_alloc (World.grownBy_alloc _ _ _) _) _
  have hB : Bs (((w.alloc (Obj.cells #[.int .i64 N, .bool on] 25)).alloc (Obj.cells #[.int .i64 0, .bool false] 25)).alloc (Obj.cells #[.bool s] 4)) (w.heap.size + 1 + 1) [s] := by
    have h : Has (((w.alloc (Obj.cells #[.int .i64 N, .bool on] 25)).alloc (Obj.cells #[.int .i64 0, .bool false] 25)).alloc (Obj.cells #[.bool s] 4)) (w.heap.size + 1 + 1) 4 #[.bool s] := by simpa using fresh1 (w.alloc (Obj.cells #[.int .i64 N, .bool on] 25)) (Obj.cells #[.int .i64 0, .bool false] 25) 4 #[.bool s]
    refine ⟨h.lt, fun k hk => ?_⟩
    obtain rfl : k = 0 := by simpa using hk
    exact h.cell 0
  go_enter Try.func9, Try.ntmps9
  go_wp2_with fail
  refine (implFeltAll N on _ 1 [s] u d _ (by simp) hB).mono ?_
  rintro e w1 ⟨rfl, hg⟩
  rw [many_one]
  replace a1 := a1.grown hg (by simp)
  replace g0 := gr_trans g0 hg
  clear hg hB
  obtain ⟨c0, c1, f0, f1⟩ := two a1
  go_wp2_with fail
  obtain ⟨k0, k1, _, _⟩ := two (set2 a1 (.int .i64 (one u d (N, on) s).1) (.bool (one u d (N, on) s).2))
  exact bodyPost_ret (v := .agg #[.int .i64 (one u d (N, on) s).1, .bool (one u d (N, on) s).2]) (by simp [results, Try.results9, go_sem, k0, k1]) rfl ⟨rfl, gr_new (gr_new g0 (by omega) _ _) (by omega) _ _⟩
end Go.Proofs.Ytifafoghgnfioaa.bnc
