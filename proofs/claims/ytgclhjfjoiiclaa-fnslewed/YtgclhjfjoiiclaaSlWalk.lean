/- The walk of the law of what is slewed. -/
import Derived.Test.YtgclhjfjoiiclaaBlSlew2
import Derived.Test.YtgclhjfjoiiclaaBlSlewS
import Derived.Test.YtgclhjfjoiiclaaBlDraw
namespace Go.Proofs.Ytgclhjfjoiiclaa.bl
open Go.ChangeShapes Go.WideShapes Go.ChangeAt Go.RowKit
open Go.Proofs.Ytgclhjfjoiiclaa.nums Go.Proofs.Ytgclhjfjoiiclaa.mem Go.Proofs.Ytgclhjfjoiiclaa.cur
open Go.Proofs.Ytgclhjfjoiiclaa.fix (ret_int ret_bool)
open Go.Proofs.Ytgclhjfjoiiclaa.tab (Ret quiet_w)
open Go.Proofs.Ytgclhjfjoiiclaa.qt (rg_ret rg_same gr_rg)
open Go.Proofs.Ytgclhjfjoiiclaa.il (nth Ints)
set_option linter.unusedVariables false

set_option maxRecDepth 100000 in
set_option maxHeartbeats 2000000 in
theorem slewedLaw (b : Option Addr) (n c : Nat) (w : World) (hb : Bytes w w.heap.size b n) :
    Calls Try.prog 4 #[.slice b n c] w fun e w' => e = .returned (.bool true) ∧ Below w.heap.size w w' := by
  by_cases hbig : 4096 < n
  · have hd : decide (4096 < n) = true := by simp [hbig]
    go_enter Try.func4, Try.ntmps4
    go_wp2_with fail
    refine (big b n c w).mono ?_
    rintro e w1 ⟨rfl, rfl⟩
    go_wp2_with fail
    go_ret
    exact ⟨rfl, Below.refl _ _⟩
  · have hd : decide (4096 < n) = false := by simp [hbig]
    have hn : n ≤ 4096 := by omega
    go_enter Try.func4, Try.ntmps4
    go_wp2_with fail
    refine (big b n c w).mono ?_
    rintro e w1 ⟨rfl, rfl⟩
    go_wp2_with fail
    refine (drawSlewed b n c _ hn hb).mono ?_
    rintro e w1 ⟨a1, c1, x, a2, c2, y, s, rfl, ⟨hx8, hy8⟩, ⟨hxr, hyr⟩, ⟨s0, s1⟩, oX, oY, g0⟩
    clear hd hbig hb hn
    have iX := oX.ints
    have iY := oY.ints
    obtain ⟨z, hz⟩ : ∃ z, slew x y s = z := ⟨_, rfl⟩
    have hz7 : z.length ≤ 7 := hz ▸ slew_len x y s
    have cI := fun W hA hB => implSlewed a1 a2 c1 c2 x y s W hA hB (by unfold maxLen; omega) (by unfold maxLen; omega)
    have cS := fun W hA hB => specSlewed a1 a2 c1 c2 x y s W hA hB (by unfold maxLen; omega) (by unfold maxLen; omega) (by omega) (by omega)
    rw [hz] at cI cS
    replace hz := Lib.hid hz
    clear oX oY
    go_wp2_with fail
    refine (cI _ iX iY).mono ?_
    rintro e w2 ⟨a3, c3, rfl, g2, oZ, _⟩
    replace iX := iX.kept g2
    replace iY := iY.kept g2
    replace g0 := gr_trans g0 g2
    clear g2 cI
    go_wp2_with fail
    refine (cS _ iX iY).mono ?_
    rintro e w3 ⟨a4, c4, rfl, g3, oW, _⟩
    replace iX := iX.kept g3
    replace iY := iY.kept g3
    have iZ := (oZ.kept g3).ints
    replace g0 := gr_trans g0 g3
    clear g3 cS oZ
    go_wp2_with fail
    refine (il.likeInts _ _ _ _ _ _ iZ oW.ints (by omega)).mono ?_
    rintro e w4 ⟨rfl, g4⟩
    replace iX := iX.kept g4
    replace iY := iY.kept g4
    replace iZ := iZ.kept g4
    replace g0 := gr_trans g0 g4
    clear g4 oW
    go_wp2_with fail
    cases hok : okAB x y
    · have hz0 := hz.out
      rw [slew_no hok] at hz0
      subst hz0
      clear hz hok hz7
      go_loopw [7] (fun i wr => i = .int .i64 0 ∧ w4 = wr) (fun _ _ => 0)
      case atStart => exact ⟨rfl, rfl⟩
      case round =>
        obtain ⟨rfl, rfl⟩ := hrel
        go_wp2_with fail
        all_goals go_ret
        all_goals exact ⟨rfl, below_of_none g0⟩
    · have hz0 := hz.out
      rw [slew_yes hok] at hz0
      obtain ⟨hxy, _, okx, oky⟩ := ok_len hok
      have HX : Hid (z.length = x.length) := Lib.hid (by rw [← hz0, to_len])
      have HY : Hid (x.length = y.length) := Lib.hid hxy
      have HZ : Hid (∀ j, j < x.length → nth z j = one (nth x j) (nth y j) s) := Lib.hid (fun j hj => by rw [← hz0]; exact to_at hj)
      clear hz hok hz0 hxy okx oky
      go_loopw [7] (fun i wr => ∃ k : Nat, k ≤ z.length ∧ i = .int .i64 k ∧ w4.grownBy wr none) (fun i _ => z.length - (intOf i).toNat)
      case atStart => exact ⟨0, Nat.zero_le _, rfl, gr_refl _ _⟩
      case round =>
        obtain ⟨k, hk, rfl, hg⟩ := hrel
        by_cases hlt : k < z.length
        · have hkx : k < x.length := by have := HX.out; omega
          have hky : k < y.length := by have := HY.out; omega
          obtain ⟨p1, rfl, _, cx⟩ := (iX.kept hg) k hkx
          obtain ⟨p2, rfl, _, cy⟩ := (iY.kept hg) k hky
          obtain ⟨p3, rfl, _, cz⟩ := (iZ.kept hg) k hlt
          have bx := hxr _ (il.nth_mem hkx)
          have by_ := hyr _ (il.nth_mem hky)
          have hv := HZ.out k hkx
          have hgo := one_in (a := nth x k) (b := nth y k) (step := s) bx by_
          have hnr := one_near (a := nth x k) (b := nth y k) (step := s) bx by_
          have hst := one_step (a := nth x k) (b := nth y k) (step := s) bx by_
          have hze := one_zero (nth x k) s
          rw [← hv] at hgo hnr hst
          have hzv : nth y k = 0 → nth z k = 0 := fun e => by rw [hv, e]; exact hze
          clear hv hze
          generalize nth x k = A at *
          generalize nth y k = Y at *
          generalize nth z k = V at *
          have cP := fun W => sh.lawSize (V - A) W (by omega)
          have cQ := fun W => sh.lawSize (Y - V) W (by omega)
          have cR := fun W => sh.lawSize (Y - A) W (by omega)
          have W1 : IntKind.i64.wrap (V - A) = V - A := IntWalk.i64_in _ (by omega)
          have W2 : IntKind.i64.wrap (Y - V) = Y - V := IntWalk.i64_in _ (by omega)
          have W3 : IntKind.i64.wrap (Y - A) = Y - A := IntWalk.i64_in _ (by omega)
          have e1 : decide (V < 0) = false := by simp; omega
          have e2 : decide (1000 < V) = false := by simp; omega
          generalize max (V - A) (-(V - A)) = P at *
          generalize max (Y - V) (-(Y - V)) = Q at *
          generalize max (Y - A) (-(Y - A)) = R at *
          have e4 : decide (R < Q) = false := by simp; omega
          go_wp2_with fail
          simp only [List.append_eq, List.cons_append, List.nil_append]
          refine wp_region_quiet_lit (by kernel_rfl) (by kernel_rfl) ?_
          by_cases hY : Y = 0
          · have n1 : (Y == 0) = true := by simpa using hY
            have n2 : (Y != 0) = false := by simp [hY]
            have n3 : (V != 0) = false := by simp [hzv hY]
            clear hst hnr hgo hzv hY bx by_
            repeat (with_reducible refine wpQuiet_step (fun K hK => ?_); go_simp; first | (with_reducible refine hK _ ?_; clear hK K) | (apply Exists.intro; refine ⟨fun _ => ?_, hK _ ?_⟩; (first | (go_at_call 19; with_reducible exact quiet_w (cP _)) | (go_at_call 19; with_reducible exact quiet_w (cQ _)) | (go_at_call 19; with_reducible exact quiet_w (cR _))); clear hK K))
            refine wpQuiet_nil ?_
            intro _ hw'
            obtain ⟨nq, hw''⟩ := hw'
            subst hw''
            go_wp2_with fail
            go_roundw
            case rel => exact ⟨k + 1, by omega, by go_num, gr_drewN hg _⟩
            case measure => simp [intOf]; omega
          · have n1 : (Y == 0) = false := by simpa using hY
            have n2 : (Y != 0) = true := by simpa using hY
            by_cases hs : 0 ≤ s
            · have n3 : decide (0 ≤ s) = true := by simp [hs]
              have e3 : decide (s < P) = false := by have := hst hs hY; simp; omega
              clear hst hnr hgo hzv hY bx by_ hs s0 s1
              repeat (with_reducible refine wpQuiet_step (fun K hK => ?_); go_simp; first | (with_reducible refine hK _ ?_; clear hK K) | (apply Exists.intro; refine ⟨fun _ => ?_, hK _ ?_⟩; (first | (go_at_call 19; with_reducible exact quiet_w (cP _)) | (go_at_call 19; with_reducible exact quiet_w (cQ _)) | (go_at_call 19; with_reducible exact quiet_w (cR _))); clear hK K))
              refine wpQuiet_nil ?_
              intro _ hw'
              obtain ⟨nq, hw''⟩ := hw'
              subst hw''
              go_wp2_with fail
              go_roundw
              case rel => exact ⟨k + 1, by omega, by go_num, gr_drewN hg _⟩
              case measure => simp [intOf]; omega
            · have n3 : decide (0 ≤ s) = false := by simp; omega
              clear hst hnr hgo hzv hY bx by_ hs s0 s1
              repeat (with_reducible refine wpQuiet_step (fun K hK => ?_); go_simp; first | (with_reducible refine hK _ ?_; clear hK K) | (apply Exists.intro; refine ⟨fun _ => ?_, hK _ ?_⟩; (first | (go_at_call 19; with_reducible exact quiet_w (cP _)) | (go_at_call 19; with_reducible exact quiet_w (cQ _)) | (go_at_call 19; with_reducible exact quiet_w (cR _))); clear hK K))
              refine wpQuiet_nil ?_
              intro _ hw'
              obtain ⟨nq, hw''⟩ := hw'
              subst hw''
              go_wp2_with fail
              go_roundw
              case rel => exact ⟨k + 1, by omega, by go_num, gr_drewN hg _⟩
              case measure => simp [intOf]; omega
        · obtain rfl : k = z.length := by omega
          have hd : ((z.length : Int) == (x.length : Int)) = true := by have := HX.out; simp; omega
          go_wp2_with fail
          go_ret
          exact ⟨rfl, below_of_none (gr_trans g0 hg)⟩
end Go.Proofs.Ytgclhjfjoiiclaa.bl
