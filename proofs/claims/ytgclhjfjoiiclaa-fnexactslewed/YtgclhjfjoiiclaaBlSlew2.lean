/- Slewed of the program, whole. -/
import Derived.Test.YtgclhjfjoiiclaaBlSlew
namespace Go.Proofs.Ytgclhjfjoiiclaa.bl
open Go.ChangeShapes Go.WideShapes Go.ChangeAt Go.RowKit
open Go.Proofs.Ytgclhjfjoiiclaa.nums Go.Proofs.Ytgclhjfjoiiclaa.mem
open Go.Proofs.Ytgclhjfjoiiclaa.il (nth Ints vals RetT OwnT blk blk_some blk_nil)
set_option linter.unusedVariables false

set_option maxRecDepth 100000 in
set_option maxHeartbeats 2000000 in
theorem implSlewed (a b : Option Addr) (c d : Nat) (x y : List Int) (s : Int) (w : World) (hx : Ints w a x) (hy : Ints w b y) (hl : x.length ≤ maxLen) (hm : y.length ≤ maxLen) :
    Calls Try.prog 21 #[.slice a x.length c, .slice b y.length d, .int .i64 s] w (RetT (slew x y s) w) := by
  have cX := fun W hW => implOutsOk a c x W hW hl
  have cY := fun W hW => implOutsOk b d y W hW hm
  have hl' : x.length ≤ 9223372036854775807 := by unfold maxLen at hl; exact hl
  have hm' : y.length ≤ 9223372036854775807 := by unfold maxLen at hm; exact hm
  have hno := fun h => slew_no (x := x) (y := y) h s
  have hyes := fun h => slew_yes (x := x) (y := y) h s
  have hln := fun h => ok_len (x := x) (y := y) h
  unfold okAB at hno hyes hln
  clear hl hm
  by_cases hxy : x.length = y.length
  · have hne : ((x.length : Int) != (y.length : Int)) = false := by simp [hxy]
    have hd : decide (x.length = y.length) = true := by simp [hxy]
    rw [hd] at hno hyes hln
    cases h1 : okA x
    · rw [h1] at cX hno
      rw [hno rfl]
      have HXY := Lib.hid hxy
      clear hno hyes hln h1 hd hxy
      go_enter Try.func21, Try.ntmps21
      go_wp2_with fail
      refine (cX _ hx).mono ?_
      rintro e w' ⟨rfl, rfl⟩
      go_wp2_with fail
      go_ret
      exact ⟨none, 0, rfl, gr_refl _ _, Or.inl rfl, fun b e => by rw [blk_nil] at e; cases e⟩
    · rw [h1] at cX hno hyes hln
      cases h2 : okA y
      · rw [h2] at cY hno
        rw [hno rfl]
        have HXY := Lib.hid hxy
        clear hno hyes hln h1 h2 hd hxy
        go_enter Try.func21, Try.ntmps21
        go_wp2_with fail
        refine (cX _ hx).mono ?_
        rintro e w' ⟨rfl, rfl⟩
        go_wp2_with fail
        refine (cY _ hy).mono ?_
        rintro e w' ⟨rfl, rfl⟩
        go_wp2_with fail
        go_ret
        exact ⟨none, 0, rfl, gr_refl _ _, Or.inl rfl, fun b e => by rw [blk_nil] at e; cases e⟩
      · rw [h2] at cY hyes hln
        have h7 := (hln rfl).2.1
        have HY := Lib.hid (hyes rfl)
        have HXY := Lib.hid hxy
        clear hno hyes hln h1 h2 hd hxy
        go_enter Try.func21, Try.ntmps21
        go_wp2_with fail
        refine (cX _ hx).mono ?_
        rintro e w' ⟨rfl, rfl⟩
        go_wp2_with fail
        refine (cY _ hy).mono ?_
        rintro e w' ⟨rfl, rfl⟩
        go_wp2_with fail
        refine (copied a c x _ hx h7).mono ?_
        rintro e w1 ⟨rfl, g1, cs, hc, hcs⟩
        go_wp2_with fail
        go_loopw [29] (fun i wr => ∃ (k : Nat) (A : Array Value), k ≤ y.length ∧ i = .int .i64 k ∧ Has wr w.heap.size 74 A ∧ Hid (∀ j, j < k → A[j]? = some (.int .i64 (one (nth x j) (nth y j) s))) ∧ Hid (∀ j, k ≤ j → j < x.length → A[j]? = some (.int .i64 (nth x j))) ∧ w.grownBy wr none) (fun i _ => y.length - (intOf i).toNat)
        case atStart => exact ⟨0, cs, Nat.zero_le _, rfl, hc, Lib.hid (fun j hj => by omega), Lib.hid (fun j _ hj => hcs j hj), g1⟩
        case round =>
          clear hc hcs g1
          obtain ⟨k, A, hk, rfl, hA, hr, hs, hg⟩ := hrel
          by_cases hlt : k < y.length
          · have hkx : k < x.length := by have := HXY.out; omega
            obtain ⟨z, rfl, hb, cz⟩ := (hy.kept hg) k hlt
            have e0 := hs.out k (Nat.le_refl _) hkx
            have hsz : k < A.size := (Array.getElem?_eq_some_iff.1 e0).1
            have d0 := (hA.cell k).trans e0
            have f0 := hA.frozen k
            have cO := implOne (nth x k) (nth y k) s
            obtain ⟨v, hv⟩ : ∃ v, one (nth x k) (nth y k) s = v := ⟨_, rfl⟩
            rw [hv] at cO
            have HV := Lib.hid hv
            clear e0 hv
            go_wp2_with (go_at_call 52; refine (cO _).mono ?_; rintro e w' ⟨rfl, rfl⟩)
            go_roundw
            case rel => exact ⟨k + 1, _, by omega, by go_num, hA.set _ _, Lib.hid (fun j hj => by
              by_cases e : j = k
              · subst e; rw [Array.getElem?_setIfInBounds_self_of_lt hsz, HV.out]
              · rw [Array.getElem?_setIfInBounds_ne (by omega)]; exact hr.out j (by omega)), Lib.hid (fun j hj hj' => by
              rw [Array.getElem?_setIfInBounds_ne (by omega)]; exact hs.out j (by omega) hj'), gr_new hg (Nat.le_refl _) _ _⟩
            case measure => simp [intOf]; omega
          · obtain rfl : k = y.length := by omega
            go_wp2_with fail
            go_ret
            rw [HY.out]
            refine ⟨some ⟨w.heap.size, 0, none⟩, x.length, by rw [to_len]; rfl, hg, ?_, fun b e => ?_⟩
            · refine Or.inr ⟨w.heap.size, 0, _, A, rfl, hA, fun j hj => ?_⟩
              rw [to_len] at hj
              rw [Nat.zero_add, to_at hj]
              exact hr.out j (by have := HXY.out; omega)
            · by_cases h0 : slewTo x y s x.length = []
              · rw [h0, blk_nil] at e; cases e
              · rw [blk_some h0] at e; injection e with e; omega
  · have hne : ((x.length : Int) != (y.length : Int)) = true := by simp; omega
    have hd : decide (x.length = y.length) = false := by simp [hxy]
    rw [hd] at hno
    rw [hno rfl]
    clear hno hyes hln hd cX cY
    go_enter Try.func21, Try.ntmps21
    go_wp2_with fail
    go_ret
    exact ⟨none, 0, rfl, gr_refl _ _, Or.inl rfl, fun b e => by rw [blk_nil] at e; cases e⟩
end Go.Proofs.Ytgclhjfjoiiclaa.bl
