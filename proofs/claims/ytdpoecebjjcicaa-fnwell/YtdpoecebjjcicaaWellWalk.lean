/- The walk of the law of fans that are well. -/
import Derived.Test.YtdpoecebjjcicaaFaW
import Derived.Test.YtdpoecebjjcicaaPick2
import Derived.Test.YtdpoecebjjcicaaFaDraw
namespace Go.Proofs.Ytdpoecebjjcicaa.fan
open Go.ChangeShapes Go.WideShapes Go.ChangeAt Go.RowKit
open Go.Proofs.Ytdpoecebjjcicaa.nums Go.Proofs.Ytdpoecebjjcicaa.mem Go.Proofs.Ytdpoecebjjcicaa.cur
open Go.Proofs.Ytdpoecebjjcicaa.rd (R okR fresh three set3 fresh1 okR_iff)
open Go.Proofs.Ytdpoecebjjcicaa.bnc (feel inb_iff inb_no)
open Go.Proofs.Ytdpoecebjjcicaa.tab (Ret)
open Go.Proofs.Ytdpoecebjjcicaa.qt
set_option linter.unusedVariables false

theorem fresh_in {v a : Int} (h0 : -1000000 ≤ v) (h1 : v ≤ 1000000) (ha : 0 ≤ a) (ha3 : a ≤ 3) : fresh (v, a, true) 3 = true := by
  have : okR (v, a, true) = true := okR_iff.2 ⟨⟨h0, h1⟩, ha, by omega⟩
  unfold fresh; rw [this]; simpa using ha3
theorem well_stays {x v a : Int} (hx0 : 0 ≤ x) (hx1 : x ≤ 1000) (hv : x ≤ 2 * v) (hv1 : v ≤ 1000000) (ha : 0 ≤ a) (ha3 : a ≤ 3) : watched (0, false, false) x (v, a, true) = (0, false, false) := by
  have hr : right (0, false, false) x (v, a, true) = true := right_iff.2 ⟨⟨by omega, by omega⟩, ⟨hx0, hx1⟩, okR_iff.2 ⟨⟨by omega, hv1⟩, ha, by omega⟩⟩
  by_cases hw : 100 ≤ x
  · rw [watched_hi hr hw]
    have hl : lowB x (v, a, true) = false := by unfold lowB; rw [fresh_in (by omega) hv1 ha ha3]; simp; omega
    rw [hl]; rfl
  · rw [watched_low hr (by omega)]; rfl
theorem ill_counts {x v : Int} {j : Nat} (hx0 : 100 ≤ x) (hx1 : x ≤ 1000) (hv0 : 0 ≤ v) (hv : 2 * v < x) (hj : j < 5) : watched ((j : Int), false, false) x (v, 0, true) = (((j + 1 : Nat) : Int), decide (5 ≤ j + 1), decide (5 ≤ j + 1)) := by
  have hr : right ((j : Int), false, false) x (v, 0, true) = true := right_iff.2 ⟨⟨by show (0:Int) ≤ (j:Int); omega, by show (j:Int) ≤ 100; omega⟩, ⟨by omega, hx1⟩, okR_iff.2 ⟨⟨by omega, by omega⟩, by omega, by omega⟩⟩
  rw [watched_hi hr hx0]
  have hl : lowB x (v, 0, true) = true := by unfold lowB; simp; right; exact hv
  rw [hl]
  unfold outed felt feel
  obtain rfl | rfl | rfl | rfl | rfl : j = 0 ∨ j = 1 ∨ j = 2 ∨ j = 3 ∨ j = 4 := by omega
  all_goals rfl

theorem call_stays {x v a : Int} (hx0 : 0 ≤ x) (hx1 : x ≤ 1000) (hv : x ≤ 2 * v) (hv1 : v ≤ 1000000) (ha : 0 ≤ a) (ha3 : a ≤ 3) (W : World) : Calls Try.prog 10 #[.agg #[.int .i64 0, .bool false, .bool false], .int .i64 x, .agg #[.int .i64 v, .int .i64 a, .bool true]] W (RetF (0, false, false) W) :=
  well_stays hx0 hx1 hv hv1 ha ha3 ▸ implWatched 0 x v a false false true W
theorem call_counts {x v : Int} {j : Nat} (hx0 : 100 ≤ x) (hx1 : x ≤ 1000) (hv0 : 0 ≤ v) (hv : 2 * v < x) (hj : j < 5) (W : World) : Calls Try.prog 10 #[.agg #[.int .i64 (j : Int), .bool false, .bool false], .int .i64 x, .agg #[.int .i64 v, .int .i64 0, .bool true]] W (RetF (((j + 1 : Nat) : Int), decide (5 ≤ j + 1), decide (5 ≤ j + 1)) W) :=
  ill_counts hx0 hx1 hv0 hv hj ▸ implWatched (j : Int) x v 0 false false true W

set_option maxRecDepth 100000 in
set_option maxHeartbeats 4000000 in
theorem well (b : Option Addr) (n c : Nat) (w : World) (hb : Bytes w w.heap.size b n) :
    Calls Try.prog 4 #[.slice b n c] w fun e w' => e = .returned (.bool true) ∧ Below w.heap.size w w' := by
  go_enter Try.func4, Try.ntmps4
  go_wp2_with fail
  refine (big b n c w).mono ?_
  rintro e w1 ⟨rfl, rfl⟩
  by_cases hbig : 4096 < n
  · have hd : decide (4096 < n) = true := by simp [hbig]
    go_wp2_with fail
    go_ret
    exact ⟨rfl, Below.refl _ _⟩
  · have hd : decide (4096 < n) = false := by simp [hbig]
    have hn : n ≤ 4096 := by omega
    obtain ⟨f, hf⟩ := known_of hb
    have a3 := Has.fresh w 27 #[.int .i64 0, .bool false, .bool false]
    have g0 : w.grownBy (w.alloc (Obj.cells #[.int .i64 0, .bool false, .bool false] 27)) none := World.grownBy_alloc _ _ _
    go_wp2_with fail
    go_loopw [4, 5] (fun i x wr => ∃ k : Nat, k ≤ 20 ∧ i = .int .i64 k ∧ Has wr w.heap.size 27 #[.int .i64 0, .bool false, .bool false] ∧ w.grownBy wr none) (fun i _ _ => 20 - (intOf i).toNat)
    case atStart => exact ⟨0, by omega, rfl, a3, g0⟩
    case round =>
      clear a3 g0
      obtain ⟨k, hk, rfl, a3, g0⟩ := hrel
      by_cases hlt : k < 20
      · have hd : decide ((k : Int) < 20) = true := by simp; omega
        obtain ⟨x0, x1⟩ := pkd_in (f := f) (n := n) (s := k) (m := 1001) (by omega)
        have cP := pick_at (b := b) (n := n) (c := c) (s := k) (m := 1001) (f := f) wr hn (hf.kept g0) (by omega) (by omega) (by omega) (by omega)
        generalize pkd f n k 1001 = x at x0 x1 cP
        go_wp2_with fail
        refine cP.mono ?_
        rintro e w2 ⟨rfl, rfl⟩
        clear cP
        go_wp2_with fail
        obtain ⟨c0, c1, c2, _, _, _⟩ := three a3
        have r0 := cell_regrown c0
        have r1 := cell_regrown c1
        have r2 := cell_regrown c2
        have W1 : IntKind.i64.wrap (40 + (k : Int)) = 40 + (k : Int) := IntWalk.i64_in _ (by omega)
        have W2 : IntKind.i64.wrap (80 + (k : Int)) = 80 + (k : Int) := IntWalk.i64_in _ (by omega)
        have ht : x.tdiv 2 = x / 2 := Int.tdiv_eq_ediv_of_nonneg x0
        have W3 : IntKind.i64.wrap (x / 2) = x / 2 := IntWalk.i64_in _ (by omega)
        have W4 : IntKind.i64.wrap (x / 2 + 1) = x / 2 + 1 := IntWalk.i64_in _ (by omega)
        obtain ⟨y0, y1⟩ := pkd_in (f := f) (n := n) (s := 40 + (k : Int)) (m := x / 2 + 1) (by omega)
        obtain ⟨z0, z1⟩ := pkd_in (f := f) (n := n) (s := 80 + (k : Int)) (m := 4) (by omega)
        have cP : ∀ W, wr.grownBy W none → Calls Try.prog 19 #[.slice b n c, .int .i64 (40 + (k : Int)), .int .i64 (x / 2 + 1)] W fun e w' => e = .returned (.int .i64 (pkd f n (40 + (k : Int)) (x / 2 + 1))) ∧ W = w' := fun W hW => pick_at W hn ((hf.kept g0).kept hW) (by omega) (by omega) (by omega) (by omega)
        have cQ : ∀ W, wr.grownBy W none → Calls Try.prog 19 #[.slice b n c, .int .i64 (80 + (k : Int)), .int .i64 4] W fun e w' => e = .returned (.int .i64 (pkd f n (80 + (k : Int)) 4)) ∧ W = w' := fun W hW => pick_at W hn ((hf.kept g0).kept hW) (by omega) (by omega) (by omega) (by omega)
        generalize pkd f n (40 + (k : Int)) (x / 2 + 1) = y at y0 y1 cP
        generalize pkd f n (80 + (k : Int)) 4 = z at z0 z1 cQ
        have W5 : IntKind.i64.wrap (x - y) = x - y := IntWalk.i64_in _ (by omega)
        have cW := fun W => call_stays (x := x) (v := x - y) (a := z) (by omega) (by omega) (by omega) (by omega) (by omega) (by omega) W
        refine region_below_tail 17 (by kernel_rfl) (by kernel_rfl) ?_
        simp only [List.take_succ_cons, List.take_zero, List.drop_succ_cons, List.drop_zero]
        repeat (quiet_step (first | (go_at_call 19; (try simp only [ht, W1, W2, W3, W4]); first | with_reducible exact rg_same (cP _ (gr_rg _ _ _)) | with_reducible exact rg_same (cQ _ (gr_rg _ _ _))) | (go_at_call 10; (try simp only [W5]); with_reducible exact rg_fan (cW _))))
        refine wpQuiet_nil ?_
        intro _ hw'
        obtain ⟨⟨dq, osq⟩, hw''⟩ := hw'
        subst hw''
        have gq := gr_rg wr dq osq
        replace a3 := a3.grown gq (by simp)
        replace g0 := gr_trans g0 gq
        clear gq c0 c1 c2 r0 r1 r2 W1 W2 W3 W4 W5 ht cP cQ cW y0 y1 z0 z1
        generalize Go.Sort.grow (redrawn wr dq) osq = w3 at *
        obtain ⟨c0, c1, c2, f0, f1, f2⟩ := three a3
        go_wp2_with fail
        go_roundw
        case rel => exact ⟨k + 1, by omega, by go_num, set3 a3 _ _ _, gr_new (gr_new (gr_new g0 (Nat.le_refl _) _ _) (Nat.le_refl _) _ _) (Nat.le_refl _) _ _⟩
        case measure => simp [intOf]; omega
      · have hd : decide ((k : Int) < 20) = false := by simp; omega
        go_wp2_with fail
        go_loopw [6, 7] (fun i x wr => ∃ k : Nat, k ≤ 5 ∧ i = .int .i64 k ∧ Has wr w.heap.size 27 #[.int .i64 (k : Int), .bool (decide (5 ≤ k)), .bool (decide (5 ≤ k))] ∧ w.grownBy wr none) (fun i _ _ => 5 - (intOf i).toNat)
        case atStart => exact ⟨0, by omega, rfl, a3, g0⟩
        case round =>
          clear a3 g0 hk hlt hd
          obtain ⟨j, hj, rfl, a3, g0⟩ := hrel
          by_cases hlt : j < 5
          · have hd : decide ((j : Int) < 5) = true := by simp; omega
            have h5 : decide (5 ≤ j) = false := by simp; omega
            rw [h5] at a3
            clear h5
            obtain ⟨c0, c1, c2, _, _, _⟩ := three a3
            obtain ⟨x0, x1⟩ := pkd_in (f := f) (n := n) (s := 120 + (j : Int)) (m := 900) (by omega)
            have cP := pick_at (b := b) (n := n) (c := c) (s := 120 + (j : Int)) (m := 900) (f := f) wr hn (hf.kept g0) (by omega) (by omega) (by omega) (by omega)
            generalize pkd f n (120 + (j : Int)) 900 = x at x0 x1 cP
            go_wp2_with fail
            refine cP.mono ?_
            rintro e w2 ⟨rfl, rfl⟩
            clear cP
            go_wp2_with fail
            have r0 := cell_regrown c0
            have r1 := cell_regrown c1
            have r2 := cell_regrown c2
            have W1 : IntKind.i64.wrap (160 + (j : Int)) = 160 + (j : Int) := IntWalk.i64_in _ (by omega)
            have ht : (100 + x).tdiv 2 = (100 + x) / 2 := Int.tdiv_eq_ediv_of_nonneg (by omega)
            have W3 : IntKind.i64.wrap ((100 + x) / 2) = (100 + x) / 2 := IntWalk.i64_in _ (by omega)
            obtain ⟨y0, y1⟩ := pkd_in (f := f) (n := n) (s := 160 + (j : Int)) (m := (100 + x) / 2) (by omega)
            have cP : ∀ W, wr.grownBy W none → Calls Try.prog 19 #[.slice b n c, .int .i64 (160 + (j : Int)), .int .i64 ((100 + x) / 2)] W fun e w' => e = .returned (.int .i64 (pkd f n (160 + (j : Int)) ((100 + x) / 2))) ∧ W = w' := fun W hW => pick_at W hn ((hf.kept g0).kept hW) (by omega) (by omega) (by omega) (by omega)
            generalize pkd f n (160 + (j : Int)) ((100 + x) / 2) = y at y0 y1 cP
            have cW := fun W => call_counts (x := 100 + x) (v := y) (j := j) (by omega) (by omega) (by omega) (by omega) hlt W
            obtain ⟨o, ho⟩ : ∃ o, o = decide (5 ≤ j + 1) := ⟨_, rfl⟩
            rw [← ho] at cW
            refine region_below_tail 10 (by kernel_rfl) (by kernel_rfl) ?_
            simp only [List.take_succ_cons, List.take_zero, List.drop_succ_cons, List.drop_zero]
            repeat (quiet_step (first | (go_at_call 19; (try simp only [ht, W1, W3]); with_reducible exact rg_same (cP _ (gr_rg _ _ _))) | (go_at_call 10; with_reducible exact rg_fan (cW _))))
            refine wpQuiet_nil ?_
            intro _ hw'
            obtain ⟨⟨dq, osq⟩, hw''⟩ := hw'
            subst hw''
            have gq := gr_rg wr dq osq
            replace a3 := a3.grown gq (by simp)
            replace g0 := gr_trans g0 gq
            clear gq c0 c1 c2 r0 r1 r2 W1 W3 ht cP cW y0 y1
            generalize Go.Sort.grow (redrawn wr dq) osq = w3 at *
            obtain ⟨c0, c1, c2, f0, f1, f2⟩ := three a3
            have HO := Lib.hid ho
            clear ho
            go_wp2_with fail
            go_roundw
            case rel => exact ⟨j + 1, by omega, by go_num, by rw [← HO.out]; exact set3 a3 _ _ _, gr_new (gr_new (gr_new g0 (Nat.le_refl _) _ _) (Nat.le_refl _) _ _) (Nat.le_refl _) _ _⟩
            case measure => simp [intOf]; omega
          · obtain rfl : j = 5 := by omega
            obtain ⟨c0, c1, c2, _, _, _⟩ := three a3
            go_wp2_with fail
            refine (specFanOk _ _ _ _).mono ?_
            rintro e w2 ⟨rfl, hg⟩
            go_wp2_with fail
            go_ret
            exact ⟨rfl, below_of_none (gr_trans g0 hg)⟩
end Go.Proofs.Ytdpoecebjjcicaa.fan
