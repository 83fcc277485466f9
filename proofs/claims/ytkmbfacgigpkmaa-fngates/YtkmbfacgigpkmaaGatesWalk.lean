/- The walk of the law of gates. -/
import Derived.Test.YtkmbfacgigpkmaaGt3
import Derived.Test.YtkmbfacgigpkmaaGtEq
import Derived.Test.YtkmbfacgigpkmaaGtDraw
import Derived.Test.YtkmbfacgigpkmaaPick
namespace Go.Proofs.Ytkmbfacgigpkmaa.gt
open Go.ChangeShapes Go.WideShapes Go.ChangeAt Go.RowKit
open Go.Proofs.Ytkmbfacgigpkmaa.nums Go.Proofs.Ytkmbfacgigpkmaa.mem Go.Proofs.Ytkmbfacgigpkmaa.cur
open Go.Proofs.Ytkmbfacgigpkmaa.fix (ret_int ret_bool)
open Go.Proofs.Ytkmbfacgigpkmaa.tab (Ret quiet_w)
open Go.Proofs.Ytkmbfacgigpkmaa.md (Fx cs8 fac factsOk eight)
open Go.Proofs.Ytkmbfacgigpkmaa.qt (rg_ret rg_same gr_rg)
set_option linter.unusedVariables false

/-- What is fired now: all was stopped and still, for so long, and it is not too low. -/
theorem fired_way {s : Int} {ch st low : Bool} {m : Int} (h : ticked (s, false) (ch && st) low = (m, true)) : ch = true ∧ st = true ∧ ¬ m < 4 ∧ low = false := by
  unfold ticked at h
  cases ch <;> cases st <;> simp at h
  obtain ⟨rfl, h1, h2⟩ := h
  exact ⟨rfl, rfl, by omega, h2⟩
theorem tick_on {v : Int} {low : Bool} (h0 : 0 ≤ v) (h1 : v ≤ 20) : ticked (v, false) true low = (v + 1, decide (4 ≤ v + 1) && !low) := by
  have h : min (v + 1) 100 = v + 1 := by omega
  unfold ticked
  simp [h]
theorem tick_off {v : Int} {low : Bool} : ticked (v, false) false low = (0, false) := rfl
/-- How it can be told whether it is too low. -/
inductive Low : Bool → Bool → Bool → Prop
  | none (u : Bool) : Low false u false
  | low : Low true true true
  | high : Low true false false
theorem low_u {u : Bool} (h : Low true u false) : u = false := by cases h; rfl
theorem low_t {o u : Bool} (h : Low o u true) : o = true ∧ u = true := by cases h; exact ⟨rfl, rfl⟩
theorem low_is (f : Fx) : Low f.ho (decide (f.h < 30)) (tooLow f) := by
  unfold tooLow
  cases f.ho <;> cases decide (f.h < 30) <;> constructor

set_option maxRecDepth 100000 in
set_option maxHeartbeats 4000000 in
theorem gatesLaw (b : Option Addr) (n c : Nat) (w : World) (hb : Bytes w w.heap.size b n) :
    Calls Try.prog 3 #[.slice b n c] w fun e w' => e = .returned (.bool true) ∧ Below w.heap.size w w' := by
  by_cases hbig : 4096 < n
  · have hd : decide (4096 < n) = true := by simp [hbig]
    go_enter Try.func3, Try.ntmps3
    go_wp2_with fail
    refine (big b n c w).mono ?_
    rintro e w1 ⟨rfl, rfl⟩
    go_wp2_with fail
    go_ret
    exact ⟨rfl, Below.refl _ _⟩
  · have hd : decide (4096 < n) = false := by simp [hbig]
    have hn : n ≤ 4096 := by omega
    go_enter Try.func3, Try.ntmps3
    go_wp2_with fail
    refine (big b n c w).mono ?_
    rintro e w1 ⟨rfl, rfl⟩
    go_wp2_with fail
    refine (drawGated b n c _ hn hb).mono ?_
    rintro e w1 ⟨⟨s, x⟩, ch, st, f, rfl, g0⟩
    clear hd hbig
    have a0 := (Has.fresh w1 25 #[.int .i64 s, .bool x]).alloc (Obj.cells (cs8 f) 27)
    have D0 : Has ((w1.alloc (Obj.cells #[.int .i64 s, .bool x] 25)).alloc (Obj.cells (cs8 f) 27)) (w1.heap.size + 1) 27 (cs8 f) := by
      simpa using Has.fresh (w1.alloc (Obj.cells #[.int .i64 s, .bool x] 25)) 27 (cs8 f)
    replace g0 := gr_alloc (gr_alloc g0 (Obj.cells #[.int .i64 s, .bool x] 25)) (Obj.cells (cs8 f) 27)
    have cI := implGated (s, x) ch st f
    have cS := specGated (s, x) ch st f
    have hno := gated_no (g := (s, x)) (ch := ch) (st := st) (f := f)
    have hyes := gated_yes (g := (s, x)) (ch := ch) (st := st) (f := f)
    obtain ⟨⟨m, y⟩, hT⟩ : ∃ T, gated (s, x) ch st f = T := ⟨_, rfl⟩
    rw [hT] at cI cS hno hyes
    clear hT
    replace hno := Lib.hid hno
    replace hyes := Lib.hid hyes
    go_upto_region 4 with fail
    generalize (w1.alloc (Obj.cells #[.int .i64 s, .bool x] 25)).alloc (Obj.cells #[.int .i64 f.sp, .bool f.so, .int .i64 f.h, .bool f.ho, .int .i64 f.c, .bool f.ar, .int .i64 f.wn, .int .i64 f.tm] 27) = w2 at *
    generalize w1.heap.size = X at *
    obtain ⟨c0, c1, _, _⟩ := two a0
    obtain ⟨e0, e1, e2, e3, e4, e5, e6, e7⟩ := eight D0
    go_wp2_with fail
    refine (cI _).mono ?_
    rintro e w3 ⟨rfl, g3⟩
    replace a0 := (a0.grown g3 (by simp)).alloc (Obj.cells #[.int .i64 m, .bool y] 25)
    replace D0 := (D0.grown g3 (by simp)).alloc (Obj.cells #[.int .i64 m, .bool y] 25)
    have b0 := Has.fresh w3 25 #[.int .i64 m, .bool y]
    replace g0 := gr_alloc (gr_trans g0 g3) (Obj.cells #[.int .i64 m, .bool y] 25)
    clear g3 cI c0 c1 e0 e1 e2 e3 e4 e5 e6 e7
    go_upto_region 5 with fail
    generalize w3.alloc (Obj.cells #[.int .i64 m, .bool y] 25) = w4 at *
    generalize w3.heap.size = Y at *
    have cG := implGateOk (s, x)
    have cH := specGateOk (s, x)
    have hqN := fun W => neqG_same W m y
    have hGd := guardG
    have hs : gateOk s = true → 0 ≤ s ∧ s ≤ 100 := by unfold gateOk inb; simp
    have hG : gateOk ((s, x) : G).1 = gateOk s := rfl
    rw [hG] at cG cH hno hyes
    clear hG
    have cF : ∀ W, Calls Try.prog 12 #[fac f] W (Ret (.bool (factsOk f)) W) := md.specFactsOk f
    have h2 : factsOk f = true ∨ factsOk f = false := by cases factsOk f <;> simp
    generalize ho : gateOk s = o at *
    generalize hp : factsOk f = p at *
    obtain ⟨c0, c1, _, _⟩ := two a0
    obtain ⟨d0, d1, _, _⟩ := two b0
    obtain ⟨e0, e1, e2, e3, e4, e5, e6, e7⟩ := eight D0
    have r0 : ∀ d os, (Go.Sort.grow (redrawn w4 d) os).cell? ⟨X, 0, none⟩ = some (.int .i64 s) := cell_regrown c0
    have r1 : ∀ d os, (Go.Sort.grow (redrawn w4 d) os).cell? ⟨X, 1, none⟩ = some (.bool x) := cell_regrown c1
    have r2 : ∀ d os, (Go.Sort.grow (redrawn w4 d) os).cell? ⟨Y, 0, none⟩ = some (.int .i64 m) := cell_regrown d0
    have r3 : ∀ d os, (Go.Sort.grow (redrawn w4 d) os).cell? ⟨Y, 1, none⟩ = some (.bool y) := cell_regrown d1
    have q0 : ∀ d os, (Go.Sort.grow (redrawn w4 d) os).cell? ⟨X + 1, 0, none⟩ = some (.int .i64 f.sp) := cell_regrown e0
    have q1 : ∀ d os, (Go.Sort.grow (redrawn w4 d) os).cell? ⟨X + 1, 1, none⟩ = some (.bool f.so) := cell_regrown e1
    have q2 : ∀ d os, (Go.Sort.grow (redrawn w4 d) os).cell? ⟨X + 1, 2, none⟩ = some (.int .i64 f.h) := cell_regrown e2
    have q3 : ∀ d os, (Go.Sort.grow (redrawn w4 d) os).cell? ⟨X + 1, 3, none⟩ = some (.bool f.ho) := cell_regrown e3
    have q4 : ∀ d os, (Go.Sort.grow (redrawn w4 d) os).cell? ⟨X + 1, 4, none⟩ = some (.int .i64 f.c) := cell_regrown e4
    have q5 : ∀ d os, (Go.Sort.grow (redrawn w4 d) os).cell? ⟨X + 1, 5, none⟩ = some (.bool f.ar) := cell_regrown e5
    have q6 : ∀ d os, (Go.Sort.grow (redrawn w4 d) os).cell? ⟨X + 1, 6, none⟩ = some (.int .i64 f.wn) := cell_regrown e6
    have q7 : ∀ d os, (Go.Sort.grow (redrawn w4 d) os).cell? ⟨X + 1, 7, none⟩ = some (.int .i64 f.tm) := cell_regrown e7
    clear c0 c1 d0 d1 e0 e1 e2 e3 e4 e5 e6 e7
    refine wp_region_quiet_below (by kernel_rfl) (by kernel_rfl) ?_
    repeat (quiet_step (first | (go_at_call 9; with_reducible exact rg_ret (cS _)) | (go_at_call 10; with_reducible exact rg_ret (cG _)) | (go_at_call 11; with_reducible exact rg_ret (cH _))))
    refine wpQuiet_nil ?_
    intro _ hw'
    obtain ⟨⟨dq, osq⟩, hw''⟩ := hw'
    subst hw''
    have gq := gr_rg w4 dq osq
    replace D0 := D0.grown gq (by simp)
    replace a0 := a0.grown gq (by simp)
    replace b0 := b0.grown gq (by simp)
    replace g0 := gr_trans g0 gq
    clear gq q0 q1 q2 q3 q4 q5 q6 q7 r0 r1 r2 r3 cG cS hqN
    generalize Go.Sort.grow (redrawn w4 dq) osq = w5 at *
    go_upto_region 7 with fail
    obtain ⟨c0, c1, _, _⟩ := two a0
    go_wp2_with fail
    refine (cH _).mono ?_
    rintro e w6 ⟨rfl, g6⟩
    replace a0 := a0.grown g6 (by simp)
    replace b0 := b0.grown g6 (by simp)
    replace D0 := D0.grown g6 (by simp)
    replace g0 := gr_trans g0 g6
    clear g6 cH c0 c1
    obtain ⟨d0, d1, _, _⟩ := two b0
    cases o
    · obtain ⟨rfl, rfl⟩ : m = 0 ∧ y = false := by simpa using hno.out rfl
      have hE := fun W => eqlG_same W 0 false
      clear hno hyes
      go_wp2_with fail
      go_ret
      exact ⟨rfl, below_of_none g0⟩
    · obtain ⟨e0, e1, e2, e3, e4, e5, e6, e7⟩ := eight D0
      go_wp2_with fail
      refine (cF _).mono ?_
      rintro e w7 ⟨rfl, g7⟩
      replace a0 := a0.grown g7 (by simp)
      replace b0 := b0.grown g7 (by simp)
      replace D0 := D0.grown g7 (by simp)
      replace g0 := gr_trans g0 g7
      clear g7 cF d0 d1 e0 e1 e2 e3 e4 e5 e6 e7
      obtain ⟨d0, d1, _, _⟩ := two b0
      obtain ⟨c0, c1, _, _⟩ := two a0
      cases p
      · obtain ⟨rfl, rfl⟩ : m = 0 ∧ y = false := by simpa using hno.out rfl
        have hE := fun W => eqlG_same W 0 false
        clear hno hyes
        go_wp2_with fail
        go_ret
        exact ⟨rfl, below_of_none g0⟩
      · have hY := hyes.out (by first | rfl | trivial) (by first | rfl | trivial)
        clear hno hyes h2
        cases x
        · replace hY := Lib.hid hY
          go_upto_region 11 with fail
          obtain ⟨e0, e1, e2, e3, e4, e5, e6, e7⟩ := eight D0
          have hL := low_is f
          have hF := fun (h : y = true) => fired_way (s := s) (ch := ch) (st := st) (low := tooLow f) (m := m) (hY.out.symm.trans (by rw [h]))
          generalize hlow : tooLow f = low at *
          clear hY
          go_cut [79] (fun v wx => v = .bool false ∧ w7 = wx)
          case first =>
            cases y
            · clear hF hL
              go_wp2_with fail
              go_meet
              exact ⟨rfl, rfl⟩
            · obtain ⟨rfl, rfl, hm, rfl⟩ := hF rfl
              clear hF
              cases ho' : f.ho
              · rw [ho'] at e3 hL
                clear hL
                go_wp2_with fail
                go_meet
                exact ⟨rfl, rfl⟩
              · rw [ho'] at e3 hL
                have hu : decide (f.h < 30) = false := low_u hL
                clear hL
                go_wp2_with fail
                go_meet
                exact ⟨rfl, rfl⟩
          case rest =>
            obtain ⟨rfl, rfl⟩ := hcut
            clear hF
            have cI := fun on v (W : World) => implGated (v, false) true on f W
            have hyes := fun on v (h : gateOk v = true) => gated_yes (g := (v, false)) (ch := true) (st := on) (f := f) h hp
            clear hs ho hp a0 b0 c0 c1 d0 d1
            have k0 := Has.fresh w7 25 #[.int .i64 0, .bool false]
            have hz := D0.lt
            have hZ := g0.size
            replace D0 := D0.alloc (Obj.cells #[.int .i64 0, .bool false] 25)
            replace g0 := gr_alloc g0 (Obj.cells #[.int .i64 0, .bool false] 25)
            clear e0 e1 e2 e3 e4 e5 e6 e7
            go_upto_region 14 with fail
            generalize w7.alloc (Obj.cells #[.int .i64 0, .bool false] 25) = w8 at *
            generalize w7.heap.size = Z at *
            go_wp2_with fail
            go_loopw [9, 10, 11] (fun n i o wr => ∃ (k : Nat) (v : Int), k ≤ 20 ∧ i = .int .i64 k ∧ n = .int .i64 v ∧ 0 ≤ v ∧ v ≤ k ∧ Hid (4 ≤ v → low = true) ∧ Has wr Z 25 #[.int .i64 v, .bool false] ∧ Has wr (X + 1) 27 (cs8 f) ∧ w.grownBy wr none) (fun _ i _ _ => 20 - (intOf i).toNat)
            case atStart => exact ⟨0, 0, by omega, rfl, rfl, by omega, by omega, Lib.hid (fun h => by omega), k0, D0, g0⟩
            case round =>
              clear k0 D0 g0
              obtain ⟨k, v, hk, rfl, rfl, v0, v1, hV, k0, D0, g0⟩ := hrel
              by_cases hlt : k < 20
              · have hd : decide ((k : Int) < 20) = true := by simp; omega
                go_wp2_with fail
                refine (cur.pick b n c _ k 5 _ hn (bytes_grown hb g0) (by omega) (by omega) (by omega) (by omega)).mono ?_
                rintro e w9 ⟨r, r0, r1, rfl, rfl⟩
                have W1 : IntKind.i64.wrap (v + 1) = v + 1 := IntWalk.i64_in _ (by omega)
                obtain ⟨c0, c1, _, _⟩ := two k0
                obtain ⟨e0, e1, e2, e3, e4, e5, e6, e7⟩ := eight D0
                by_cases hr : 0 < r
                · have hr' : decide (0 < r) = true := by simp [hr]
                  have hg := hyes true v (by unfold gateOk inb; simp; omega)
                  rw [hlow, show (true && true) = true from rfl, tick_on v0 (by omega)] at hg
                  obtain ⟨z, hz'⟩ : ∃ z, (decide (4 ≤ v + 1) && !low) = z := ⟨_, rfl⟩
                  rw [hz'] at hg
                  have cJ := cI true v
                  rw [hg] at cJ
                  replace hz' := Lib.hid hz'
                  clear hg cI hyes
                  go_wp2_with fail
                  refine (cJ _).mono ?_
                  rintro e w10 ⟨rfl, g10⟩
                  replace k0 := k0.grown g10 (by simp)
                  replace D0 := D0.grown g10 (by simp)
                  replace g0 := gr_trans g0 g10
                  clear g10 cJ c0 c1 e0 e1 e2 e3 e4 e5 e6 e7
                  obtain ⟨c0, c1, _, _⟩ := two k0
                  go_upto_region 23 with fail
                  have k1 := set2 k0 (.int .i64 (v + 1)) (.bool z)
                  replace D0 := (D0.set_other (g' := Z) (by omega) 0 (.int .i64 (v + 1))).set_other (g' := Z) (by omega) 1 (.bool z)
                  replace g0 := gr_new (gr_new g0 hZ 0 (.int .i64 (v + 1))) hZ 1 (.bool z)
                  generalize (w10.setCell ⟨Z, 0, none⟩ (.int .i64 (v + 1))).setCell ⟨Z, 1, none⟩ (.bool z) = w11 at *
                  clear k0 c0 c1
                  obtain ⟨c0, c1, _, _⟩ := two k1
                  obtain ⟨e0, e1, e2, e3, e4, e5, e6, e7⟩ := eight D0
                  cases z
                  · by_cases h4 : 4 ≤ v + 1
                    · have hd4 : decide (4 ≤ v + 1) = true := by simp [h4]
                      have hlw : low = true := by have h := hz'.out; rw [hd4] at h; cases low <;> simp at h ⊢
                      subst hlw
                      obtain ⟨ho', hu⟩ := low_t hL
                      rw [ho'] at e3
                      clear hL ho'
                      go_wp2_with fail
                      go_roundw
                      case rel => exact ⟨k + 1, v + 1, by omega, by go_num, rfl, by omega, by omega, Lib.hid (by first | (intro; trivial) | trivial), k1, D0, g0⟩
                      case measure => simp [intOf]; omega
                    · have hd4 : decide (4 ≤ v + 1) = false := by simp; omega
                      clear hL
                      go_wp2_with fail
                      go_roundw
                      case rel => exact ⟨k + 1, v + 1, by omega, by go_num, rfl, by omega, by omega, Lib.hid (fun h => absurd h h4), k1, D0, g0⟩
                      case measure => simp [intOf]; omega
                  · obtain ⟨hd4, rfl⟩ : decide (4 ≤ v + 1) = true ∧ low = false := by have h := hz'.out; simpa using h
                    have h4 : 4 ≤ v + 1 := by simpa using hd4
                    cases ho' : f.ho
                    · rw [ho'] at e3
                      clear hL hlow
                      go_wp2_with fail
                      go_ret
                      exact ⟨rfl, below_of_none g0⟩
                    · rw [ho'] at e3 hL
                      have hu := low_u hL
                      clear hL hlow
                      go_wp2_with fail
                      go_ret
                      exact ⟨rfl, below_of_none g0⟩
                · have hr' : decide (0 < r) = false := by simp [hr]
                  have hg := hyes false v (by unfold gateOk inb; simp; omega)
                  rw [show (true && false) = false from rfl, tick_off] at hg
                  have cJ := cI false v
                  rw [hg] at cJ
                  clear hg cI hyes hL hlow
                  go_wp2_with fail
                  refine (cJ _).mono ?_
                  rintro e w10 ⟨rfl, g10⟩
                  replace k0 := k0.grown g10 (by simp)
                  replace D0 := D0.grown g10 (by simp)
                  replace g0 := gr_trans g0 g10
                  clear g10 cJ c0 c1 e0 e1 e2 e3 e4 e5 e6 e7
                  obtain ⟨c0, c1, _, _⟩ := two k0
                  go_upto_region 23 with fail
                  have k1 := set2 k0 (.int .i64 0) (.bool false)
                  replace D0 := (D0.set_other (g' := Z) (by omega) 0 (.int .i64 0)).set_other (g' := Z) (by omega) 1 (.bool false)
                  replace g0 := gr_new (gr_new g0 hZ 0 (.int .i64 0)) hZ 1 (.bool false)
                  generalize (w10.setCell ⟨Z, 0, none⟩ (.int .i64 0)).setCell ⟨Z, 1, none⟩ (.bool false) = w11 at *
                  clear k0 c0 c1
                  obtain ⟨c0, c1, _, _⟩ := two k1
                  go_wp2_with fail
                  go_roundw
                  case rel => exact ⟨k + 1, 0, by omega, by go_num, rfl, by omega, by omega, Lib.hid (fun h => by omega), k1, D0, g0⟩
                  case measure => simp [intOf]; omega
              · have hd : decide ((k : Int) < 20) = false := by simp; omega
                have hG : gateOk v = true := by unfold gateOk inb; simp; omega
                have cG : ∀ W, Calls Try.prog 10 #[gv (v, false)] W (Ret (.bool true) W) := fun W => hG ▸ implGateOk (v, false) W
                obtain ⟨c0, c1, _, _⟩ := two k0
                clear hL hlow cI hyes hG
                go_wp2_with fail
                refine (cG _).mono ?_
                rintro e w10 ⟨rfl, g10⟩
                go_wp2_with fail
                go_ret
                exact ⟨rfl, below_of_none (gr_trans g0 g10)⟩
        · have hY2 : m = s ∧ y = true := by simpa [ticked] using hY
          obtain ⟨rfl, rfl⟩ := hY2
          have hE := fun W => eqlG_same W m true
          clear hY
          go_wp2_with fail
          go_ret
          exact ⟨rfl, below_of_none g0⟩
end Go.Proofs.Ytkmbfacgigpkmaa.gt
