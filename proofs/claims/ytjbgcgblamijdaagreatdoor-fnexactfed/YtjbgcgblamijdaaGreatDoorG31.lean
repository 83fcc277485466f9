/- SensesOk of both sides. Heard of the model. -/
import Derived.Test.YtjbgcgblamijdaaGreatDoorG25
import Derived.Test.YtjbgcgblamijdaaGreatDoorG28
import Derived.Test.YtjbgcgblamijdaaGreatDoorG20
/- SensesOk of both sides. -/
namespace Go.Proofs.YtjbgcgblamijdaaGreatDoor.se
open Go.ChangeShapes Go.WideShapes Go.ChangeAt Go.RowKit
open Go.Proofs.YtjbgcgblamijdaaGreatDoor.nums Go.Proofs.YtjbgcgblamijdaaGreatDoor.mem
open Go.Proofs.YtjbgcgblamijdaaGreatDoor.tab (Ret)
open Go.Proofs.YtjbgcgblamijdaaGreatDoor.rd (R okR zR OwnR rx ra ro)
open Go.Proofs.YtjbgcgblamijdaaGreatDoor.il (nth Ints Own)
set_option linter.unusedVariables false

theorem all_notR {l : List R} {k : Nat} (hk : k < l.length) (h : okR (rx l k, ra l k, ro l k) = false) (n : Nat) : okL l n = false := by
  unfold okL; rw [rd.all_no hk h]; rfl
theorem all_yesR {l : List R} (h : ∀ k, k < l.length → okR (rx l k, ra l k, ro l k) = true) (n : Nat) : okL l n = decide (l.length = n) := by
  unfold okL; rw [rd.all_yes h]; rfl
theorem all_notQ {l : List Int} {k : Nat} (hk : k < l.length) (h : okQ (nth l k) = false) : okQs l = false := by
  have : l.all okQ = false := by
    rw [Bool.eq_false_iff]; intro e
    rw [List.all_eq_true] at e
    rw [e _ (il.nth_mem hk)] at h; cases h
  unfold okQs; rw [this]; rfl
theorem all_yesQ {l : List Int} (h : ∀ k, k < l.length → okQ (nth l k) = true) : okQs l = decide (l.length = 4) := by
  have : l.all okQ = true := by
    rw [List.all_eq_true]
    intro x hx
    obtain ⟨k, hk, rfl⟩ := List.mem_iff_getElem.1 hx
    have := h k hk
    rwa [il.nth_lt hk] at this
  unfold okQs; rw [this]; rfl

theorem eqn (a b : Nat) : ((a : Int) == (b : Int)) = decide (a = b) := by
  by_cases h : a = b
  · subst h; simp
  · have h2 : ¬ (a : Int) = (b : Int) := by omega
    simp [h, h2]
theorem eq4 (a : Nat) : ((a : Int) == 4) = decide (a = 4) := eqn a 4
theorem okQ_or (n : Int) : okQ n = (decide (n = -1) || inb n 0 99) := by
  rw [Bool.eq_iff_iff]; unfold okQ inb; simp; omega
set_option maxHeartbeats 1000000 in
theorem implReadingsOk (a : Option Addr) (cap : Nat) (l : List R) (n : Nat) (w : World) (h : rd.Arg w a l) (hl : l.length ≤ 1048576) (hn : n ≤ 100) : Calls Tryz.prog 59 #[.slice a l.length cap, .int .i64 n] w (Ret (.bool (okL l n)) w) := by
  go_enter Tryz.func59, Tryz.ntmps59
  go_wp2_with fail
  go_loopw [9] (fun i wr => ∃ k : Nat, k ≤ l.length ∧ i = .int .i64 k ∧ Hid (∀ j, j < k → okR (rx l j, ra l j, ro l j) = true) ∧ w.grownBy wr none) (fun i _ => l.length - (intOf i).toNat)
  case atStart => exact ⟨0, Nat.zero_le _, rfl, Lib.hid (fun j hj => by omega), gr_refl _ _⟩
  case round =>
    obtain ⟨k, hk, rfl, hok, hg⟩ := hrel
    by_cases hlt : k < l.length
    · obtain ⟨x, rfl, hb, cx, cy, cz⟩ := (h.kept hg) k hlt
      have hg0 := gr_alloc hg (Obj.cells #[.int .i64 (rx l k), .int .i64 (ra l k), .bool (ro l k)] 42)
      by_cases ho : okR (rx l k, ra l k, ro l k) = true
      · have HO := Lib.hid ho
        have cR : ∀ W, Calls Tryz.prog 106 #[.agg #[.int .i64 (rx l k), .int .i64 (ra l k), .bool (ro l k)]] W (Ret (.bool true) W) := fun W => ho ▸ rd.implReadingOk _ _ _ W
        clear ho
        go_wp2_with fail
        refine (cR _).mono ?_
        rintro e w1 ⟨rfl, hg1⟩
        go_wp2_with fail
        go_roundw
        case rel => exact ⟨k + 1, by omega, by go_num, Lib.hid (fun j hj => by
          by_cases e : j = k
          · subst e; exact HO.out
          · exact hok.out j (by omega)), gr_trans hg0 hg1⟩
        case measure => simp [intOf]; omega
      · have ho' : okR (rx l k, ra l k, ro l k) = false := Bool.eq_false_iff.2 ho
        have HA := Lib.hid (all_notR hlt ho' n)
        have cR : ∀ W, Calls Tryz.prog 106 #[.agg #[.int .i64 (rx l k), .int .i64 (ra l k), .bool (ro l k)]] W (Ret (.bool false) W) := fun W => ho' ▸ rd.implReadingOk _ _ _ W
        clear ho ho'
        go_wp2_with fail
        refine (cR _).mono ?_
        rintro e w1 ⟨rfl, hg1⟩
        go_wp2_with fail
        go_ret
        rw [HA.out]
        exact ⟨rfl, gr_trans hg0 hg1⟩
    · obtain rfl : k = l.length := by omega
      have HA := Lib.hid (all_yesR hok.out n)
      go_wp2_with fail
      go_ret
      refine ⟨?_, hg⟩
      rw [HA.out, ← eqn]; rfl

theorem implSeqOk (k : Int) (w : World) : Calls Tryz.prog 107 #[.int .i64 k] w fun e w' => e = .returned (.bool (inb k 0 99)) ∧ w = w' := by
  go_enter Tryz.func107, Tryz.ntmps107
  go_wp2
  all_goals go_ret
  all_goals exact ⟨fix.ret_bool (by unfold inb; simp <;> omega), rfl⟩
set_option maxHeartbeats 1000000 in
theorem implSeqsOk (a : Option Addr) (cap : Nat) (l : List Int) (w : World) (h : Ints w a l) (hl : l.length ≤ 1048576) : Calls Tryz.prog 61 #[.slice a l.length cap] w (Ret (.bool (okQs l)) w) := by
  go_enter Tryz.func61, Tryz.ntmps61
  go_wp2_with fail
  go_loopw [7] (fun i wr => ∃ k : Nat, k ≤ l.length ∧ i = .int .i64 k ∧ Hid (∀ j, j < k → okQ (nth l j) = true) ∧ w = wr) (fun i _ => l.length - (intOf i).toNat)
  case atStart => exact ⟨0, Nat.zero_le _, rfl, Lib.hid (fun j hj => by omega), rfl⟩
  case round =>
    obtain ⟨k, hk, rfl, hok, rfl⟩ := hrel
    by_cases hlt : k < l.length
    · obtain ⟨x, rfl, hb, cx⟩ := h k hlt
      have hq := okQ_or (nth l k)
      have cS := implSeqOk (nth l k)
      have HN := fun e => all_notQ hlt (e : okQ (nth l k) = false)
      by_cases h1 : nth l k = -1
      · have HO : Hid (okQ (nth l k) = true) := Lib.hid (by rw [h1]; rfl)
        have h1' : (nth l k == -1) = true := by simp [h1]
        clear hq cS HN
        go_wp2_with fail
        go_roundw
        case rel => exact ⟨k + 1, by omega, by go_num, Lib.hid (fun j hj => by
          by_cases e : j = k
          · subst e; exact HO.out
          · exact hok.out j (by omega)), (by first | rfl | trivial)⟩
        case measure => simp [intOf]; omega
      · have h1' : (nth l k == -1) = false := by simp [h1]
        rw [decide_eq_false h1, Bool.false_or] at hq
        cases h2 : inb (nth l k) 0 99
        · rw [h2] at hq cS
          have HA := Lib.hid (HN hq)
          clear hq HN
          go_wp2_with fail
          refine (cS _).mono ?_
          rintro e w1 ⟨rfl, rfl⟩
          go_wp2_with fail
          go_ret
          rw [HA.out]
          exact ⟨rfl, gr_refl _ _⟩
        · rw [h2] at hq cS
          have HO := Lib.hid (show okQ (nth l k) = true from hq)
          clear hq HN
          go_wp2_with fail
          refine (cS _).mono ?_
          rintro e w1 ⟨rfl, rfl⟩
          go_wp2_with fail
          go_roundw
          case rel => exact ⟨k + 1, by omega, by go_num, Lib.hid (fun j hj => by
            by_cases e : j = k
            · subst e; exact HO.out
            · exact hok.out j (by omega)), (by first | rfl | trivial)⟩
          case measure => simp [intOf]; omega
    · obtain rfl : k = l.length := by omega
      have HA := Lib.hid (all_yesQ hok.out)
      go_wp2_with fail
      go_ret
      refine ⟨?_, gr_refl _ _⟩
      rw [HA.out, ← eq4]; rfl

set_option maxHeartbeats 1000000 in
theorem specAllQ (a : Option Addr) (cap : Nat) (l : List Int) (w : World) (h : Ints w a l) (hl : l.length ≤ 1048576) :
    Calls Tryz.prog 63 #[.slice a l.length cap, .int .i64 4, .int .i64 (-1), .int .i64 99] w fun e w' => e = .returned (.bool (okQs l)) ∧ w = w' := by
  go_enter Tryz.func63, Tryz.ntmps63
  go_wp2_with fail
  go_loopw [9] (fun i wr => wr = w ∧ ∃ k : Nat, k ≤ l.length ∧ i = .int .i64 k ∧ Hid (∀ j, j < k → okQ (nth l j) = true)) (fun i _ => l.length - (intOf i).toNat)
  case atStart => exact ⟨rfl, 0, Nat.zero_le _, rfl, Lib.hid (fun j hj => by omega)⟩
  case round =>
    obtain ⟨rfl, k, hk, rfl, hs⟩ := hrel
    by_cases hlt : k < l.length
    · obtain ⟨x, rfl, hb, cx⟩ := h k hlt
      cases hz : okQ (nth l k)
      · have hz' : inb (nth l k) (-1) 99 = false := hz
        have HA := Lib.hid (all_notQ hlt hz)
        clear hz
        go_wp2_with fail
        refine (fix.specIn _ _ _ _).mono ?_
        rintro e w' ⟨rfl, rfl⟩
        go_wp2_with fail
        go_ret
        exact ⟨by rw [HA.out]; rfl, rfl⟩
      · have hz' : inb (nth l k) (-1) 99 = true := hz
        have HO := Lib.hid hz
        clear hz
        go_wp2_with fail
        refine (fix.specIn _ _ _ _).mono ?_
        rintro e w' ⟨rfl, rfl⟩
        go_wp2_with fail
        go_roundw
        case rel => exact ⟨(by first | rfl | trivial), k + 1, by omega, by go_num, Lib.hid (fun j hj => by
          by_cases e : j = k
          · subst e; exact HO.out
          · exact hs.out j (by omega))⟩
        case measure => simp [intOf]; omega
    · obtain rfl : k = l.length := by omega
      have HA := Lib.hid (all_yesQ hs.out)
      go_wp2_with fail
      go_ret
      refine ⟨?_, rfl⟩
      rw [HA.out, ← eq4]; rfl

set_option maxHeartbeats 4000000 in
theorem specSensesOk (s : S) (p : P) (w : World) (h : Arg w s p) (hb : Bd s 1048576) : Calls Tryz.prog 15 #[sv s p] w (Ret (.bool (ok s)) w) := by
  have K0 := Has.fresh w 27 (cs6 s p)
  have g0 := World.grownBy_alloc w (Obj.cells (cs6 s p) 27) none
  obtain ⟨⟨c0, c1, c2⟩, c3, c4, c5⟩ := six K0
  have hl1 := hb.sp
  have hl2 := hb.he
  have hl3 := hb.fa
  have hl4 := hb.sq
  replace h := h.kept g0
  have c6 := fun W (k : rd.Arg W p.a1 s.sp) => rd.specRight p.a1 p.c1 s.sp W k hl1
  have c7 := fun W (k : rd.Arg W p.a2 s.he) => rd.specRight p.a2 p.c2 s.he W k hl2
  have c8 := fun W (k : rd.Arg W p.a3 s.fa) => rd.specRight p.a3 p.c3 s.fa W k hl3
  have c9 := md.specWant s.wn
  have c10 := fun W (k : Ints W p.a4 s.sq) => specAllQ p.a4 p.c4 s.sq W k hl4
  by_cases he1 : s.sp.length = 3
  · have de1 : decide ((s.sp.length : Int) = 3) = true := by simp; omega
    have qe1 : ((s.sp.length : Int) == 3) = true := by simp; omega
    replace he1 := Lib.hid he1
    by_cases he2 : s.he.length = 2
    · have de2 : decide ((s.he.length : Int) = 2) = true := by simp; omega
      have qe2 : ((s.he.length : Int) == 2) = true := by simp; omega
      replace he2 := Lib.hid he2
      by_cases he3 : s.fa.length = 6
      · have de3 : decide ((s.fa.length : Int) = 6) = true := by simp; omega
        have qe3 : ((s.fa.length : Int) == 6) = true := by simp; omega
        replace he3 := Lib.hid he3
        cases hb1 : s.sp.all okR
        · rw [hb1] at c6
          have E : ok s = false := by unfold ok; simp only [okL]; simp [he1.out, he2.out, he3.out, hb1]
          rw [E]
          clear E
          go_enter Tryz.func15, Tryz.ntmps15
          go_wp2_with fail
          refine (c6 _ h.sp).mono ?_
          rintro e w1 ⟨rfl, r1⟩
          replace K0 := K0.grown r1 (by simp)
          replace g0 := gr_trans g0 r1
          replace h := h.kept r1
          clear c0 c1 c2 c3 c4 c5 r1
          obtain ⟨⟨c0, c1, c2⟩, c3, c4, c5⟩ := six K0
          go_wp2_with fail
          go_ret
          exact ⟨rfl, g0⟩
        · rw [hb1] at c6
          cases hb2 : s.he.all okR
          · rw [hb2] at c7
            have E : ok s = false := by unfold ok; simp only [okL]; simp [he1.out, he2.out, he3.out, hb1, hb2]
            rw [E]
            clear E
            go_enter Tryz.func15, Tryz.ntmps15
            go_wp2_with fail
            refine (c6 _ h.sp).mono ?_
            rintro e w1 ⟨rfl, r1⟩
            replace K0 := K0.grown r1 (by simp)
            replace g0 := gr_trans g0 r1
            replace h := h.kept r1
            clear c0 c1 c2 c3 c4 c5 r1
            obtain ⟨⟨c0, c1, c2⟩, c3, c4, c5⟩ := six K0
            go_wp2_with fail
            refine (c7 _ h.he).mono ?_
            rintro e w1 ⟨rfl, r1⟩
            replace K0 := K0.grown r1 (by simp)
            replace g0 := gr_trans g0 r1
            replace h := h.kept r1
            clear c0 c1 c2 c3 c4 c5 r1
            obtain ⟨⟨c0, c1, c2⟩, c3, c4, c5⟩ := six K0
            go_wp2_with fail
            go_ret
            exact ⟨rfl, g0⟩
          · rw [hb2] at c7
            cases hb3 : s.fa.all okR
            · rw [hb3] at c8
              have E : ok s = false := by unfold ok; simp only [okL]; simp [he1.out, he2.out, he3.out, hb1, hb2, hb3]
              rw [E]
              clear E
              go_enter Tryz.func15, Tryz.ntmps15
              go_wp2_with fail
              refine (c6 _ h.sp).mono ?_
              rintro e w1 ⟨rfl, r1⟩
              replace K0 := K0.grown r1 (by simp)
              replace g0 := gr_trans g0 r1
              replace h := h.kept r1
              clear c0 c1 c2 c3 c4 c5 r1
              obtain ⟨⟨c0, c1, c2⟩, c3, c4, c5⟩ := six K0
              go_wp2_with fail
              refine (c7 _ h.he).mono ?_
              rintro e w1 ⟨rfl, r1⟩
              replace K0 := K0.grown r1 (by simp)
              replace g0 := gr_trans g0 r1
              replace h := h.kept r1
              clear c0 c1 c2 c3 c4 c5 r1
              obtain ⟨⟨c0, c1, c2⟩, c3, c4, c5⟩ := six K0
              go_wp2_with fail
              refine (c8 _ h.fa).mono ?_
              rintro e w1 ⟨rfl, r1⟩
              replace K0 := K0.grown r1 (by simp)
              replace g0 := gr_trans g0 r1
              replace h := h.kept r1
              clear c0 c1 c2 c3 c4 c5 r1
              obtain ⟨⟨c0, c1, c2⟩, c3, c4, c5⟩ := six K0
              go_wp2_with fail
              go_ret
              exact ⟨rfl, g0⟩
            · rw [hb3] at c8
              cases hb4 : inb s.wn 0 2
              · rw [hb4] at c9
                have E : ok s = false := by unfold ok; simp only [okL]; simp [he1.out, he2.out, he3.out, hb1, hb2, hb3, hb4]
                rw [E]
                clear E
                go_enter Tryz.func15, Tryz.ntmps15
                go_wp2_with fail
                refine (c6 _ h.sp).mono ?_
                rintro e w1 ⟨rfl, r1⟩
                replace K0 := K0.grown r1 (by simp)
                replace g0 := gr_trans g0 r1
                replace h := h.kept r1
                clear c0 c1 c2 c3 c4 c5 r1
                obtain ⟨⟨c0, c1, c2⟩, c3, c4, c5⟩ := six K0
                go_wp2_with fail
                refine (c7 _ h.he).mono ?_
                rintro e w1 ⟨rfl, r1⟩
                replace K0 := K0.grown r1 (by simp)
                replace g0 := gr_trans g0 r1
                replace h := h.kept r1
                clear c0 c1 c2 c3 c4 c5 r1
                obtain ⟨⟨c0, c1, c2⟩, c3, c4, c5⟩ := six K0
                go_wp2_with fail
                refine (c8 _ h.fa).mono ?_
                rintro e w1 ⟨rfl, r1⟩
                replace K0 := K0.grown r1 (by simp)
                replace g0 := gr_trans g0 r1
                replace h := h.kept r1
                clear c0 c1 c2 c3 c4 c5 r1
                obtain ⟨⟨c0, c1, c2⟩, c3, c4, c5⟩ := six K0
                go_wp2_with fail
                refine (c9 _).mono ?_
                rintro e w1 ⟨rfl, rfl⟩
                go_wp2_with fail
                go_ret
                exact ⟨rfl, g0⟩
              · rw [hb4] at c9
                cases hb5 : okQs s.sq
                · rw [hb5] at c10
                  have E : ok s = false := by unfold ok; simp only [okL]; simp [he1.out, he2.out, he3.out, hb1, hb2, hb3, hb4, hb5]
                  rw [E]
                  clear E
                  go_enter Tryz.func15, Tryz.ntmps15
                  go_wp2_with fail
                  refine (c6 _ h.sp).mono ?_
                  rintro e w1 ⟨rfl, r1⟩
                  replace K0 := K0.grown r1 (by simp)
                  replace g0 := gr_trans g0 r1
                  replace h := h.kept r1
                  clear c0 c1 c2 c3 c4 c5 r1
                  obtain ⟨⟨c0, c1, c2⟩, c3, c4, c5⟩ := six K0
                  go_wp2_with fail
                  refine (c7 _ h.he).mono ?_
                  rintro e w1 ⟨rfl, r1⟩
                  replace K0 := K0.grown r1 (by simp)
                  replace g0 := gr_trans g0 r1
                  replace h := h.kept r1
                  clear c0 c1 c2 c3 c4 c5 r1
                  obtain ⟨⟨c0, c1, c2⟩, c3, c4, c5⟩ := six K0
                  go_wp2_with fail
                  refine (c8 _ h.fa).mono ?_
                  rintro e w1 ⟨rfl, r1⟩
                  replace K0 := K0.grown r1 (by simp)
                  replace g0 := gr_trans g0 r1
                  replace h := h.kept r1
                  clear c0 c1 c2 c3 c4 c5 r1
                  obtain ⟨⟨c0, c1, c2⟩, c3, c4, c5⟩ := six K0
                  go_wp2_with fail
                  refine (c9 _).mono ?_
                  rintro e w1 ⟨rfl, rfl⟩
                  go_wp2_with fail
                  refine (c10 _ h.sq).mono ?_
                  rintro e w1 ⟨rfl, rfl⟩
                  go_wp2_with fail
                  go_ret
                  exact ⟨rfl, g0⟩
                · rw [hb5] at c10
                  have E : ok s = true := by unfold ok; simp only [okL]; simp [he1.out, he2.out, he3.out, hb1, hb2, hb3, hb4, hb5]
                  rw [E]
                  clear E
                  go_enter Tryz.func15, Tryz.ntmps15
                  go_wp2_with fail
                  refine (c6 _ h.sp).mono ?_
                  rintro e w1 ⟨rfl, r1⟩
                  replace K0 := K0.grown r1 (by simp)
                  replace g0 := gr_trans g0 r1
                  replace h := h.kept r1
                  clear c0 c1 c2 c3 c4 c5 r1
                  obtain ⟨⟨c0, c1, c2⟩, c3, c4, c5⟩ := six K0
                  go_wp2_with fail
                  refine (c7 _ h.he).mono ?_
                  rintro e w1 ⟨rfl, r1⟩
                  replace K0 := K0.grown r1 (by simp)
                  replace g0 := gr_trans g0 r1
                  replace h := h.kept r1
                  clear c0 c1 c2 c3 c4 c5 r1
                  obtain ⟨⟨c0, c1, c2⟩, c3, c4, c5⟩ := six K0
                  go_wp2_with fail
                  refine (c8 _ h.fa).mono ?_
                  rintro e w1 ⟨rfl, r1⟩
                  replace K0 := K0.grown r1 (by simp)
                  replace g0 := gr_trans g0 r1
                  replace h := h.kept r1
                  clear c0 c1 c2 c3 c4 c5 r1
                  obtain ⟨⟨c0, c1, c2⟩, c3, c4, c5⟩ := six K0
                  go_wp2_with fail
                  refine (c9 _).mono ?_
                  rintro e w1 ⟨rfl, rfl⟩
                  go_wp2_with fail
                  refine (c10 _ h.sq).mono ?_
                  rintro e w1 ⟨rfl, rfl⟩
                  go_wp2_with fail
                  go_ret
                  exact ⟨rfl, g0⟩
      · have de3 : decide ((s.fa.length : Int) = 6) = false := by simp; omega
        have qe3 : ((s.fa.length : Int) == 6) = false := by simp; omega
        have E : ok s = false := by unfold ok; simp only [okL]; simp [he1.out, he2.out, he3]
        rw [E]
        clear E
        clear he3
        go_enter Tryz.func15, Tryz.ntmps15
        go_wp2_with fail
        go_ret
        exact ⟨rfl, g0⟩
    · have de2 : decide ((s.he.length : Int) = 2) = false := by simp; omega
      have qe2 : ((s.he.length : Int) == 2) = false := by simp; omega
      have E : ok s = false := by unfold ok; simp only [okL]; simp [he1.out, he2]
      rw [E]
      clear E
      clear he2
      go_enter Tryz.func15, Tryz.ntmps15
      go_wp2_with fail
      go_ret
      exact ⟨rfl, g0⟩
  · have de1 : decide ((s.sp.length : Int) = 3) = false := by simp; omega
    have qe1 : ((s.sp.length : Int) == 3) = false := by simp; omega
    have E : ok s = false := by unfold ok; simp only [okL]; simp [he1]
    rw [E]
    clear E
    clear he1
    go_enter Tryz.func15, Tryz.ntmps15
    go_wp2_with fail
    go_ret
    exact ⟨rfl, g0⟩

set_option maxHeartbeats 4000000 in
theorem implSensesOk (s : S) (p : P) (w : World) (h : Arg w s p) (hb : Bd s 1048576) (hv : Vals w) : Calls Tryz.prog 14 #[sv s p] w (Ret (.bool (ok s)) w) := by
  have K0 := Has.fresh w 27 (cs6 s p)
  have g0 := World.grownBy_alloc w (Obj.cells (cs6 s p) 27) none
  obtain ⟨⟨c0, c1, c2⟩, c3, c4, c5⟩ := six K0
  have hl1 := hb.sp
  have hl2 := hb.he
  have hl3 := hb.fa
  have hl4 := hb.sq
  replace hv := hv.kept g0
  obtain ⟨v1, v2, v3⟩ := hv.three
  replace h := h.kept g0
  have c6 := fun W (k : rd.Arg W p.a1 s.sp) => implReadingsOk p.a1 p.c1 s.sp 3 W k hl1 (by omega)
  have c7 := fun W (k : rd.Arg W p.a2 s.he) => implReadingsOk p.a2 p.c2 s.he 2 W k hl2 (by omega)
  have c8 := fun W (k : rd.Arg W p.a3 s.fa) => implReadingsOk p.a3 p.c3 s.fa 6 W k hl3 (by omega)
  have c9 := md.implWantOk s.wn
  have c10 := fun W (k : Ints W p.a4 s.sq) => implSeqsOk p.a4 p.c4 s.sq W k hl4
  cases hb1 : okL s.sp 3
  · rw [hb1] at c6
    have E : ok s = false := by unfold ok; simp [hb1]
    rw [E]
    clear E
    go_enter Tryz.func14, Tryz.ntmps14
    go_wp2_with fail
    refine (c6 _ h.sp).mono ?_
    rintro e w1 ⟨rfl, r1⟩
    replace K0 := K0.grown r1 (by simp)
    replace g0 := gr_trans g0 r1
    replace h := h.kept r1
    replace hv := hv.kept r1
    clear v1 v2 v3
    obtain ⟨v1, v2, v3⟩ := hv.three
    clear c0 c1 c2 c3 c4 c5 r1
    obtain ⟨⟨c0, c1, c2⟩, c3, c4, c5⟩ := six K0
    go_wp2_with fail
    go_ret
    exact ⟨rfl, g0⟩
  · rw [hb1] at c6
    cases hb2 : okL s.he 2
    · rw [hb2] at c7
      have E : ok s = false := by unfold ok; simp [hb1, hb2]
      rw [E]
      clear E
      go_enter Tryz.func14, Tryz.ntmps14
      go_wp2_with fail
      refine (c6 _ h.sp).mono ?_
      rintro e w1 ⟨rfl, r1⟩
      replace K0 := K0.grown r1 (by simp)
      replace g0 := gr_trans g0 r1
      replace h := h.kept r1
      replace hv := hv.kept r1
      clear v1 v2 v3
      obtain ⟨v1, v2, v3⟩ := hv.three
      clear c0 c1 c2 c3 c4 c5 r1
      obtain ⟨⟨c0, c1, c2⟩, c3, c4, c5⟩ := six K0
      go_wp2_with fail
      refine (c7 _ h.he).mono ?_
      rintro e w1 ⟨rfl, r1⟩
      replace K0 := K0.grown r1 (by simp)
      replace g0 := gr_trans g0 r1
      replace h := h.kept r1
      replace hv := hv.kept r1
      clear v1 v2 v3
      obtain ⟨v1, v2, v3⟩ := hv.three
      clear c0 c1 c2 c3 c4 c5 r1
      obtain ⟨⟨c0, c1, c2⟩, c3, c4, c5⟩ := six K0
      go_wp2_with fail
      go_ret
      exact ⟨rfl, g0⟩
    · rw [hb2] at c7
      cases hb3 : okL s.fa 6
      · rw [hb3] at c8
        have E : ok s = false := by unfold ok; simp [hb1, hb2, hb3]
        rw [E]
        clear E
        go_enter Tryz.func14, Tryz.ntmps14
        go_wp2_with fail
        refine (c6 _ h.sp).mono ?_
        rintro e w1 ⟨rfl, r1⟩
        replace K0 := K0.grown r1 (by simp)
        replace g0 := gr_trans g0 r1
        replace h := h.kept r1
        replace hv := hv.kept r1
        clear v1 v2 v3
        obtain ⟨v1, v2, v3⟩ := hv.three
        clear c0 c1 c2 c3 c4 c5 r1
        obtain ⟨⟨c0, c1, c2⟩, c3, c4, c5⟩ := six K0
        go_wp2_with fail
        refine (c7 _ h.he).mono ?_
        rintro e w1 ⟨rfl, r1⟩
        replace K0 := K0.grown r1 (by simp)
        replace g0 := gr_trans g0 r1
        replace h := h.kept r1
        replace hv := hv.kept r1
        clear v1 v2 v3
        obtain ⟨v1, v2, v3⟩ := hv.three
        clear c0 c1 c2 c3 c4 c5 r1
        obtain ⟨⟨c0, c1, c2⟩, c3, c4, c5⟩ := six K0
        go_wp2_with fail
        refine (c8 _ h.fa).mono ?_
        rintro e w1 ⟨rfl, r1⟩
        replace K0 := K0.grown r1 (by simp)
        replace g0 := gr_trans g0 r1
        replace h := h.kept r1
        replace hv := hv.kept r1
        clear v1 v2 v3
        obtain ⟨v1, v2, v3⟩ := hv.three
        clear c0 c1 c2 c3 c4 c5 r1
        obtain ⟨⟨c0, c1, c2⟩, c3, c4, c5⟩ := six K0
        go_wp2_with fail
        go_ret
        exact ⟨rfl, g0⟩
      · rw [hb3] at c8
        cases hb4 : inb s.wn 0 2
        · rw [hb4] at c9
          have E : ok s = false := by unfold ok; simp [hb1, hb2, hb3, hb4]
          rw [E]
          clear E
          go_enter Tryz.func14, Tryz.ntmps14
          go_wp2_with fail
          refine (c6 _ h.sp).mono ?_
          rintro e w1 ⟨rfl, r1⟩
          replace K0 := K0.grown r1 (by simp)
          replace g0 := gr_trans g0 r1
          replace h := h.kept r1
          replace hv := hv.kept r1
          clear v1 v2 v3
          obtain ⟨v1, v2, v3⟩ := hv.three
          clear c0 c1 c2 c3 c4 c5 r1
          obtain ⟨⟨c0, c1, c2⟩, c3, c4, c5⟩ := six K0
          go_wp2_with fail
          refine (c7 _ h.he).mono ?_
          rintro e w1 ⟨rfl, r1⟩
          replace K0 := K0.grown r1 (by simp)
          replace g0 := gr_trans g0 r1
          replace h := h.kept r1
          replace hv := hv.kept r1
          clear v1 v2 v3
          obtain ⟨v1, v2, v3⟩ := hv.three
          clear c0 c1 c2 c3 c4 c5 r1
          obtain ⟨⟨c0, c1, c2⟩, c3, c4, c5⟩ := six K0
          go_wp2_with fail
          refine (c8 _ h.fa).mono ?_
          rintro e w1 ⟨rfl, r1⟩
          replace K0 := K0.grown r1 (by simp)
          replace g0 := gr_trans g0 r1
          replace h := h.kept r1
          replace hv := hv.kept r1
          clear v1 v2 v3
          obtain ⟨v1, v2, v3⟩ := hv.three
          clear c0 c1 c2 c3 c4 c5 r1
          obtain ⟨⟨c0, c1, c2⟩, c3, c4, c5⟩ := six K0
          go_wp2_with fail
          refine (c9 _).mono ?_
          rintro e w1 ⟨rfl, rfl⟩
          go_wp2_with fail
          go_ret
          exact ⟨rfl, g0⟩
        · rw [hb4] at c9
          cases hb5 : okQs s.sq
          · rw [hb5] at c10
            have E : ok s = false := by unfold ok; simp [hb1, hb2, hb3, hb4, hb5]
            rw [E]
            clear E
            go_enter Tryz.func14, Tryz.ntmps14
            go_wp2_with fail
            refine (c6 _ h.sp).mono ?_
            rintro e w1 ⟨rfl, r1⟩
            replace K0 := K0.grown r1 (by simp)
            replace g0 := gr_trans g0 r1
            replace h := h.kept r1
            replace hv := hv.kept r1
            clear v1 v2 v3
            obtain ⟨v1, v2, v3⟩ := hv.three
            clear c0 c1 c2 c3 c4 c5 r1
            obtain ⟨⟨c0, c1, c2⟩, c3, c4, c5⟩ := six K0
            go_wp2_with fail
            refine (c7 _ h.he).mono ?_
            rintro e w1 ⟨rfl, r1⟩
            replace K0 := K0.grown r1 (by simp)
            replace g0 := gr_trans g0 r1
            replace h := h.kept r1
            replace hv := hv.kept r1
            clear v1 v2 v3
            obtain ⟨v1, v2, v3⟩ := hv.three
            clear c0 c1 c2 c3 c4 c5 r1
            obtain ⟨⟨c0, c1, c2⟩, c3, c4, c5⟩ := six K0
            go_wp2_with fail
            refine (c8 _ h.fa).mono ?_
            rintro e w1 ⟨rfl, r1⟩
            replace K0 := K0.grown r1 (by simp)
            replace g0 := gr_trans g0 r1
            replace h := h.kept r1
            replace hv := hv.kept r1
            clear v1 v2 v3
            obtain ⟨v1, v2, v3⟩ := hv.three
            clear c0 c1 c2 c3 c4 c5 r1
            obtain ⟨⟨c0, c1, c2⟩, c3, c4, c5⟩ := six K0
            go_wp2_with fail
            refine (c9 _).mono ?_
            rintro e w1 ⟨rfl, rfl⟩
            go_wp2_with fail
            refine (c10 _ h.sq).mono ?_
            rintro e w1 ⟨rfl, r1⟩
            replace K0 := K0.grown r1 (by simp)
            replace g0 := gr_trans g0 r1
            replace h := h.kept r1
            replace hv := hv.kept r1
            clear v1 v2 v3
            obtain ⟨v1, v2, v3⟩ := hv.three
            clear c0 c1 c2 c3 c4 c5 r1
            obtain ⟨⟨c0, c1, c2⟩, c3, c4, c5⟩ := six K0
            go_wp2_with fail
            go_ret
            exact ⟨rfl, g0⟩
          · rw [hb5] at c10
            have E : ok s = true := by unfold ok; simp [hb1, hb2, hb3, hb4, hb5]
            rw [E]
            clear E
            go_enter Tryz.func14, Tryz.ntmps14
            go_wp2_with fail
            refine (c6 _ h.sp).mono ?_
            rintro e w1 ⟨rfl, r1⟩
            replace K0 := K0.grown r1 (by simp)
            replace g0 := gr_trans g0 r1
            replace h := h.kept r1
            replace hv := hv.kept r1
            clear v1 v2 v3
            obtain ⟨v1, v2, v3⟩ := hv.three
            clear c0 c1 c2 c3 c4 c5 r1
            obtain ⟨⟨c0, c1, c2⟩, c3, c4, c5⟩ := six K0
            go_wp2_with fail
            refine (c7 _ h.he).mono ?_
            rintro e w1 ⟨rfl, r1⟩
            replace K0 := K0.grown r1 (by simp)
            replace g0 := gr_trans g0 r1
            replace h := h.kept r1
            replace hv := hv.kept r1
            clear v1 v2 v3
            obtain ⟨v1, v2, v3⟩ := hv.three
            clear c0 c1 c2 c3 c4 c5 r1
            obtain ⟨⟨c0, c1, c2⟩, c3, c4, c5⟩ := six K0
            go_wp2_with fail
            refine (c8 _ h.fa).mono ?_
            rintro e w1 ⟨rfl, r1⟩
            replace K0 := K0.grown r1 (by simp)
            replace g0 := gr_trans g0 r1
            replace h := h.kept r1
            replace hv := hv.kept r1
            clear v1 v2 v3
            obtain ⟨v1, v2, v3⟩ := hv.three
            clear c0 c1 c2 c3 c4 c5 r1
            obtain ⟨⟨c0, c1, c2⟩, c3, c4, c5⟩ := six K0
            go_wp2_with fail
            refine (c9 _).mono ?_
            rintro e w1 ⟨rfl, rfl⟩
            go_wp2_with fail
            refine (c10 _ h.sq).mono ?_
            rintro e w1 ⟨rfl, r1⟩
            replace K0 := K0.grown r1 (by simp)
            replace g0 := gr_trans g0 r1
            replace h := h.kept r1
            replace hv := hv.kept r1
            clear v1 v2 v3
            obtain ⟨v1, v2, v3⟩ := hv.three
            clear c0 c1 c2 c3 c4 c5 r1
            obtain ⟨⟨c0, c1, c2⟩, c3, c4, c5⟩ := six K0
            go_wp2_with fail
            go_ret
            exact ⟨rfl, g0⟩
end Go.Proofs.YtjbgcgblamijdaaGreatDoor.se

/- Heard of the model. -/
namespace Go.Proofs.YtjbgcgblamijdaaGreatDoor.stm
open Go.ChangeShapes Go.WideShapes Go.ChangeAt Go.RowKit
open Go.Proofs.YtjbgcgblamijdaaGreatDoor.nums Go.Proofs.YtjbgcgblamijdaaGreatDoor.mem Go.Proofs.YtjbgcgblamijdaaGreatDoor.txt Go.Proofs.YtjbgcgblamijdaaGreatDoor.fix Go.Proofs.YtjbgcgblamijdaaGreatDoor.frm
open Go.Proofs.YtjbgcgblamijdaaGreatDoor.tab (Ret quiet_w wpList_make_has add_off)
set_option linter.unusedVariables false

/-- The frame that is best so far lies in the box q. -/
def Best (base q : Nat) (r : Option Fr) (wr : World) : Prop := match r with
  | none => Has wr q 62 #[.int .i64 0, .int .i64 0, .slice none 0 0]
  | some f => ∃ a cap, Has wr q 62 #[.int .i64 f.1, .int .i64 f.2.1, .slice a f.2.2.length cap] ∧ Own base wr a f.2.2
theorem Best.kept {base q : Nat} {r : Option Fr} {w w' : World} (h : Best base q r w) (hg : w.grownBy w' none) : Best base q r w' := by
  match r with
  | none => exact Has.grown h hg (by simp)
  | some f =>
    obtain ⟨a, cap, h1, h2⟩ := h
    exact ⟨a, cap, h1.grown hg (by simp), h2.kept hg⟩
theorem Best.cells {base q : Nat} {r : Option Fr} {w : World} (h : Best base q r w) : ∃ u v x, Has w q 62 #[u, v, x] := by
  match r with
  | none => exact ⟨_, _, _, h⟩
  | some f =>
    obtain ⟨a, cap, h1, h2⟩ := h
    exact ⟨_, _, _, h1⟩

theorem out_none {r : Option Fr} {w w' : World} (h : r = none) (hg : w.grownBy w' none) : ReadOut r w (.returned (.tuple #[fr 0 0 none 0 0, .bool false])) w' := by subst h; exact ⟨hg, rfl⟩
theorem out_some {r : Option Fr} {w w' : World} {f : Fr} {a : Option Addr} {cap : Nat} (h : r = some f) (hg : w.grownBy w' none) (ho : Own w.heap.size w' a f.2.2) : ReadOut r w (.returned (.tuple #[fr f.1 f.2.1 a f.2.2.length cap, .bool true])) w' := by subst h; exact ⟨hg, a, cap, rfl, ho⟩
theorem cell_set3 {w : World} {q : Nat} {a : Addr} (hn : a.block ≠ q) (i j k : Nat) (u v x : Value) : (((w.setCell ⟨q, i, none⟩ u).setCell ⟨q, j, none⟩ v).setCell ⟨q, k, none⟩ x).cell? a = w.cell? a :=
  World.cell?_of_block (by rw [Below.heap_setCell _ ⟨q, k, none⟩ _ _ hn, Below.heap_setCell _ ⟨q, j, none⟩ _ _ hn, Below.heap_setCell _ ⟨q, i, none⟩ _ _ hn])

set_option maxRecDepth 100000 in
set_option maxHeartbeats 4000000 in
theorem specHeard (a : Option Addr) (cap : Nat) (fs : List Fr) (ps : List Pl) (kind old : Int) (w : World) (h : Frs w a fs ps) (hl : fs.length ≤ 1048576) (hv : ∀ k, k < fs.length → (fv fs k).length ≤ 1048576) :
    Calls Tryz.prog 50 #[.slice a fs.length cap, .int .i64 kind, .int .i64 old] w (ReadOut (heard kind old fs) w) := by
  have HA0 := (Has.fresh w 62 #[.int .i64 0, .int .i64 0, .slice none 0 0]).alloc (Obj.cells #[.int .i64 0, .int .i64 0, .slice none 0 0] 62)
  have HB0 := Has.fresh (w.alloc (Obj.cells #[.int .i64 0, .int .i64 0, .slice none 0 0] 62)) 62 #[.int .i64 0, .int .i64 0, .slice none 0 0]
  rw [show (w.alloc (Obj.cells #[.int .i64 0, .int .i64 0, .slice none 0 0] 62)).heap.size = w.heap.size + 1 by simp] at HB0
  have g00 := gr_alloc (World.grownBy_alloc w (Obj.cells #[.int .i64 0, .int .i64 0, .slice none 0 0] 62) none) (Obj.cells #[.int .i64 0, .int .i64 0, .slice none 0 0] 62)
  have hs0 : ((w.alloc (Obj.cells #[.int .i64 0, .int .i64 0, .slice none 0 0] 62)).alloc (Obj.cells #[.int .i64 0, .int .i64 0, .slice none 0 0] 62)).heap.size = w.heap.size + 2 := by simp
  go_enter Tryz.func50, Tryz.ntmps50
  go_wp2_with fail
  go_loopw [2, 9, 10] (fun o s i wr => ∃ (k : Nat) (O : Int) (r : Option Fr), k ≤ fs.length ∧ i = .int .i64 k ∧ o = .int .i64 O ∧ s = .bool r.isSome ∧ Hid (hfold kind old fs k = (O, r)) ∧ Has wr w.heap.size 62 #[.int .i64 0, .int .i64 0, .slice none 0 0] ∧ Best (w.heap.size + 2) (w.heap.size + 1) r wr ∧ w.heap.size + 2 ≤ wr.heap.size ∧ w.grownBy wr none) (fun _ _ i _ => fs.length - (intOf i).toNat)
  case atStart => exact ⟨0, old, none, Nat.zero_le _, rfl, rfl, rfl, Lib.hid (hfold_zero _ _ _), HA0, HB0, by omega, g00⟩
  case round =>
    clear HA0 HB0 g00 hs0
    obtain ⟨k, O, r, hk, rfl, rfl, rfl, hf, HA, HB, hsz, hg⟩ := hrel
    by_cases hlt : k < fs.length
    · have h6 := hv k hlt
      have hF := hfold_succ (kind := kind) (old := old) hlt
      rw [hf.out] at hF
      obtain ⟨x, rfl, hxb, cx, cy, cz, hI⟩ := (h.kept hg) k hlt
      obtain ⟨x', e', hxw, _⟩ := h k hlt
      injection e' with e'
      subst e'
      have hnxt : ∀ s, hst kind (O, r) (fk fs k, fq fs k, fv fs k) = s → hfold kind old fs (k + 1) = s := fun s e => hF.trans e
      have HN := Lib.hid hnxt
      clear hF hf hnxt
      generalize fk fs k = K at *
      generalize fq fs k = Q at *
      generalize fv fs k = V at *
      generalize pa ps k = A at *
      generalize pc ps k = C at *
      by_cases hK : K = kind
      · subst hK
        cases hO : okF K Q V
        · have cF : ∀ W, Ints W A V → Calls Tryz.prog 98 #[fr K Q A V.length C] W (Ret (.bool false) W) := fun W hW => hO ▸ specFrameOk K Q A C V W hW (by unfold maxLen; omega)
          have hn := HN.out _ (hst_no (by rw [hO]; simp))
          clear hO HN
          go_wp2_with fail
          refine (cF _ hI).mono ?_
          rintro e w1 ⟨rfl, hg1⟩
          go_wp2_with fail
          go_roundw
          case rel => exact ⟨k + 1, O, r, by omega, by go_num, rfl, rfl, Lib.hid hn, HA.grown hg1 (by simp), HB.kept hg1, Nat.le_trans hsz hg1.size, gr_trans hg hg1⟩
          case measure => simp [intOf]; omega
        · have cF : ∀ W, Ints W A V → Calls Tryz.prog 98 #[fr K Q A V.length C] W (Ret (.bool true) W) := fun W hW => hO ▸ specFrameOk K Q A C V W hW (by unfold maxLen; omega)
          have hV0 := okF_ne hO
          have hV6 := okF_short hO
          cases hN : newer O Q
          · have cN : ∀ W, Calls Tryz.prog 99 #[.int .i64 O, .int .i64 Q] W fun e w' => e = .returned (.bool false) ∧ W = w' := fun W => hN ▸ specNewer O Q W
            have hn := HN.out _ (hst_no (by rw [hO, hN]; simp))
            clear hO HN hN
            go_wp2_with fail
            refine (cF _ hI).mono ?_
            rintro e w1 ⟨rfl, hg1⟩
            have cy1 := (World.cell?_of_block (a := ⟨(x.add (k * 3)).block, (x.add (k * 3)).off + 1, none⟩) (hg1.block _ (by rw [block_add]; omega) (by simp))).trans cy
            go_wp2_with fail
            refine (cN _).mono ?_
            rintro e w2 ⟨rfl, rfl⟩
            go_wp2_with fail
            go_roundw
            case rel => exact ⟨k + 1, O, r, by omega, by go_num, rfl, rfl, Lib.hid hn, HA.grown hg1 (by simp), HB.kept hg1, Nat.le_trans hsz hg1.size, gr_trans hg hg1⟩
            case measure => simp [intOf]; omega
          · have cN : ∀ W, Calls Tryz.prog 99 #[.int .i64 O, .int .i64 Q] W fun e w' => e = .returned (.bool true) ∧ W = w' := fun W => hN ▸ specNewer O Q W
            have hn := HN.out _ (hst_yes (by rw [hO, hN]; simp))
            clear hO HN hN
            go_wp2_with fail
            refine (cF _ hI).mono ?_
            rintro e w1 ⟨rfl, hg1⟩
            have cy1 := (World.cell?_of_block (a := ⟨(x.add (k * 3)).block, (x.add (k * 3)).off + 1, none⟩) (hg1.block _ (by rw [block_add]; omega) (by simp))).trans cy
            have cz1 := (World.cell?_of_block (a := ⟨(x.add (k * 3)).block, (x.add (k * 3)).off + 2, none⟩) (hg1.block _ (by rw [block_add]; omega) (by simp))).trans cz
            go_wp2_with fail
            refine (cN _).mono ?_
            rintro e w2 ⟨rfl, rfl⟩
            have HA1 := HA.grown hg1 (by simp)
            obtain ⟨b0, b1, b2, HB1⟩ := (HB.kept hg1).cells
            have hI1 := hI.kept hg1
            have hg2 := gr_trans hg hg1
            have hsz1 := Nat.le_trans hsz hg1.size
            have hxb1 := Nat.lt_of_lt_of_le hxb hg1.size
            have cC := fun W hW => specCopy A C V W hW hV0 (by omega)
            clear cx cy cz cF cN HA HB hI hg hg1 hsz hxb
            go_wp2_with fail
            have cD : Calls Tryz.prog 97 #[.slice A V.length C] w1.drew fun e w7 => ∃ a7 c7, e = .returned (.slice a7 V.length c7) ∧ w1.grownBy w7 none ∧ Own w1.heap.size w7 a7 V ∧ (w7.cell? ⟨(x.add (k * 3)).block, (x.add (k * 3)).off + 1, none⟩ = some (.int .i64 Q) ∧ w7.cell? ⟨(x.add (k * 3)).block, (x.add (k * 3)).off + 2, none⟩ = some (.slice A V.length C)) ∧ Has w7 (w.heap.size + 1) 62 #[b0, b1, b2] := by
              refine (cC w1.drew hI1).mono ?_
              rintro e w7 ⟨a7, c7, rfl, hg7, hO7⟩
              have hg7' : w1.grownBy w7 none := gr_trans (gr_drewN (gr_refl w1 none) 1) hg7
              have hxb2 : (x.add (k * 3)).block < w1.heap.size := by rw [block_add]; exact hxb1
              exact ⟨a7, c7, rfl, hg7', hO7, ⟨(World.cell?_of_block (a := ⟨(x.add (k * 3)).block, (x.add (k * 3)).off + 1, none⟩) (hg7'.block _ hxb2 (by simp))).trans cy1, (World.cell?_of_block (a := ⟨(x.add (k * 3)).block, (x.add (k * 3)).off + 2, none⟩) (hg7'.block _ hxb2 (by simp))).trans cz1⟩, HB1.grown hg7' (by simp)⟩
            have hxq : (x.add (k * 3)).block ≠ w.heap.size + 1 := by rw [block_add]; omega
            have hset : ∀ (W : World) (u v z : Value), (W.cell? ⟨(x.add (k * 3)).block, (x.add (k * 3)).off + 1, none⟩ = some (.int .i64 Q) ∧ W.cell? ⟨(x.add (k * 3)).block, (x.add (k * 3)).off + 2, none⟩ = some (.slice A V.length C)) →
                ((((W.setCell ⟨w.heap.size + 1, 0, none⟩ u).setCell ⟨w.heap.size + 1, 1, none⟩ v).setCell ⟨w.heap.size + 1, 2, none⟩ z).cell? ⟨(x.add (k * 3)).block, (x.add (k * 3)).off + 1, none⟩ = some (.int .i64 Q) ∧ (((W.setCell ⟨w.heap.size + 1, 0, none⟩ u).setCell ⟨w.heap.size + 1, 1, none⟩ v).setCell ⟨w.heap.size + 1, 2, none⟩ z).cell? ⟨(x.add (k * 3)).block, (x.add (k * 3)).off + 2, none⟩ = some (.slice A V.length C)) :=
              fun W u v z hW => ⟨(cell_set3 (a := ⟨(x.add (k * 3)).block, (x.add (k * 3)).off + 1, none⟩) hxq _ _ _ _ _ _).trans hW.1, (cell_set3 (a := ⟨(x.add (k * 3)).block, (x.add (k * 3)).off + 2, none⟩) hxq _ _ _ _ _ _).trans hW.2⟩
            clear cC
            go_region_held3 (fun W => W.cell? ⟨(x.add (k * 3)).block, (x.add (k * 3)).off + 1, none⟩ = some (.int .i64 Q) ∧ W.cell? ⟨(x.add (k * 3)).block, (x.add (k * 3)).off + 2, none⟩ = some (.slice A V.length C)) (first | exact hS7 | exact hset _ _ _ _ hS7 | go_keep) (first | (go_at_call 97; refine cD.mono ?_; rintro e w7 ⟨a7, c7, rfl, hg7, hO7, hS7, HB7⟩; obtain ⟨p0, p1, p2, q0, q1, q2⟩ := three HB7))
            obtain ⟨cy8, cz8⟩ := hset w7 (.int .i64 K) (.int .i64 Q) (.slice a7 V.length c7) hS7
            have hO8 : Own (w.heap.size + 1 + 1) w7 a7 V := hO7.up hsz1
            have hsz7 := hg7.size
            clear cD hset hS7 p0 p1 p2 q0 q1 q2 cy1 cz1
            go_wp2_with fail
            go_roundw
            case rel => exact ⟨k + 1, Q, some (K, Q, V), by omega, by go_num, rfl, rfl, Lib.hid hn, has_other (has_other (has_other (HA1.grown hg7 (by simp)) (by omega) _ _) (by omega) _ _) (by omega) _ _, ⟨a7, c7, set3 HB7 _ _ _, ((hO8.set _ _).set _ _).set _ _⟩, by simp [World.setCell]; omega, gr_new (gr_new (gr_new (gr_trans hg2 hg7) (Nat.le_succ _) _ _) (Nat.le_succ _) _ _) (Nat.le_succ _) _ _⟩
            case measure => simp [intOf]; omega
      · have hn := HN.out _ (hst_no (by rw [decide_eq_false hK]; rfl))
        have hK' : (K == kind) = false := by rw [beq_eq_false_iff_ne]; exact hK
        clear HN
        go_wp2_with fail
        go_roundw
        case rel => exact ⟨k + 1, O, r, by omega, by go_num, rfl, rfl, Lib.hid hn, HA, HB, hsz, hg⟩
        case measure => simp [intOf]; omega
    · obtain rfl : k = fs.length := by omega
      have hh : heard kind old fs = r := by rw [heard, hf.out]
      have HH := Lib.hid hh
      clear hf hh
      obtain ⟨p0, p1, p2, q0, q1, q2⟩ := three HA
      cases r with
      | none =>
        obtain ⟨b0, b1, b2, _, _, _⟩ := three (show Has wr (w.heap.size + 1) 62 #[.int .i64 0, .int .i64 0, .slice none 0 0] from HB)
        go_wp2_with fail
        obtain ⟨r0, r1, r2, _, _, _⟩ := three (set3 HA (.int .i64 0) (.int .i64 0) (.slice none 0 0))
        exact bodyPost_ret (v := .tuple #[fr 0 0 none 0 0, .bool false]) (by simp [results, Tryz.results50, go_sem, r0, r1, r2]) rfl (out_none HH.out (gr_new (gr_new (gr_new hg (Nat.le_refl _) _ _) (Nat.le_refl _) _ _) (Nat.le_refl _) _ _))
      | some f =>
        obtain ⟨a7, c7, HB7, hO7⟩ := HB
        obtain ⟨K, Q, V⟩ := f
        obtain ⟨b0, b1, b2, _, _, _⟩ := three HB7
        have hO8 : Own (w.heap.size + 1) wr a7 V := hO7.up (Nat.le_succ _)
        go_wp2_with fail
        obtain ⟨r0, r1, r2, _, _, _⟩ := three (set3 HA (.int .i64 K) (.int .i64 Q) (.slice a7 V.length c7))
        exact bodyPost_ret (v := .tuple #[fr K Q a7 V.length c7, .bool true]) (by simp [results, Tryz.results50, go_sem, r0, r1, r2]) rfl (out_some (f := (K, Q, V)) HH.out (gr_new (gr_new (gr_new hg (Nat.le_refl _) _ _) (Nat.le_refl _) _ _) (Nat.le_refl _) _ _) ((((hO8.set _ _).set _ _).set _ _).up (Nat.le_succ _)))
end Go.Proofs.YtjbgcgblamijdaaGreatDoor.stm

