/- Lists of numbers that lie in a block of whatever type (an array's block, cut): read, marked. Whether all are still: the model's and the program's IsStill. SensesOk of both sides. A set of fans: a map whose keys are the fans' weights; its words and its laws at the operations. -/
import Derived.Test.YtdikhdfpcipdbaaGreatDoorG4
import Derived.Test.YtdikhdfpcipdbaaGreatDoorG13
import Derived.Test.YtdikhdfpcipdbaaGreatDoorG14
import Derived.Test.YtdikhdfpcipdbaaGreatDoorG18
import Derived.Maps.RangeWalk
import Derived.Maps.OwnOps
import Derived.Maps.OwnSet
import Derived.DeepKeys4
/- Lists of numbers that lie in a block of whatever type (an array's block, cut): read, marked. -/
namespace Go.Proofs.YtdikhdfpcipdbaaGreatDoor.il
open Go.ChangeShapes Go.WideShapes Go.ChangeAt Go.RowKit
open Go.Proofs.YtdikhdfpcipdbaaGreatDoor.nums Go.Proofs.YtdikhdfpcipdbaaGreatDoor.mem
open Go.Proofs.YtdikhdfpcipdbaaGreatDoor.tab (Ret quiet_w)
set_option linter.unusedVariables false

/-- The numbers lie in a block that is known whole, of whatever type, or there are none. -/
def OwnT (w : World) (a : Option Addr) (l : List Int) : Prop := l = [] ∨ ∃ (g o : Nat) (t : TypeId) (cs : Array Value), a = some ⟨g, o, none⟩ ∧ Has w g t cs ∧ ∀ k, k < l.length → cs[o + k]? = some (.int .i64 (nth l k))
theorem Own.toT {w : World} {a : Option Addr} {l : List Int} (h : Own w a l) : OwnT w a l := h.imp id fun ⟨g, o, cs, e, hc, hj⟩ => ⟨g, o, _, cs, e, hc, hj⟩
theorem OwnT.ints {w : World} {a : Option Addr} {l : List Int} (h : OwnT w a l) : Ints w a l := by
  rcases h with rfl | ⟨g, o, t, cs, rfl, hc, hj⟩
  · exact Ints.nil _ _
  · intro k hk
    refine ⟨_, rfl, hc.lt, ?_⟩
    rw [addo, hc.cell]; exact hj k hk
theorem OwnT.grown {w w' : World} {a : Option Addr} {l : List Int} {row : Option Nat} (h : OwnT w a l) (hg : w.grownBy w' row) (hn : ∀ b, blk a l = some b → some b ≠ row) : OwnT w' a l := by
  rcases h with h | ⟨g, o, t, cs, rfl, hc, hj⟩
  · exact Or.inl h
  · by_cases hl : l = []
    · exact Or.inl hl
    · exact Or.inr ⟨g, o, t, cs, rfl, hc.grown hg (hn _ (blk_some hl)), hj⟩
theorem OwnT.kept {w w' : World} {a : Option Addr} {l : List Int} (h : OwnT w a l) (hg : w.grownBy w' none) : OwnT w' a l := h.grown hg (fun x e => by simp)
theorem OwnT.lt {w : World} {a : Option Addr} {l : List Int} (h : OwnT w a l) {b : Nat} (e : blk a l = some b) : b < w.heap.size := by
  rcases h with rfl | ⟨g, o, t, cs, rfl, hc, hj⟩
  · rw [blk_nil] at e; cases e
  · by_cases hl : l = []
    · subst hl; rw [blk_nil] at e; cases e
    · rw [blk_some hl] at e; injection e with e; subst e; exact hc.lt
/-- A list comes back in memory of its own, in a block of whatever type; of what was there nothing is another. -/
def RetT (l : List Int) (w : World) (e : Ending) (w' : World) : Prop :=
  ∃ a cap, e = .returned (.slice a l.length cap) ∧ w.grownBy w' none ∧ OwnT w' a l ∧ ∀ b, blk a l = some b → w.heap.size ≤ b
theorem RetI.toT {l : List Int} {w w' : World} {e : Ending} (h : RetI l w e w') : RetT l w e w' := by
  obtain ⟨a, cap, e, g, o, b⟩ := h
  exact ⟨a, cap, e, g, o.toT, b⟩
end Go.Proofs.YtdikhdfpcipdbaaGreatDoor.il

/- Whether all are still: the model's and the program's IsStill. -/
namespace Go.Proofs.YtdikhdfpcipdbaaGreatDoor.br
open Go.ChangeShapes Go.WideShapes Go.ChangeAt Go.RowKit
open Go.Proofs.YtdikhdfpcipdbaaGreatDoor.nums Go.Proofs.YtdikhdfpcipdbaaGreatDoor.mem
open Go.Proofs.YtdikhdfpcipdbaaGreatDoor.tab (Ret)
open Go.Proofs.YtdikhdfpcipdbaaGreatDoor.il (nth Ints Own)
set_option linter.unusedVariables false

def still (l : List Int) : Bool := l.all fun n => decide (n = 0)
set_option maxHeartbeats 1000000 in
theorem specIsStill (a : Option Addr) (cap : Nat) (l : List Int) (w : World) (h : Ints w a l) (hl : l.length ≤ maxLen) :
    Calls Tryz.prog 167 #[.slice a l.length cap] w fun e w' => e = .returned (.bool (still l)) ∧ w = w' := by
  have hm : l.length ≤ 9223372036854775807 := by unfold maxLen at hl; exact hl
  clear hl
  go_enter Tryz.func167, Tryz.ntmps167
  go_wp2_with fail
  go_loopw [3] (fun i wr => wr = w ∧ ∃ k : Nat, k ≤ l.length ∧ i = .int .i64 k ∧ Hid (∀ j, j < k → nth l j = 0)) (fun i _ => l.length - (intOf i).toNat)
  case atStart => exact ⟨rfl, 0, Nat.zero_le _, rfl, Lib.hid (fun j hj => by omega)⟩
  case round =>
    obtain ⟨rfl, k, hk, rfl, hs⟩ := hrel
    by_cases hlt : k < l.length
    · obtain ⟨x, rfl, hb, cx⟩ := h k hlt
      by_cases hz : nth l k = 0
      · have HO := Lib.hid hz
        go_wp2_with fail
        go_roundw
        case rel => exact ⟨(by first | rfl | trivial), k + 1, by omega, by go_num, Lib.hid (fun j hj => by
          by_cases e : j = k
          · subst e; exact HO.out
          · exact hs.out j (by omega))⟩
        case measure => simp [intOf]; omega
      · have E : still l = false := by
          refine Bool.eq_false_iff.2 (fun e => hz ?_)
          have := List.all_eq_true.1 e l[k] (List.getElem_mem hlt)
          rw [il.nth_lt hlt]
          simpa using this
        go_wp2_with fail
        go_ret
        exact ⟨by rw [E]; rfl, rfl⟩
    · obtain rfl : k = l.length := by omega
      have E : still l = true := by
        refine List.all_eq_true.2 (fun y hy => ?_)
        obtain ⟨i, hi, rfl⟩ := List.getElem_of_mem hy
        have := hs.out i hi
        rw [il.nth_lt hi] at this
        simpa using this
      go_wp2_with fail
      go_ret
      exact ⟨by rw [E]; rfl, rfl⟩
end Go.Proofs.YtdikhdfpcipdbaaGreatDoor.br

/- SensesOk of both sides. -/
namespace Go.Proofs.YtdikhdfpcipdbaaGreatDoor.se
open Go.ChangeShapes Go.WideShapes Go.ChangeAt Go.RowKit
open Go.Proofs.YtdikhdfpcipdbaaGreatDoor.nums Go.Proofs.YtdikhdfpcipdbaaGreatDoor.mem
open Go.Proofs.YtdikhdfpcipdbaaGreatDoor.tab (Ret)
open Go.Proofs.YtdikhdfpcipdbaaGreatDoor.rd (R okR zR OwnR rx ra ro)
open Go.Proofs.YtdikhdfpcipdbaaGreatDoor.il (nth Ints Own)
set_option linter.unusedVariables false

theorem all_notR {l : List R} {k : Nat} (hk : k < l.length) (h : okR (rx l k, ra l k, ro l k) = false) (n : Nat) : okL l n = false := by
  unfold okL; rw [rd.all_no hk h]; rfl
theorem all_yesR {l : List R} (h : ∀ k, k < l.length → okR (rx l k, ra l k, ro l k) = true) (n : Nat) : okL l n = decide (l.length = n) := by
  unfold okL; rw [rd.all_yes h]; rfl
theorem all_notQ {l : List Int} {k : Nat} (hk : k < l.length) (h : okQ (nth l k) = false) : okQs l = false := by
  have : l.all okQ = false := by
    rw [Bool.eq_false_iff]; intro e
    rw [List.all_eq_true] at e
    rw [e _ (il.nth_mem hk)] at h; cases h
  unfold okQs; rw [this]; rfl
theorem all_yesQ {l : List Int} (h : ∀ k, k < l.length → okQ (nth l k) = true) : okQs l = decide (l.length = 4) := by
  have : l.all okQ = true := by
    rw [List.all_eq_true]
    intro x hx
    obtain ⟨k, hk, rfl⟩ := List.mem_iff_getElem.1 hx
    have := h k hk
    rwa [il.nth_lt hk] at this
  unfold okQs; rw [this]; rfl

theorem eqn (a b : Nat) : ((a : Int) == (b : Int)) = decide (a = b) := by
  by_cases h : a = b
  · subst h; simp
  · have h2 : ¬ (a : Int) = (b : Int) := by omega
    simp [h, h2]
theorem eq4 (a : Nat) : ((a : Int) == 4) = decide (a = 4) := eqn a 4
theorem okQ_or (n : Int) : okQ n = (decide (n = -1) || inb n 0 99) := by
  rw [Bool.eq_iff_iff]; unfold okQ inb; simp; omega
set_option maxHeartbeats 1000000 in
theorem implReadingsOk (a : Option Addr) (cap : Nat) (l : List R) (n : Nat) (w : World) (h : rd.Arg w a l) (hl : l.length ≤ 1048576) (hn : n ≤ 100) : Calls Tryz.prog 49 #[.slice a l.length cap, .int .i64 n] w (Ret (.bool (okL l n)) w) := by
  go_enter Tryz.func49, Tryz.ntmps49
  go_wp2_with fail
  go_loopw [9] (fun i wr => ∃ k : Nat, k ≤ l.length ∧ i = .int .i64 k ∧ Hid (∀ j, j < k → okR (rx l j, ra l j, ro l j) = true) ∧ w.grownBy wr none) (fun i _ => l.length - (intOf i).toNat)
  case atStart => exact ⟨0, Nat.zero_le _, rfl, Lib.hid (fun j hj => by omega), gr_refl _ _⟩
  case round =>
    obtain ⟨k, hk, rfl, hok, hg⟩ := hrel
    by_cases hlt : k < l.length
    · obtain ⟨x, rfl, hb, cx, cy, cz⟩ := (h.kept hg) k hlt
      have hg0 := gr_alloc hg (Obj.cells #[.int .i64 (rx l k), .int .i64 (ra l k), .bool (ro l k)] 42)
      by_cases ho : okR (rx l k, ra l k, ro l k) = true
      · have HO := Lib.hid ho
        have cR : ∀ W, Calls Tryz.prog 83 #[.agg #[.int .i64 (rx l k), .int .i64 (ra l k), .bool (ro l k)]] W (Ret (.bool true) W) := fun W => ho ▸ rd.implReadingOk _ _ _ W
        clear ho
        go_wp2_with fail
        refine (cR _).mono ?_
        rintro e w1 ⟨rfl, hg1⟩
        go_wp2_with fail
        go_roundw
        case rel => exact ⟨k + 1, by omega, by go_num, Lib.hid (fun j hj => by
          by_cases e : j = k
          · subst e; exact HO.out
          · exact hok.out j (by omega)), gr_trans hg0 hg1⟩
        case measure => simp [intOf]; omega
      · have ho' : okR (rx l k, ra l k, ro l k) = false := Bool.eq_false_iff.2 ho
        have HA := Lib.hid (all_notR hlt ho' n)
        have cR : ∀ W, Calls Tryz.prog 83 #[.agg #[.int .i64 (rx l k), .int .i64 (ra l k), .bool (ro l k)]] W (Ret (.bool false) W) := fun W => ho' ▸ rd.implReadingOk _ _ _ W
        clear ho ho'
        go_wp2_with fail
        refine (cR _).mono ?_
        rintro e w1 ⟨rfl, hg1⟩
        go_wp2_with fail
        go_ret
        rw [HA.out]
        exact ⟨rfl, gr_trans hg0 hg1⟩
    · obtain rfl : k = l.length := by omega
      have HA := Lib.hid (all_yesR hok.out n)
      go_wp2_with fail
      go_ret
      refine ⟨?_, hg⟩
      rw [HA.out, ← eqn]; rfl

theorem implSeqOk (k : Int) (w : World) : Calls Tryz.prog 84 #[.int .i64 k] w fun e w' => e = .returned (.bool (inb k 0 99)) ∧ w = w' := by
  go_enter Tryz.func84, Tryz.ntmps84
  go_wp2
  all_goals go_ret
  all_goals exact ⟨fix.ret_bool (by unfold inb; simp <;> omega), rfl⟩
set_option maxHeartbeats 1000000 in
theorem implSeqsOk (a : Option Addr) (cap : Nat) (l : List Int) (w : World) (h : Ints w a l) (hl : l.length ≤ 1048576) : Calls Tryz.prog 51 #[.slice a l.length cap] w (Ret (.bool (okQs l)) w) := by
  go_enter Tryz.func51, Tryz.ntmps51
  go_wp2_with fail
  go_loopw [7] (fun i wr => ∃ k : Nat, k ≤ l.length ∧ i = .int .i64 k ∧ Hid (∀ j, j < k → okQ (nth l j) = true) ∧ w = wr) (fun i _ => l.length - (intOf i).toNat)
  case atStart => exact ⟨0, Nat.zero_le _, rfl, Lib.hid (fun j hj => by omega), rfl⟩
  case round =>
    obtain ⟨k, hk, rfl, hok, rfl⟩ := hrel
    by_cases hlt : k < l.length
    · obtain ⟨x, rfl, hb, cx⟩ := h k hlt
      have hq := okQ_or (nth l k)
      have cS := implSeqOk (nth l k)
      have HN := fun e => all_notQ hlt (e : okQ (nth l k) = false)
      by_cases h1 : nth l k = -1
      · have HO : Hid (okQ (nth l k) = true) := Lib.hid (by rw [h1]; rfl)
        have h1' : (nth l k == -1) = true := by simp [h1]
        clear hq cS HN
        go_wp2_with fail
        go_roundw
        case rel => exact ⟨k + 1, by omega, by go_num, Lib.hid (fun j hj => by
          by_cases e : j = k
          · subst e; exact HO.out
          · exact hok.out j (by omega)), (by first | rfl | trivial)⟩
        case measure => simp [intOf]; omega
      · have h1' : (nth l k == -1) = false := by simp [h1]
        rw [decide_eq_false h1, Bool.false_or] at hq
        cases h2 : inb (nth l k) 0 99
        · rw [h2] at hq cS
          have HA := Lib.hid (HN hq)
          clear hq HN
          go_wp2_with fail
          refine (cS _).mono ?_
          rintro e w1 ⟨rfl, rfl⟩
          go_wp2_with fail
          go_ret
          rw [HA.out]
          exact ⟨rfl, gr_refl _ _⟩
        · rw [h2] at hq cS
          have HO := Lib.hid (show okQ (nth l k) = true from hq)
          clear hq HN
          go_wp2_with fail
          refine (cS _).mono ?_
          rintro e w1 ⟨rfl, rfl⟩
          go_wp2_with fail
          go_roundw
          case rel => exact ⟨k + 1, by omega, by go_num, Lib.hid (fun j hj => by
            by_cases e : j = k
            · subst e; exact HO.out
            · exact hok.out j (by omega)), (by first | rfl | trivial)⟩
          case measure => simp [intOf]; omega
    · obtain rfl : k = l.length := by omega
      have HA := Lib.hid (all_yesQ hok.out)
      go_wp2_with fail
      go_ret
      refine ⟨?_, gr_refl _ _⟩
      rw [HA.out, ← eq4]; rfl

set_option maxHeartbeats 1000000 in
theorem specAllQ (a : Option Addr) (cap : Nat) (l : List Int) (w : World) (h : Ints w a l) (hl : l.length ≤ 1048576) :
    Calls Tryz.prog 53 #[.slice a l.length cap, .int .i64 4, .int .i64 (-1), .int .i64 99] w fun e w' => e = .returned (.bool (okQs l)) ∧ w = w' := by
  go_enter Tryz.func53, Tryz.ntmps53
  go_wp2_with fail
  go_loopw [9] (fun i wr => wr = w ∧ ∃ k : Nat, k ≤ l.length ∧ i = .int .i64 k ∧ Hid (∀ j, j < k → okQ (nth l j) = true)) (fun i _ => l.length - (intOf i).toNat)
  case atStart => exact ⟨rfl, 0, Nat.zero_le _, rfl, Lib.hid (fun j hj => by omega)⟩
  case round =>
    obtain ⟨rfl, k, hk, rfl, hs⟩ := hrel
    by_cases hlt : k < l.length
    · obtain ⟨x, rfl, hb, cx⟩ := h k hlt
      cases hz : okQ (nth l k)
      · have hz' : inb (nth l k) (-1) 99 = false := hz
        have HA := Lib.hid (all_notQ hlt hz)
        clear hz
        go_wp2_with fail
        refine (fix.specIn _ _ _ _).mono ?_
        rintro e w' ⟨rfl, rfl⟩
        go_wp2_with fail
        go_ret
        exact ⟨by rw [HA.out]; rfl, rfl⟩
      · have hz' : inb (nth l k) (-1) 99 = true := hz
        have HO := Lib.hid hz
        clear hz
        go_wp2_with fail
        refine (fix.specIn _ _ _ _).mono ?_
        rintro e w' ⟨rfl, rfl⟩
        go_wp2_with fail
        go_roundw
        case rel => exact ⟨(by first | rfl | trivial), k + 1, by omega, by go_num, Lib.hid (fun j hj => by
          by_cases e : j = k
          · subst e; exact HO.out
          · exact hs.out j (by omega))⟩
        case measure => simp [intOf]; omega
    · obtain rfl : k = l.length := by omega
      have HA := Lib.hid (all_yesQ hs.out)
      go_wp2_with fail
      go_ret
      refine ⟨?_, rfl⟩
      rw [HA.out, ← eq4]; rfl

set_option maxHeartbeats 4000000 in
theorem specSensesOk (s : S) (p : P) (w : World) (h : Arg w s p) (hb : Bd s 1048576) : Calls Tryz.prog 14 #[sv s p] w (Ret (.bool (ok s)) w) := by
  have K0 := Has.fresh w 27 (cs6 s p)
  have g0 := World.grownBy_alloc w (Obj.cells (cs6 s p) 27) none
  obtain ⟨⟨c0, c1, c2⟩, c3, c4, c5⟩ := six K0
  have hl1 := hb.sp
  have hl2 := hb.he
  have hl3 := hb.fa
  have hl4 := hb.sq
  replace h := h.kept g0
  have c6 := fun W (k : rd.Arg W p.a1 s.sp) => rd.specRight p.a1 p.c1 s.sp W k hl1
  have c7 := fun W (k : rd.Arg W p.a2 s.he) => rd.specRight p.a2 p.c2 s.he W k hl2
  have c8 := fun W (k : rd.Arg W p.a3 s.fa) => rd.specRight p.a3 p.c3 s.fa W k hl3
  have c9 := md.specWant s.wn
  have c10 := fun W (k : Ints W p.a4 s.sq) => specAllQ p.a4 p.c4 s.sq W k hl4
  by_cases he1 : s.sp.length = 3
  · have de1 : decide ((s.sp.length : Int) = 3) = true := by simp; omega
    have qe1 : ((s.sp.length : Int) == 3) = true := by simp; omega
    replace he1 := Lib.hid he1
    by_cases he2 : s.he.length = 2
    · have de2 : decide ((s.he.length : Int) = 2) = true := by simp; omega
      have qe2 : ((s.he.length : Int) == 2) = true := by simp; omega
      replace he2 := Lib.hid he2
      by_cases he3 : s.fa.length = 6
      · have de3 : decide ((s.fa.length : Int) = 6) = true := by simp; omega
        have qe3 : ((s.fa.length : Int) == 6) = true := by simp; omega
        replace he3 := Lib.hid he3
        cases hb1 : s.sp.all okR
        · rw [hb1] at c6
          have E : ok s = false := by unfold ok; simp only [okL]; simp [he1.out, he2.out, he3.out, hb1]
          rw [E]
          clear E
          go_enter Tryz.func14, Tryz.ntmps14
          go_wp2_with fail
          refine (c6 _ h.sp).mono ?_
          rintro e w1 ⟨rfl, r1⟩
          replace K0 := K0.grown r1 (by simp)
          replace g0 := gr_trans g0 r1
          replace h := h.kept r1
          clear c0 c1 c2 c3 c4 c5 r1
          obtain ⟨⟨c0, c1, c2⟩, c3, c4, c5⟩ := six K0
          go_wp2_with fail
          go_ret
          exact ⟨rfl, g0⟩
        · rw [hb1] at c6
          cases hb2 : s.he.all okR
          · rw [hb2] at c7
            have E : ok s = false := by unfold ok; simp only [okL]; simp [he1.out, he2.out, he3.out, hb1, hb2]
            rw [E]
            clear E
            go_enter Tryz.func14, Tryz.ntmps14
            go_wp2_with fail
            refine (c6 _ h.sp).mono ?_
            rintro e w1 ⟨rfl, r1⟩
            replace K0 := K0.grown r1 (by simp)
            replace g0 := gr_trans g0 r1
            replace h := h.kept r1
            clear c0 c1 c2 c3 c4 c5 r1
            obtain ⟨⟨c0, c1, c2⟩, c3, c4, c5⟩ := six K0
            go_wp2_with fail
            refine (c7 _ h.he).mono ?_
            rintro e w1 ⟨rfl, r1⟩
            replace K0 := K0.grown r1 (by simp)
            replace g0 := gr_trans g0 r1
            replace h := h.kept r1
            clear c0 c1 c2 c3 c4 c5 r1
            obtain ⟨⟨c0, c1, c2⟩, c3, c4, c5⟩ := six K0
            go_wp2_with fail
            go_ret
            exact ⟨rfl, g0⟩
          · rw [hb2] at c7
            cases hb3 : s.fa.all okR
            · rw [hb3] at c8
              have E : ok s = false := by unfold ok; simp only [okL]; simp [he1.out, he2.out, he3.out, hb1, hb2, hb3]
              rw [E]
              clear E
              go_enter Tryz.func14, Tryz.ntmps14
              go_wp2_with fail
              refine (c6 _ h.sp).mono ?_
              rintro e w1 ⟨rfl, r1⟩
              replace K0 := K0.grown r1 (by simp)
              replace g0 := gr_trans g0 r1
              replace h := h.kept r1
              clear c0 c1 c2 c3 c4 c5 r1
              obtain ⟨⟨c0, c1, c2⟩, c3, c4, c5⟩ := six K0
              go_wp2_with fail
              refine (c7 _ h.he).mono ?_
              rintro e w1 ⟨rfl, r1⟩
              replace K0 := K0.grown r1 (by simp)
              replace g0 := gr_trans g0 r1
              replace h := h.kept r1
              clear c0 c1 c2 c3 c4 c5 r1
              obtain ⟨⟨c0, c1, c2⟩, c3, c4, c5⟩ := six K0
              go_wp2_with fail
              refine (c8 _ h.fa).mono ?_
              rintro e w1 ⟨rfl, r1⟩
              replace K0 := K0.grown r1 (by simp)
              replace g0 := gr_trans g0 r1
              replace h := h.kept r1
              clear c0 c1 c2 c3 c4 c5 r1
              obtain ⟨⟨c0, c1, c2⟩, c3, c4, c5⟩ := six K0
              go_wp2_with fail
              go_ret
              exact ⟨rfl, g0⟩
            · rw [hb3] at c8
              cases hb4 : inb s.wn 0 2
              · rw [hb4] at c9
                have E : ok s = false := by unfold ok; simp only [okL]; simp [he1.out, he2.out, he3.out, hb1, hb2, hb3, hb4]
                rw [E]
                clear E
                go_enter Tryz.func14, Tryz.ntmps14
                go_wp2_with fail
                refine (c6 _ h.sp).mono ?_
                rintro e w1 ⟨rfl, r1⟩
                replace K0 := K0.grown r1 (by simp)
                replace g0 := gr_trans g0 r1
                replace h := h.kept r1
                clear c0 c1 c2 c3 c4 c5 r1
                obtain ⟨⟨c0, c1, c2⟩, c3, c4, c5⟩ := six K0
                go_wp2_with fail
                refine (c7 _ h.he).mono ?_
                rintro e w1 ⟨rfl, r1⟩
                replace K0 := K0.grown r1 (by simp)
                replace g0 := gr_trans g0 r1
                replace h := h.kept r1
                clear c0 c1 c2 c3 c4 c5 r1
                obtain ⟨⟨c0, c1, c2⟩, c3, c4, c5⟩ := six K0
                go_wp2_with fail
                refine (c8 _ h.fa).mono ?_
                rintro e w1 ⟨rfl, r1⟩
                replace K0 := K0.grown r1 (by simp)
                replace g0 := gr_trans g0 r1
                replace h := h.kept r1
                clear c0 c1 c2 c3 c4 c5 r1
                obtain ⟨⟨c0, c1, c2⟩, c3, c4, c5⟩ := six K0
                go_wp2_with fail
                refine (c9 _).mono ?_
                rintro e w1 ⟨rfl, rfl⟩
                go_wp2_with fail
                go_ret
                exact ⟨rfl, g0⟩
              · rw [hb4] at c9
                cases hb5 : okQs s.sq
                · rw [hb5] at c10
                  have E : ok s = false := by unfold ok; simp only [okL]; simp [he1.out, he2.out, he3.out, hb1, hb2, hb3, hb4, hb5]
                  rw [E]
                  clear E
                  go_enter Tryz.func14, Tryz.ntmps14
                  go_wp2_with fail
                  refine (c6 _ h.sp).mono ?_
                  rintro e w1 ⟨rfl, r1⟩
                  replace K0 := K0.grown r1 (by simp)
                  replace g0 := gr_trans g0 r1
                  replace h := h.kept r1
                  clear c0 c1 c2 c3 c4 c5 r1
                  obtain ⟨⟨c0, c1, c2⟩, c3, c4, c5⟩ := six K0
                  go_wp2_with fail
                  refine (c7 _ h.he).mono ?_
                  rintro e w1 ⟨rfl, r1⟩
                  replace K0 := K0.grown r1 (by simp)
                  replace g0 := gr_trans g0 r1
                  replace h := h.kept r1
                  clear c0 c1 c2 c3 c4 c5 r1
                  obtain ⟨⟨c0, c1, c2⟩, c3, c4, c5⟩ := six K0
                  go_wp2_with fail
                  refine (c8 _ h.fa).mono ?_
                  rintro e w1 ⟨rfl, r1⟩
                  replace K0 := K0.grown r1 (by simp)
                  replace g0 := gr_trans g0 r1
                  replace h := h.kept r1
                  clear c0 c1 c2 c3 c4 c5 r1
                  obtain ⟨⟨c0, c1, c2⟩, c3, c4, c5⟩ := six K0
                  go_wp2_with fail
                  refine (c9 _).mono ?_
                  rintro e w1 ⟨rfl, rfl⟩
                  go_wp2_with fail
                  refine (c10 _ h.sq).mono ?_
                  rintro e w1 ⟨rfl, rfl⟩
                  go_wp2_with fail
                  go_ret
                  exact ⟨rfl, g0⟩
                · rw [hb5] at c10
                  have E : ok s = true := by unfold ok; simp only [okL]; simp [he1.out, he2.out, he3.out, hb1, hb2, hb3, hb4, hb5]
                  rw [E]
                  clear E
                  go_enter Tryz.func14, Tryz.ntmps14
                  go_wp2_with fail
                  refine (c6 _ h.sp).mono ?_
                  rintro e w1 ⟨rfl, r1⟩
                  replace K0 := K0.grown r1 (by simp)
                  replace g0 := gr_trans g0 r1
                  replace h := h.kept r1
                  clear c0 c1 c2 c3 c4 c5 r1
                  obtain ⟨⟨c0, c1, c2⟩, c3, c4, c5⟩ := six K0
                  go_wp2_with fail
                  refine (c7 _ h.he).mono ?_
                  rintro e w1 ⟨rfl, r1⟩
                  replace K0 := K0.grown r1 (by simp)
                  replace g0 := gr_trans g0 r1
                  replace h := h.kept r1
                  clear c0 c1 c2 c3 c4 c5 r1
                  obtain ⟨⟨c0, c1, c2⟩, c3, c4, c5⟩ := six K0
                  go_wp2_with fail
                  refine (c8 _ h.fa).mono ?_
                  rintro e w1 ⟨rfl, r1⟩
                  replace K0 := K0.grown r1 (by simp)
                  replace g0 := gr_trans g0 r1
                  replace h := h.kept r1
                  clear c0 c1 c2 c3 c4 c5 r1
                  obtain ⟨⟨c0, c1, c2⟩, c3, c4, c5⟩ := six K0
                  go_wp2_with fail
                  refine (c9 _).mono ?_
                  rintro e w1 ⟨rfl, rfl⟩
                  go_wp2_with fail
                  refine (c10 _ h.sq).mono ?_
                  rintro e w1 ⟨rfl, rfl⟩
                  go_wp2_with fail
                  go_ret
                  exact ⟨rfl, g0⟩
      · have de3 : decide ((s.fa.length : Int) = 6) = false := by simp; omega
        have qe3 : ((s.fa.length : Int) == 6) = false := by simp; omega
        have E : ok s = false := by unfold ok; simp only [okL]; simp [he1.out, he2.out, he3]
        rw [E]
        clear E
        clear he3
        go_enter Tryz.func14, Tryz.ntmps14
        go_wp2_with fail
        go_ret
        exact ⟨rfl, g0⟩
    · have de2 : decide ((s.he.length : Int) = 2) = false := by simp; omega
      have qe2 : ((s.he.length : Int) == 2) = false := by simp; omega
      have E : ok s = false := by unfold ok; simp only [okL]; simp [he1.out, he2]
      rw [E]
      clear E
      clear he2
      go_enter Tryz.func14, Tryz.ntmps14
      go_wp2_with fail
      go_ret
      exact ⟨rfl, g0⟩
  · have de1 : decide ((s.sp.length : Int) = 3) = false := by simp; omega
    have qe1 : ((s.sp.length : Int) == 3) = false := by simp; omega
    have E : ok s = false := by unfold ok; simp only [okL]; simp [he1]
    rw [E]
    clear E
    clear he1
    go_enter Tryz.func14, Tryz.ntmps14
    go_wp2_with fail
    go_ret
    exact ⟨rfl, g0⟩

set_option maxHeartbeats 4000000 in
theorem implSensesOk (s : S) (p : P) (w : World) (h : Arg w s p) (hb : Bd s 1048576) (hv : Vals w) : Calls Tryz.prog 13 #[sv s p] w (Ret (.bool (ok s)) w) := by
  have K0 := Has.fresh w 27 (cs6 s p)
  have g0 := World.grownBy_alloc w (Obj.cells (cs6 s p) 27) none
  obtain ⟨⟨c0, c1, c2⟩, c3, c4, c5⟩ := six K0
  have hl1 := hb.sp
  have hl2 := hb.he
  have hl3 := hb.fa
  have hl4 := hb.sq
  replace hv := hv.kept g0
  obtain ⟨v1, v2, v3⟩ := hv.three
  replace h := h.kept g0
  have c6 := fun W (k : rd.Arg W p.a1 s.sp) => implReadingsOk p.a1 p.c1 s.sp 3 W k hl1 (by omega)
  have c7 := fun W (k : rd.Arg W p.a2 s.he) => implReadingsOk p.a2 p.c2 s.he 2 W k hl2 (by omega)
  have c8 := fun W (k : rd.Arg W p.a3 s.fa) => implReadingsOk p.a3 p.c3 s.fa 6 W k hl3 (by omega)
  have c9 := md.implWantOk s.wn
  have c10 := fun W (k : Ints W p.a4 s.sq) => implSeqsOk p.a4 p.c4 s.sq W k hl4
  cases hb1 : okL s.sp 3
  · rw [hb1] at c6
    have E : ok s = false := by unfold ok; simp [hb1]
    rw [E]
    clear E
    go_enter Tryz.func13, Tryz.ntmps13
    go_wp2_with fail
    refine (c6 _ h.sp).mono ?_
    rintro e w1 ⟨rfl, r1⟩
    replace K0 := K0.grown r1 (by simp)
    replace g0 := gr_trans g0 r1
    replace h := h.kept r1
    replace hv := hv.kept r1
    clear v1 v2 v3
    obtain ⟨v1, v2, v3⟩ := hv.three
    clear c0 c1 c2 c3 c4 c5 r1
    obtain ⟨⟨c0, c1, c2⟩, c3, c4, c5⟩ := six K0
    go_wp2_with fail
    go_ret
    exact ⟨rfl, g0⟩
  · rw [hb1] at c6
    cases hb2 : okL s.he 2
    · rw [hb2] at c7
      have E : ok s = false := by unfold ok; simp [hb1, hb2]
      rw [E]
      clear E
      go_enter Tryz.func13, Tryz.ntmps13
      go_wp2_with fail
      refine (c6 _ h.sp).mono ?_
      rintro e w1 ⟨rfl, r1⟩
      replace K0 := K0.grown r1 (by simp)
      replace g0 := gr_trans g0 r1
      replace h := h.kept r1
      replace hv := hv.kept r1
      clear v1 v2 v3
      obtain ⟨v1, v2, v3⟩ := hv.three
      clear c0 c1 c2 c3 c4 c5 r1
      obtain ⟨⟨c0, c1, c2⟩, c3, c4, c5⟩ := six K0
      go_wp2_with fail
      refine (c7 _ h.he).mono ?_
      rintro e w1 ⟨rfl, r1⟩
      replace K0 := K0.grown r1 (by simp)
      replace g0 := gr_trans g0 r1
      replace h := h.kept r1
      replace hv := hv.kept r1
      clear v1 v2 v3
      obtain ⟨v1, v2, v3⟩ := hv.three
      clear c0 c1 c2 c3 c4 c5 r1
      obtain ⟨⟨c0, c1, c2⟩, c3, c4, c5⟩ := six K0
      go_wp2_with fail
      go_ret
      exact ⟨rfl, g0⟩
    · rw [hb2] at c7
      cases hb3 : okL s.fa 6
      · rw [hb3] at c8
        have E : ok s = false := by unfold ok; simp [hb1, hb2, hb3]
        rw [E]
        clear E
        go_enter Tryz.func13, Tryz.ntmps13
        go_wp2_with fail
        refine (c6 _ h.sp).mono ?_
        rintro e w1 ⟨rfl, r1⟩
        replace K0 := K0.grown r1 (by simp)
        replace g0 := gr_trans g0 r1
        replace h := h.kept r1
        replace hv := hv.kept r1
        clear v1 v2 v3
        obtain ⟨v1, v2, v3⟩ := hv.three
        clear c0 c1 c2 c3 c4 c5 r1
        obtain ⟨⟨c0, c1, c2⟩, c3, c4, c5⟩ := six K0
        go_wp2_with fail
        refine (c7 _ h.he).mono ?_
        rintro e w1 ⟨rfl, r1⟩
        replace K0 := K0.grown r1 (by simp)
        replace g0 := gr_trans g0 r1
        replace h := h.kept r1
        replace hv := hv.kept r1
        clear v1 v2 v3
        obtain ⟨v1, v2, v3⟩ := hv.three
        clear c0 c1 c2 c3 c4 c5 r1
        obtain ⟨⟨c0, c1, c2⟩, c3, c4, c5⟩ := six K0
        go_wp2_with fail
        refine (c8 _ h.fa).mono ?_
        rintro e w1 ⟨rfl, r1⟩
        replace K0 := K0.grown r1 (by simp)
        replace g0 := gr_trans g0 r1
        replace h := h.kept r1
        replace hv := hv.kept r1
        clear v1 v2 v3
        obtain ⟨v1, v2, v3⟩ := hv.three
        clear c0 c1 c2 c3 c4 c5 r1
        obtain ⟨⟨c0, c1, c2⟩, c3, c4, c5⟩ := six K0
        go_wp2_with fail
        go_ret
        exact ⟨rfl, g0⟩
      · rw [hb3] at c8
        cases hb4 : inb s.wn 0 2
        · rw [hb4] at c9
          have E : ok s = false := by unfold ok; simp [hb1, hb2, hb3, hb4]
          rw [E]
          clear E
          go_enter Tryz.func13, Tryz.ntmps13
          go_wp2_with fail
          refine (c6 _ h.sp).mono ?_
          rintro e w1 ⟨rfl, r1⟩
          replace K0 := K0.grown r1 (by simp)
          replace g0 := gr_trans g0 r1
          replace h := h.kept r1
          replace hv := hv.kept r1
          clear v1 v2 v3
          obtain ⟨v1, v2, v3⟩ := hv.three
          clear c0 c1 c2 c3 c4 c5 r1
          obtain ⟨⟨c0, c1, c2⟩, c3, c4, c5⟩ := six K0
          go_wp2_with fail
          refine (c7 _ h.he).mono ?_
          rintro e w1 ⟨rfl, r1⟩
          replace K0 := K0.grown r1 (by simp)
          replace g0 := gr_trans g0 r1
          replace h := h.kept r1
          replace hv := hv.kept r1
          clear v1 v2 v3
          obtain ⟨v1, v2, v3⟩ := hv.three
          clear c0 c1 c2 c3 c4 c5 r1
          obtain ⟨⟨c0, c1, c2⟩, c3, c4, c5⟩ := six K0
          go_wp2_with fail
          refine (c8 _ h.fa).mono ?_
          rintro e w1 ⟨rfl, r1⟩
          replace K0 := K0.grown r1 (by simp)
          replace g0 := gr_trans g0 r1
          replace h := h.kept r1
          replace hv := hv.kept r1
          clear v1 v2 v3
          obtain ⟨v1, v2, v3⟩ := hv.three
          clear c0 c1 c2 c3 c4 c5 r1
          obtain ⟨⟨c0, c1, c2⟩, c3, c4, c5⟩ := six K0
          go_wp2_with fail
          refine (c9 _).mono ?_
          rintro e w1 ⟨rfl, rfl⟩
          go_wp2_with fail
          go_ret
          exact ⟨rfl, g0⟩
        · rw [hb4] at c9
          cases hb5 : okQs s.sq
          · rw [hb5] at c10
            have E : ok s = false := by unfold ok; simp [hb1, hb2, hb3, hb4, hb5]
            rw [E]
            clear E
            go_enter Tryz.func13, Tryz.ntmps13
            go_wp2_with fail
            refine (c6 _ h.sp).mono ?_
            rintro e w1 ⟨rfl, r1⟩
            replace K0 := K0.grown r1 (by simp)
            replace g0 := gr_trans g0 r1
            replace h := h.kept r1
            replace hv := hv.kept r1
            clear v1 v2 v3
            obtain ⟨v1, v2, v3⟩ := hv.three
            clear c0 c1 c2 c3 c4 c5 r1
            obtain ⟨⟨c0, c1, c2⟩, c3, c4, c5⟩ := six K0
            go_wp2_with fail
            refine (c7 _ h.he).mono ?_
            rintro e w1 ⟨rfl, r1⟩
            replace K0 := K0.grown r1 (by simp)
            replace g0 := gr_trans g0 r1
            replace h := h.kept r1
            replace hv := hv.kept r1
            clear v1 v2 v3
            obtain ⟨v1, v2, v3⟩ := hv.three
            clear c0 c1 c2 c3 c4 c5 r1
            obtain ⟨⟨c0, c1, c2⟩, c3, c4, c5⟩ := six K0
            go_wp2_with fail
            refine (c8 _ h.fa).mono ?_
            rintro e w1 ⟨rfl, r1⟩
            replace K0 := K0.grown r1 (by simp)
            replace g0 := gr_trans g0 r1
            replace h := h.kept r1
            replace hv := hv.kept r1
            clear v1 v2 v3
            obtain ⟨v1, v2, v3⟩ := hv.three
            clear c0 c1 c2 c3 c4 c5 r1
            obtain ⟨⟨c0, c1, c2⟩, c3, c4, c5⟩ := six K0
            go_wp2_with fail
            refine (c9 _).mono ?_
            rintro e w1 ⟨rfl, rfl⟩
            go_wp2_with fail
            refine (c10 _ h.sq).mono ?_
            rintro e w1 ⟨rfl, r1⟩
            replace K0 := K0.grown r1 (by simp)
            replace g0 := gr_trans g0 r1
            replace h := h.kept r1
            replace hv := hv.kept r1
            clear v1 v2 v3
            obtain ⟨v1, v2, v3⟩ := hv.three
            clear c0 c1 c2 c3 c4 c5 r1
            obtain ⟨⟨c0, c1, c2⟩, c3, c4, c5⟩ := six K0
            go_wp2_with fail
            go_ret
            exact ⟨rfl, g0⟩
          · rw [hb5] at c10
            have E : ok s = true := by unfold ok; simp [hb1, hb2, hb3, hb4, hb5]
            rw [E]
            clear E
            go_enter Tryz.func13, Tryz.ntmps13
            go_wp2_with fail
            refine (c6 _ h.sp).mono ?_
            rintro e w1 ⟨rfl, r1⟩
            replace K0 := K0.grown r1 (by simp)
            replace g0 := gr_trans g0 r1
            replace h := h.kept r1
            replace hv := hv.kept r1
            clear v1 v2 v3
            obtain ⟨v1, v2, v3⟩ := hv.three
            clear c0 c1 c2 c3 c4 c5 r1
            obtain ⟨⟨c0, c1, c2⟩, c3, c4, c5⟩ := six K0
            go_wp2_with fail
            refine (c7 _ h.he).mono ?_
            rintro e w1 ⟨rfl, r1⟩
            replace K0 := K0.grown r1 (by simp)
            replace g0 := gr_trans g0 r1
            replace h := h.kept r1
            replace hv := hv.kept r1
            clear v1 v2 v3
            obtain ⟨v1, v2, v3⟩ := hv.three
            clear c0 c1 c2 c3 c4 c5 r1
            obtain ⟨⟨c0, c1, c2⟩, c3, c4, c5⟩ := six K0
            go_wp2_with fail
            refine (c8 _ h.fa).mono ?_
            rintro e w1 ⟨rfl, r1⟩
            replace K0 := K0.grown r1 (by simp)
            replace g0 := gr_trans g0 r1
            replace h := h.kept r1
            replace hv := hv.kept r1
            clear v1 v2 v3
            obtain ⟨v1, v2, v3⟩ := hv.three
            clear c0 c1 c2 c3 c4 c5 r1
            obtain ⟨⟨c0, c1, c2⟩, c3, c4, c5⟩ := six K0
            go_wp2_with fail
            refine (c9 _).mono ?_
            rintro e w1 ⟨rfl, rfl⟩
            go_wp2_with fail
            refine (c10 _ h.sq).mono ?_
            rintro e w1 ⟨rfl, r1⟩
            replace K0 := K0.grown r1 (by simp)
            replace g0 := gr_trans g0 r1
            replace h := h.kept r1
            replace hv := hv.kept r1
            clear v1 v2 v3
            obtain ⟨v1, v2, v3⟩ := hv.three
            clear c0 c1 c2 c3 c4 c5 r1
            obtain ⟨⟨c0, c1, c2⟩, c3, c4, c5⟩ := six K0
            go_wp2_with fail
            go_ret
            exact ⟨rfl, g0⟩
end Go.Proofs.YtdikhdfpcipdbaaGreatDoor.se

/- A set of fans: a map whose keys are the fans' weights; its words and its laws at the operations. -/
namespace Go.Proofs.YtdikhdfpcipdbaaGreatDoor.sh
open Go.ChangeShapes Go.WideShapes Go.ChangeAt Go.RowKit
open Go.Proofs.YtdikhdfpcipdbaaGreatDoor.nums Go.Proofs.YtdikhdfpcipdbaaGreatDoor.mem
open Go.Maps (Keyed)
set_option linter.unusedVariables false

/-- The key of the k-th fan, and what it reads as. -/
def keyV (k : Nat) : Value := .agg #[.int .i64 (tR k), .int .i64 (tP k)]
noncomputable def kf (k : Nat) : Lit := (keyOf Tryz.prog 284 (keyV k)).getD (.bool false)
/-- How many of the six are in S. -/
def cnt6 (S : Nat → Bool) : Nat := (if S 0 then 1 else 0) + (if S 1 then 1 else 0) + (if S 2 then 1 else 0) + (if S 3 then 1 else 0) + (if S 4 then 1 else 0) + (if S 5 then 1 else 0)
/-- The map reads as the set S of fans. -/
structure Six (D : DataW Unit) (S : Nat → Bool) : Prop where
  has : ∀ k, k < 6 → Maps.has D (kf k) = S k
  at_ : ∀ k, k < 6 → D.atKey (kf k) (.lit (.bool false)) = .lit (.bool (S k))
  only : ∀ kl, Maps.has D kl = true → ∃ k, k < 6 ∧ kl = kf k
  size : Maps.size D = cnt6 S
theorem cnt6_congr {S S' : Nat → Bool} (h : ∀ k, k < 6 → S k = S' k) : cnt6 S = cnt6 S' := by
  unfold cnt6; rw [h 0 (by omega), h 1 (by omega), h 2 (by omega), h 3 (by omega), h 4 (by omega), h 5 (by omega)]
theorem Six.congr {D : DataW Unit} {S S' : Nat → Bool} (h : Six D S) (e : ∀ k, k < 6 → S k = S' k) : Six D S' :=
  ⟨fun k hk => (h.has k hk).trans (e k hk), fun k hk => by rw [← e k hk]; exact h.at_ k hk, h.only, h.size.trans (cnt6_congr e)⟩
def out (S : Nat → Bool) (k : Nat) : Nat → Bool := fun j => !decide (j = k) && S j
/-- Block b is a map that reads as the set S of fans. -/
def IsSet (w : World) (b : Nat) (S : Nat → Bool) : Prop := ∃ D n, w.ownsMap Tryz.prog 284 (plainElem Tryz.prog 4) b n D ∧ n ≤ 12 ∧ Six D S
theorem IsSet.kept {w w' : World} {b : Nat} {S : Nat → Bool} {row : Option Nat} (h : IsSet w b S) (hg : w.grownBy w' row) (hn : some b ≠ row) : IsSet w' b S := by
  obtain ⟨D, n, ho, hn', hs⟩ := h
  exact ⟨D, n, ho.kept hg hn, hn', hs⟩
theorem IsSet.lt {w : World} {b : Nat} {S : Nat → Bool} (h : IsSet w b S) : b < w.heap.size := by obtain ⟨D, n, ho, _⟩ := h; exact ho.lt
theorem IsSet.ne {w : World} {b g : Nat} {S : Nat → Bool} {t : TypeId} {cs : Array Value} (h : IsSet w b S) (H : Has w g t cs) : b ≠ g := by
  obtain ⟨D, n, ⟨es, clock, hb, _⟩, _⟩ := h
  rintro rfl
  unfold Has at H
  rw [hb] at H; cases H
theorem IsSet.congr {w : World} {b : Nat} {S S' : Nat → Bool} (h : IsSet w b S) (e : ∀ k, k < 6 → S k = S' k) : IsSet w b S' := by
  obtain ⟨D, n, ho, hn, hs⟩ := h
  exact ⟨D, n, ho, hn, hs.congr e⟩

section
variable (w : World) {ops : Array Oper} {rest : List Oper} {o : Oper} {a : Act} {Q : Exit → Act → World → Prop}

/-- A walk over the set under way: the fans of L are still to come. -/
def Going (w : World) (b r : Nat) (S : Nat → Bool) (L : Nat → Bool) (cnt : Nat) : Prop :=
  ∃ D n left, w.ranges Tryz.prog 284 (plainElem Tryz.prog 4) b r n D left cnt ∧ n ≤ 12 ∧ Six D S ∧ (∀ k, k < 6 → left (kf k) = L k) ∧ (∀ kl, left kl = true → ∃ k, k < 6 ∧ kl = kf k) ∧ ∀ k, k < 6 → L k = true → S k = true
theorem Going.kept {w w' : World} {b r cnt : Nat} {S L : Nat → Bool} {row : Option Nat} (h : Going w b r S L cnt) (hg : w.grownBy w' row) (h1 : some b ≠ row) (h2 : some r ≠ row) : Going w' b r S L cnt := by
  obtain ⟨D, n, left, hr, hn, hs, hl, ho⟩ := h
  exact ⟨D, n, left, hr.kept hg h1 h2, hn, hs, hl, ho⟩
theorem Going.left {w : World} {b r cnt : Nat} {S L : Nat → Bool} (h : Going w b r S L cnt) : w.rangeLeft b r = cnt := by
  obtain ⟨D, n, left, hr, hn, hs, hl, ho⟩ := h
  exact hr.left_eq
theorem Going.set {w : World} {b r cnt : Nat} {S L : Nat → Bool} (h : Going w b r S L cnt) : IsSet w b S := by
  obtain ⟨D, n, left, hr, hn, hs, hl, ho⟩ := h
  exact ⟨D, n, hr.owns, hn, hs⟩
theorem Going.lt {w : World} {b r cnt : Nat} {S L : Nat → Bool} (h : Going w b r S L cnt) : r < w.heap.size := by
  obtain ⟨D, n, left, hr, hn, hs, hl, ho⟩ := h
  exact hr.lt

end
end Go.Proofs.YtdikhdfpcipdbaaGreatDoor.sh

