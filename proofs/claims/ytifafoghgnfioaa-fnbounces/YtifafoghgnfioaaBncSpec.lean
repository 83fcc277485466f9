/- Chapter 3: the model's small functions. -/
import Derived.Test.YtifafoghgnfioaaBnc
import Derived.Test.YtifafoghgnfioaaTabMem
import Derived.StillTailTactics
namespace Go.Proofs.Ytifafoghgnfioaa.bnc
open Go.ChangeShapes Go.WideShapes Go.ChangeAt Go.RowKit
open Go.Proofs.Ytifafoghgnfioaa.nums Go.Proofs.Ytifafoghgnfioaa.mem
open Go.Proofs.Ytifafoghgnfioaa.tab (Ret quiet_w)
set_option linter.unusedVariables false

/-- It returns this bounce; of what was there nothing is another. -/
def RetB (b : B) (w : World) (e : Ending) (w' : World) : Prop := e = .returned (.agg #[.int .i64 b.1, .bool b.2]) ∧ w.grownBy w' none
theorem two {w : World} {g : Nat} {t : TypeId} {a b : Value} (h : Has w g t #[a, b]) : w.cell? ⟨g, 0, none⟩ = some a ∧ w.cell? ⟨g, 1, none⟩ = some b ∧ w.frozen? ⟨g, 0, none⟩ = false ∧ w.frozen? ⟨g, 1, none⟩ = false :=
  ⟨h.cell 0, h.cell 1, h.frozen 0, h.frozen 1⟩
theorem fresh1 (w : World) (o : Obj) (t : TypeId) (cs : Array Value) : Has ((w.alloc o).alloc (.cells cs t)) (w.heap.size + 1) t cs := by
  have := Has.fresh (w.alloc o) t cs
  simpa using this
theorem set2 {w : World} {g : Nat} {t : TypeId} {a b : Value} (h : Has w g t #[a, b]) (a' b' : Value) : Has ((w.setCell ⟨g, 0, none⟩ a').setCell ⟨g, 1, none⟩ b') g t #[a', b'] := (h.put 0 a' rfl).put 1 b' rfl
theorem _root_.Go.Proofs.Ytifafoghgnfioaa.mem.Has.set_other {w : World} {g g' : Nat} {t : TypeId} {cs : Array Value} (h : Has w g t cs) (hn : g ≠ g') (i : Nat) (u : Value) : Has (w.setCell ⟨g', i, none⟩ u) g t cs := h.same (Below.heap_setCell _ _ _ _ hn)
/-- One sign, or nothing where something is out of range. -/
def one (u d : Int) (b : B) (s : Bool) : B := if right b u d = true then feel u d b s else (0, false)
/-- Many signs, or nothing. -/
def many (u d : Int) (b : B) (l : List Bool) : B := if right b u d = true ∧ l.length ≤ 200 then felt u d b l else (0, false)
/-- The signs l lie in block g, from its start on. -/
def Bs (w : World) (g : Nat) (l : List Bool) : Prop := g < w.heap.size ∧ ∀ k, k < l.length → w.cell? ⟨g, k, none⟩ = some (.bool (l.getD k false))
theorem Bs.grown {w w' : World} {g : Nat} {l : List Bool} {row : Option Nat} (h : Bs w g l) (hb : w.grownBy w' row) (hn : some g ≠ row) : Bs w' g l :=
  ⟨Nat.lt_of_lt_of_le h.1 hb.size, fun k hk => (World.cell?_of_block (hb.block g h.1 hn)).trans (h.2 k hk)⟩
theorem Bs.kept {w w' : World} {g : Nat} {l : List Bool} (h : Bs w g l) (hb : w.grownBy w' none) : Bs w' g l := h.grown hb (by simp)

theorem specBounceOk (N : Int) (on : Bool) (w : World) : Calls Try.prog 15 #[.agg #[.int .i64 N, .bool on]] w (Ret (.bool (inb N 0 100)) w) := by
  go_enter Try.func15, Try.ntmps15
  go_wp2_with fail
  refine (fix.specIn _ _ _ _).mono ?_
  rintro e w' ⟨rfl, rfl⟩
  go_wp2_with fail
  go_ret
  exact ⟨rfl, World.grownBy_alloc _ _ _⟩

set_option maxHeartbeats 1000000 in
theorem specRight (N : Int) (on : Bool) (u d : Int) (w : World) : Calls Try.prog 28 #[.agg #[.int .i64 N, .bool on], .int .i64 u, .int .i64 d] w (Ret (.bool (right (N, on) u d)) w) := by
  by_cases h0 : inb N 0 100 = true
  · by_cases h1 : inb u 1 100 = true
    · go_enter Try.func28, Try.ntmps28
      go_wp2_with fail
      refine (specBounceOk _ _ _).mono ?_
      rintro e w1 ⟨rfl, hg⟩
      go_wp2_with (go_at_call 30; refine (fix.specIn _ _ _ _).mono ?_; rintro e w' ⟨rfl, rfl⟩)
      go_ret
      exact ⟨fix.ret_bool (by unfold right; rw [h0, h1]; rfl), gr_trans (World.grownBy_alloc _ _ _) hg⟩
    · have h1' : inb u 1 100 = false := by simpa using h1
      clear h1
      go_enter Try.func28, Try.ntmps28
      go_wp2_with fail
      refine (specBounceOk _ _ _).mono ?_
      rintro e w1 ⟨rfl, hg⟩
      go_wp2_with (go_at_call 30; refine (fix.specIn _ _ _ _).mono ?_; rintro e w' ⟨rfl, rfl⟩)
      go_ret
      exact ⟨fix.ret_bool (by unfold right; rw [h0, h1']; rfl), gr_trans (World.grownBy_alloc _ _ _) hg⟩
  · have h0' : inb N 0 100 = false := by simpa using h0
    clear h0
    go_enter Try.func28, Try.ntmps28
    go_wp2_with fail
    refine (specBounceOk _ _ _).mono ?_
    rintro e w1 ⟨rfl, hg⟩
    go_wp2_with fail
    go_ret
    exact ⟨fix.ret_bool (by unfold right; rw [h0']; rfl), gr_trans (World.grownBy_alloc _ _ _) hg⟩

set_option maxHeartbeats 1000000 in
theorem specFeel (N : Int) (on s : Bool) (u d : Int) (w : World) (h0 : 0 ≤ N) (h1 : N ≤ 100) : Calls Try.prog 29 #[.agg #[.int .i64 N, .bool on], .bool s, .int .i64 u, .int .i64 d] w (RetB (feel u d (N, on) s) w) := by
  cases s
  · go_enter Try.func29, Try.ntmps29
    go_wp2_with fail
    refine (fix.specMax _ _ _).mono ?_
    rintro e w' ⟨rfl, rfl⟩
    go_wp2_with fail
    refine (fix.specMin _ _ _).mono ?_
    rintro e w' ⟨rfl, rfl⟩
    cases on
    all_goals go_wp2_with fail
    all_goals exact bodyPost_ret (by simp [results, Try.results29, go_sem]; rfl) rfl ⟨by simp [feel], gr_alloc (World.grownBy_alloc _ _ _) _⟩
  · go_enter Try.func29, Try.ntmps29
    go_wp2_with fail
    refine (fix.specMin _ _ _).mono ?_
    rintro e w' ⟨rfl, rfl⟩
    cases on
    all_goals go_wp2_with fail
    all_goals exact bodyPost_ret (by simp [results, Try.results29, go_sem]; rfl) rfl ⟨by simp [feel], gr_alloc (World.grownBy_alloc _ _ _) _⟩

set_option maxHeartbeats 1000000 in
theorem specFelt (N : Int) (on s : Bool) (u d : Int) (w : World) : Calls Try.prog 12 #[.agg #[.int .i64 N, .bool on], .bool s, .int .i64 u, .int .i64 d] w (RetB (one u d (N, on) s) w) := by
  have a0 := (Has.fresh w 25 #[.int .i64 N, .bool on]).alloc (Obj.cells #[.int .i64 0, .bool false] 25)
  have a1 := fresh1 w (Obj.cells #[.int .i64 N, .bool on] 25) 25 #[.int .i64 0, .bool false]
  have g0 : w.grownBy ((w.alloc (Obj.cells #[.int .i64 N, .bool on] 25)).alloc (Obj.cells #[.int .i64 0, .bool false] 25)) none := gr_alloc (World.grownBy_alloc _ _ _) _
  by_cases hr : right (N, on) u d = true
  · obtain ⟨⟨h0, h1⟩, _, _⟩ := right_iff.1 hr
    have e1 : one u d (N, on) s = feel u d (N, on) s := if_pos hr
    rw [e1]; clear e1
    go_enter Try.func12, Try.ntmps12
    go_wp2_with fail
    refine (specRight _ _ _ _ _).mono ?_
    rintro e w1 ⟨rfl, hg⟩
    replace a0 := a0.grown hg (by simp)
    replace a1 := a1.grown hg (by simp)
    replace g0 := gr_trans g0 hg
    obtain ⟨c0, c1, f0, f1⟩ := two a0
    go_wp2_with fail
    refine (specFeel _ _ _ _ _ _ h0 h1).mono ?_
    rintro e w2 ⟨rfl, hg2⟩
    replace a1 := a1.grown hg2 (by simp)
    replace g0 := gr_trans g0 hg2
    clear a0 c0 c1 f0 f1
    obtain ⟨c0, c1, f0, f1⟩ := two a1
    go_wp2_with fail
    obtain ⟨k0, k1, _, _⟩ := two (set2 a1 (.int .i64 (feel u d (N, on) s).1) (.bool (feel u d (N, on) s).2))
    exact bodyPost_ret (v := .agg #[.int .i64 (feel u d (N, on) s).1, .bool (feel u d (N, on) s).2]) (by simp [results, Try.results12, go_sem, k0, k1]) rfl ⟨rfl, gr_new (gr_new g0 (by omega) _ _) (by omega) _ _⟩
  · have hr' : right (N, on) u d = false := by simpa using hr
    have e1 : one u d (N, on) s = (0, false) := if_neg hr
    rw [e1]; clear e1 hr
    go_enter Try.func12, Try.ntmps12
    go_wp2_with fail
    refine (specRight _ _ _ _ _).mono ?_
    rintro e w1 ⟨rfl, hg⟩
    replace a1 := a1.grown hg (by simp)
    replace g0 := gr_trans g0 hg
    obtain ⟨c0, c1, f0, f1⟩ := two a1
    go_wp2_with fail
    obtain ⟨k0, k1, _, _⟩ := two (set2 a1 (.int .i64 0) (.bool false))
    exact bodyPost_ret (v := .agg #[.int .i64 0, .bool false]) (by simp [results, Try.results12, go_sem, k0, k1]) rfl ⟨rfl, gr_new (gr_new g0 (by omega) _ _) (by omega) _ _⟩

theorem decide_len {l : List Bool} (h : l.length ≤ 200) : decide (200 < (l.length : Int)) = false := by simp; omega

set_option maxHeartbeats 2000000 in
theorem specFeltAll (N : Int) (on : Bool) (g cap : Nat) (l : List Bool) (u d : Int) (w : World) (hl : l.length ≤ 1048576) (hB : Bs w g l) : Calls Try.prog 13 #[.agg #[.int .i64 N, .bool on], .slice (some ⟨g, 0, none⟩) l.length cap, .int .i64 u, .int .i64 d] w (RetB (many u d (N, on) l) w) := by
  have a0 := (Has.fresh w 25 #[.int .i64 N, .bool on]).alloc (Obj.cells #[.int .i64 0, .bool false] 25)
  have a1 := fresh1 w (Obj.cells #[.int .i64 N, .bool on] 25) 25 #[.int .i64 0, .bool false]
  have g0 : w.grownBy ((w.alloc (Obj.cells #[.int .i64 N, .bool on] 25)).alloc (Obj.cells #[.int .i64 0, .bool false] 25)) none := gr_alloc (World.grownBy_alloc _ _ _) _
  by_cases hr : right (N, on) u d = true
  · by_cases h2 : l.length ≤ 200
    · obtain ⟨⟨h0, h1⟩, hu, hd⟩ := right_iff.1 hr
      have HU := Lib.hid hu
      have HD := Lib.hid hd
      clear hu hd
      have e1 : many u d (N, on) l = felt u d (N, on) l := if_pos ⟨hr, h2⟩
      rw [e1]; clear e1
      have hdl := decide_len h2
      go_enter Try.func13, Try.ntmps13
      go_wp2_with fail
      refine (specRight _ _ _ _ _).mono ?_
      rintro e w1 ⟨rfl, hg⟩
      replace a0 := a0.grown hg (by simp)
      replace a1 := a1.grown hg (by simp)
      replace g0 := gr_trans g0 hg
      clear hg
      go_wp2_with fail
      go_loopw [9] (fun i wr => ∃ (k : Nat) (M : Int) (o : Bool), k ≤ l.length ∧ i = .int .i64 k ∧ Hid ((M, o) = felt u d (N, on) (l.take k)) ∧ (0 ≤ M ∧ M ≤ 100) ∧ Has wr w.heap.size 25 #[.int .i64 M, .bool o] ∧ Has wr (w.heap.size + 1) 25 #[.int .i64 0, .bool false] ∧ w.grownBy wr none) (fun i _ => l.length - (intOf i).toNat)
      case atStart => exact ⟨0, N, on, Nat.zero_le _, rfl, Lib.hid rfl, ⟨h0, h1⟩, a0, a1, g0⟩
      case round =>
        clear a0 a1 g0
        obtain ⟨k, M, o, hk, rfl, hM, ⟨M0, M1⟩, a0, a1, g0⟩ := hrel
        by_cases hlt : k < l.length
        · have cb := (hB.kept g0).2 k hlt
          obtain ⟨c0, c1, f0, f1⟩ := two a0
          go_wp2_with fail
          go_still_tail 7, (by kernel_rfl)
          change wpList _ _ _ _ _ wr.drew
          go_wp2_with fail
          refine (specFeel _ _ _ _ _ _ M0 M1).mono ?_
          rintro e w2 ⟨rfl, hg2⟩
          replace g0 := gr_trans (gr_drewN g0 1) hg2
          replace a0 := (a0.drewN 1).grown hg2 (by simp)
          replace a1 := (a1.drewN 1).grown hg2 (by simp)
          clear c0 c1 f0 f1 cb
          obtain ⟨c0, c1, f0, f1⟩ := two a0
          go_wp2_with fail
          go_roundw
          case rel => exact ⟨k + 1, _, _, by omega, by go_num, Lib.hid (by rw [felt_next u d (N, on) hlt, ← hM.out]; simp [List.getD, hlt]), feel_rng _ HU.out HD.out M0 M1, set2 a0 _ _, (a1.set_other (by simp) _ _).set_other (by simp) _ _, gr_new (gr_new g0 (by omega) _ _) (by omega) _ _⟩
          case measure => simp [intOf]; omega
        · obtain rfl : k = l.length := by omega
          have hM' := hM.out
          rw [List.take_length] at hM'
          obtain ⟨c0, c1, f0, f1⟩ := two a0
          obtain ⟨d0, d1, e0, e1⟩ := two a1
          go_wp2_with fail
          obtain ⟨k0, k1, _, _⟩ := two (set2 a1 (.int .i64 M) (.bool o))
          exact bodyPost_ret (v := .agg #[.int .i64 M, .bool o]) (by simp [results, Try.results13, go_sem, k0, k1]) rfl ⟨by rw [← hM'], gr_new (gr_new g0 (by omega) _ _) (by omega) _ _⟩
    · have e1 : many u d (N, on) l = (0, false) := if_neg (fun h => h2 h.2)
      rw [e1]; clear e1
      have hdl : decide (200 < (l.length : Int)) = true := by simp; omega
      go_enter Try.func13, Try.ntmps13
      go_wp2_with fail
      refine (specRight _ _ _ _ _).mono ?_
      rintro e w1 ⟨rfl, hg⟩
      replace a1 := a1.grown hg (by simp)
      replace g0 := gr_trans g0 hg
      obtain ⟨c0, c1, f0, f1⟩ := two a1
      go_wp2_with fail
      obtain ⟨k0, k1, _, _⟩ := two (set2 a1 (.int .i64 0) (.bool false))
      exact bodyPost_ret (v := .agg #[.int .i64 0, .bool false]) (by simp [results, Try.results13, go_sem, k0, k1]) rfl ⟨rfl, gr_new (gr_new g0 (by omega) _ _) (by omega) _ _⟩
  · have hr' : right (N, on) u d = false := by simpa using hr
    have e1 : many u d (N, on) l = (0, false) := if_neg (fun h => hr h.1)
    rw [e1]; clear e1 hr
    go_enter Try.func13, Try.ntmps13
    go_wp2_with fail
    refine (specRight _ _ _ _ _).mono ?_
    rintro e w1 ⟨rfl, hg⟩
    replace a1 := a1.grown hg (by simp)
    replace g0 := gr_trans g0 hg
    obtain ⟨c0, c1, f0, f1⟩ := two a1
    go_wp2_with fail
    obtain ⟨k0, k1, _, _⟩ := two (set2 a1 (.int .i64 0) (.bool false))
    exact bodyPost_ret (v := .agg #[.int .i64 0, .bool false]) (by simp [results, Try.results13, go_sem, k0, k1]) rfl ⟨rfl, gr_new (gr_new g0 (by omega) _ _) (by omega) _ _⟩
end Go.Proofs.Ytifafoghgnfioaa.bnc
