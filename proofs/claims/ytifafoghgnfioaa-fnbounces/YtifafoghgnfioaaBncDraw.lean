/- The draws of chapter 3: whatever the bytes, a bounce, signs in new memory, numbers; and nothing that was there is another. -/
import Derived.Test.YtifafoghgnfioaaBncArg
import Derived.Test.YtifafoghgnfioaaCur2
import Derived.Deep.AppendLies
import Derived.Deep.RegionHeld3
namespace Go.Proofs.Ytifafoghgnfioaa.bnc
open Go.ChangeShapes Go.WideShapes Go.ChangeAt Go.RowKit
open Go.Proofs.Ytifafoghgnfioaa.nums Go.Proofs.Ytifafoghgnfioaa.mem Go.Proofs.Ytifafoghgnfioaa.cur
open Go.Proofs.Ytifafoghgnfioaa.tab (Ret quiet_w wpList_make_has)
set_option linter.unusedVariables false

def pick3 (a b c : Int) (k : Nat) : Int := [a, b, c].getD k 0
theorem pick3_in (a b c lo hi : Int) (k : Nat) (hk : k < 3) (ha : lo ≤ a ∧ a ≤ hi) (hb : lo ≤ b ∧ b ≤ hi) (hc : lo ≤ c ∧ c ≤ hi) : lo ≤ pick3 a b c k ∧ pick3 a b c k ≤ hi := by
  obtain rfl | rfl | rfl : k = 0 ∨ k = 1 ∨ k = 2 := by omega
  · exact ha
  · exact hb
  · exact hc
theorem pick3_cell (a b c : Int) (k : Nat) (hk : k < 3) : #[Value.int .i64 a, .int .i64 b, .int .i64 c][k]? = some (.int .i64 (pick3 a b c k)) := by
  obtain rfl | rfl | rfl : k = 0 ∨ k = 1 ∨ k = 2 := by omega
  all_goals rfl

set_option maxHeartbeats 400000 in
theorem drawUp (b : Option Addr) (n c q : Nat) (w : World) (hn : n ≤ 4096) (h : Cur b n c w q) :
    Calls Try.prog 23 #[.pointer (some ⟨q, 0, none⟩)] w (Drawn (fun x => 0 ≤ x ∧ x ≤ 101) b n c w q) := by
  go_enter Try.func23, Try.ntmps23
  go_wp2_with fail
  refine (once b n c q _ 14 hn h (by omega)).mono ?_
  rintro e w1 ⟨v, rfl, g1, h1⟩
  cases v
  · go_wp2_with fail
    refine (below b n c q _ 6 hn h1 (by omega)).mono ?_
    rintro e w2 ⟨x, ⟨x0, x1⟩, rfl, g2, h2⟩
    go_wp2_with fail
    go_ret
    exact ⟨_, ⟨by omega, by omega⟩, rfl, gr_trans g1 g2, h2⟩
  · go_wp2_with fail
    have hf := Has.fresh w1 2 #[Value.int .i64 0, .int .i64 100, .int .i64 101]
    refine (below b n c q _ 3 hn (h1.alloc _) (by omega)).mono ?_
    rintro e w2 ⟨x, ⟨x0, x1⟩, rfl, g2, h2⟩
    have hf2 := hf.grown g2 (fun e => by have := h1.lt; injection e with e; omega)
    obtain ⟨k, rfl⟩ := Int.eq_ofNat_of_zero_le x0
    have hk : k < 3 := by omega
    have hc := hf2.cell k
    rw [pick3_cell _ _ _ k hk] at hc
    go_wp2_with fail
    go_ret
    exact ⟨_, pick3_in _ _ _ _ _ k hk ⟨by omega, by omega⟩ ⟨by omega, by omega⟩ ⟨by omega, by omega⟩, rfl, gr_trans g1 (gr_trans (World.grownBy_alloc _ _ _) g2), h2⟩

/-- A draw of a bounce from the cursor in block q. -/
def DrawnB (b : Option Addr) (n c : Nat) (w : World) (q : Nat) (e : Ending) (w' : World) : Prop :=
  ∃ (N : Int) (on : Bool), (-1 ≤ N ∧ N ≤ 101) ∧ e = .returned (.agg #[.int .i64 N, .bool on]) ∧ w.grownBy w' (some q) ∧ Cur b n c w' q

set_option maxHeartbeats 1000000 in
theorem draw (b : Option Addr) (n c q : Nat) (w : World) (hn : n ≤ 4096) (h : Cur b n c w q) :
    Calls Try.prog 21 #[.pointer (some ⟨q, 0, none⟩)] w (DrawnB b n c w q) := by
  have hq := h.lt
  have a0 := Has.fresh w 25 #[.int .i64 0, .bool false]
  have g0 : w.grownBy (w.alloc (Obj.cells #[.int .i64 0, .bool false] 25)) (some q) := World.grownBy_alloc _ _ _
  go_enter Try.func21, Try.ntmps21
  go_wp2_with fail
  refine (below b n c q _ 7 hn (h.alloc _) (by omega)).mono ?_
  rintro e w1 ⟨N, ⟨x0, x1⟩, rfl, g1, h1⟩
  replace a0 := a0.grown g1 (fun e => by injection e with e; omega)
  replace g0 := gr_trans g0 g1
  have s1 := a0.lt
  go_wp2_with fail
  refine (once b n c q _ 3 hn h1 (by omega)).mono ?_
  rintro e w2 ⟨on, rfl, g2, h2⟩
  have s2 := g2.size
  replace a0 := (a0.grown g2 (fun e => by injection e with e; omega)).alloc (Obj.cells #[.int .i64 N, .bool on] 25)
  have a1 := Has.fresh w2 25 #[.int .i64 N, .bool on]
  replace g0 := gr_alloc (gr_trans g0 g2) (Obj.cells #[.int .i64 N, .bool on] 25)
  clear g1 g2 h1
  have hlt : w.heap.size < w2.heap.size := by omega
  go_wp2_with fail
  refine (once b n c q _ 14 hn (h2.alloc _) (by omega)).mono ?_
  rintro e w3 ⟨v, rfl, g3, h3⟩
  replace a0 := a0.grown g3 (fun e => by injection e with e; omega)
  replace a1 := a1.grown g3 (fun e => by injection e with e; have := h2.lt; omega)
  replace g0 := gr_trans g0 g3
  cases v
  · obtain ⟨c0, c1, f0, f1⟩ := two a0
    obtain ⟨d0, d1, e0, e1⟩ := two a1
    go_wp2_with fail
    obtain ⟨k0, k1, _, _⟩ := two (set2 a0 (.int .i64 N) (.bool on))
    exact bodyPost_ret (v := .agg #[.int .i64 N, .bool on]) (by simp [results, Try.results21, go_sem, k0, k1]) rfl ⟨N, on, ⟨by omega, by omega⟩, rfl, gr_new (gr_new g0 (by omega) _ _) (by omega) _ _, h3.kept (row := some w.heap.size) (gr_set (gr_set (gr_refl _ _) _ _) _ _) (fun r e => by injection e with e; omega)⟩
  · have hf := Has.fresh w3 2 #[Value.int .i64 (-1), .int .i64 100, .int .i64 101]
    have hz := h3.lt
    have hz1 := a1.lt
    go_wp2_with fail
    refine (below b n c q _ 3 hn (h3.alloc _) (by omega)).mono ?_
    rintro e w4 ⟨x, ⟨y0, y1⟩, rfl, g4, h4⟩
    replace hf := hf.grown g4 (fun e => by injection e with e; omega)
    replace a0 := (a0.alloc _).grown g4 (fun e => by injection e with e; omega)
    replace a1 := (a1.alloc _).grown g4 (fun e => by injection e with e; have := h2.lt; omega)
    replace g0 := gr_trans (gr_alloc g0 _) g4
    obtain ⟨k, rfl⟩ := Int.eq_ofNat_of_zero_le y0
    have hk : k < 3 := by omega
    have hc := hf.cell k
    rw [pick3_cell _ _ _ k hk] at hc
    obtain ⟨c0, c1, f0, f1⟩ := two a0
    obtain ⟨d0, d1, e0, e1⟩ := two a1
    have hP := pick3_in (-1) 100 101 (-1) 101 k hk ⟨by omega, by omega⟩ ⟨by omega, by omega⟩ ⟨by omega, by omega⟩
    generalize pick3 (-1) 100 101 k = P at hc hP
    go_wp2_with fail
    have a2 := set2 (a0.set_other (g' := w2.heap.size) (by omega) 0 (.int .i64 P)) (.int .i64 P) (.bool on)
    obtain ⟨k0, k1, _, _⟩ := two a2
    have gz := gr_set (gr_set (gr_refl (w4.setCell ⟨w2.heap.size, 0, none⟩ (.int .i64 P)) (some w.heap.size)) 0 (.int .i64 P)) 1 (.bool on)
    have hcur : Cur b n c (w4.setCell ⟨w2.heap.size, 0, none⟩ (.int .i64 P)) q := h4.kept (row := some w2.heap.size) (gr_set (gr_refl _ _) _ _) (fun r e => by injection e with e; omega)
    exact bodyPost_ret (v := .agg #[.int .i64 P, .bool on]) (by simp [results, Try.results21, go_sem, k0, k1]) rfl ⟨P, on, hP, rfl, gr_new (gr_new (gr_new g0 (by omega) _ _) (by omega) _ _) (by omega) _ _, hcur.kept gz (fun r e => by injection e with e; omega)⟩

/-- The draw of a bounce, a sign, two numbers. -/
def DrawnF (w : World) (e : Ending) (w' : World) : Prop :=
  ∃ (N : Int) (on s : Bool) (u d : Int), e = .returned (.tuple #[.agg #[.int .i64 N, .bool on], .bool s, .int .i64 u, .int .i64 d]) ∧ (-1 ≤ N ∧ N ≤ 101) ∧ (0 ≤ u ∧ u ≤ 101) ∧ (0 ≤ d ∧ d ≤ 101) ∧ w.grownBy w' none

set_option maxHeartbeats 4000000 in
theorem drawFelt (b : Option Addr) (n c : Nat) (w : World) (hn : n ≤ 4096) (hb : Bytes w w.heap.size b n) :
    Calls Try.prog 8 #[.slice b n c] w (DrawnF w) := by
  have a0 := Has.fresh w 25 #[.int .i64 0, .bool false]
  have g0 : w.grownBy (w.alloc (Obj.cells #[.int .i64 0, .bool false] 25)) none := World.grownBy_alloc _ _ _
  have hb1 : Bytes (w.alloc (Obj.cells #[.int .i64 0, .bool false] 25)) (w.alloc (Obj.cells #[.int .i64 0, .bool false] 25)).heap.size b n := (hb.below (Nat.le_refl _) (below_of_none g0)).more (by simp)
  go_enter Try.func8, Try.ntmps8
  go_wp2_with fail
  refine (new b n c _ hn hb1).mono ?_
  rintro e w1 ⟨q, rfl, hq, g1, h1⟩
  replace a0 := a0.grown g1 (by simp)
  replace g0 := gr_trans g0 g1
  have hq0 : w.heap.size < q := by have : w.heap.size + 1 ≤ q := (by simpa using hq); omega
  clear hb hb1 hq g1
  go_wp2_with fail
  refine (draw b n c q _ hn h1).mono ?_
  rintro e w2 ⟨N, on, hN, rfl, g2, h2⟩
  replace a0 := (a0.grown g2 (fun e => by injection e with e; omega)).alloc (Obj.cells #[.int .i64 N, .bool on] 25)
  have a1 := Has.fresh w2 25 #[.int .i64 N, .bool on]
  replace g0 := gr_alloc (gr_past g0 g2 (Nat.le_of_lt hq0)) (Obj.cells #[.int .i64 N, .bool on] 25)
  have hz := h2.lt
  clear g2 h1
  go_wp2_with fail
  refine (once b n c q _ 2 hn (h2.alloc _) (by omega)).mono ?_
  rintro e w3 ⟨s, rfl, g3, h3⟩
  replace a0 := a0.grown g3 (fun e => by injection e with e; omega)
  replace a1 := a1.grown g3 (fun e => by injection e with e; omega)
  replace g0 := gr_past g0 g3 (Nat.le_of_lt hq0)
  clear g3 h2
  go_wp2_with fail
  refine (drawUp b n c q _ hn h3).mono ?_
  rintro e w4 ⟨u, hu, rfl, g4, h4⟩
  replace a0 := a0.grown g4 (fun e => by injection e with e; omega)
  replace a1 := a1.grown g4 (fun e => by injection e with e; omega)
  replace g0 := gr_past g0 g4 (Nat.le_of_lt hq0)
  clear g4 h3
  obtain ⟨c0, c1, _, _⟩ := two a1
  have hne : w2.heap.size ≠ w.heap.size := by omega
  go_wp2_with fail
  have h4d : Cur b n c w4.drew q := h4
  go_region_held3 (fun W => W.cell? ⟨w2.heap.size, 0, none⟩ = some (.int .i64 N) ∧ W.cell? ⟨w2.heap.size, 1, none⟩ = some (.bool on)) (first | go_keep | exact ⟨(two ((a2.set_other hne _ _).set_other hne _ _)).1, (two ((a2.set_other hne _ _).set_other hne _ _)).2.1⟩)
    (first | (go_at_call 23; refine (drawUp b n c q _ hn h4d).mono ?_; rintro e w5 ⟨d, hd, rfl, g5, h5⟩; have a2 := (a1.drewN 1).grown g5 (fun e => by injection e with e; omega); obtain ⟨cc0, cc1, _, _⟩ := two a2; have a3 := (a0.drewN 1).grown g5 (fun e => by injection e with e; omega); obtain ⟨k0, k1, f0, f1⟩ := two a3))
  go_wp2_with fail
  obtain ⟨r0, r1, _, _⟩ := two (set2 a3 (.int .i64 N) (.bool on))
  exact bodyPost_ret (v := .tuple #[.agg #[.int .i64 N, .bool on], .bool s, .int .i64 u, .int .i64 d]) (by simp [results, Try.results8, go_sem, r0, r1]) rfl ⟨N, on, s, u, d, rfl, hN, hu, hd, gr_new (gr_new (gr_past (gr_drewN g0 1) g5 (Nat.le_of_lt hq0)) (Nat.le_refl _) _ _) (Nat.le_refl _) _ _⟩
end Go.Proofs.Ytifafoghgnfioaa.bnc
