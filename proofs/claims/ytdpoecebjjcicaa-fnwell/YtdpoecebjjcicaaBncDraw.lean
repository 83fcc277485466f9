/- The draws of chapter 3: whatever the bytes, a bounce, signs in new memory, numbers; and nothing that was there is another. -/
import Derived.Test.YtdpoecebjjcicaaBncArg
import Derived.Test.YtdpoecebjjcicaaCur2
import Derived.Deep.AppendLies
import Derived.Deep.RegionHeld3
namespace Go.Proofs.Ytdpoecebjjcicaa.bnc
open Go.ChangeShapes Go.WideShapes Go.ChangeAt Go.RowKit
open Go.Proofs.Ytdpoecebjjcicaa.nums Go.Proofs.Ytdpoecebjjcicaa.mem Go.Proofs.Ytdpoecebjjcicaa.cur
open Go.Proofs.Ytdpoecebjjcicaa.tab (Ret quiet_w wpList_make_has)
set_option linter.unusedVariables false

def pick3 (a b c : Int) (k : Nat) : Int := [a, b, c].getD k 0
theorem pick3_in (a b c lo hi : Int) (k : Nat) (hk : k < 3) (ha : lo ≤ a ∧ a ≤ hi) (hb : lo ≤ b ∧ b ≤ hi) (hc : lo ≤ c ∧ c ≤ hi) : lo ≤ pick3 a b c k ∧ pick3 a b c k ≤ hi := by
  obtain rfl | rfl | rfl : k = 0 ∨ k = 1 ∨ k = 2 := by omega
  · exact ha
  · exact hb
  · exact hc
theorem pick3_cell (a b c : Int) (k : Nat) (hk : k < 3) : #[Value.int .i64 a, .int .i64 b, .int .i64 c][k]? = some (.int .i64 (pick3 a b c k)) := by
  obtain rfl | rfl | rfl : k = 0 ∨ k = 1 ∨ k = 2 := by omega
  all_goals rfl

/-- A draw of a bounce from the cursor in block q. -/
def DrawnB (b : Option Addr) (n c : Nat) (w : World) (q : Nat) (e : Ending) (w' : World) : Prop :=
  ∃ (N : Int) (on : Bool), (-1 ≤ N ∧ N ≤ 101) ∧ e = .returned (.agg #[.int .i64 N, .bool on]) ∧ w.grownBy w' (some q) ∧ Cur b n c w' q

set_option maxHeartbeats 1000000 in
theorem draw (b : Option Addr) (n c q : Nat) (w : World) (hn : n ≤ 4096) (h : Cur b n c w q) :
    Calls Try.prog 49 #[.pointer (some ⟨q, 0, none⟩)] w (DrawnB b n c w q) := by
  have hq := h.lt
  have a0 := Has.fresh w 25 #[.int .i64 0, .bool false]
  have g0 : w.grownBy (w.alloc (Obj.cells #[.int .i64 0, .bool false] 25)) (some q) := World.grownBy_alloc _ _ _
  go_enter Try.func49, Try.ntmps49
  go_wp2_with fail
  refine (below b n c q _ 7 hn (h.alloc _) (by omega)).mono ?_
  rintro e w1 ⟨N, ⟨x0, x1⟩, rfl, g1, h1⟩
  replace a0 := a0.grown g1 (fun e => by injection e with e; omega)
  replace g0 := gr_trans g0 g1
  have s1 := a0.lt
  go_wp2_with fail
  refine (once b n c q _ 3 hn h1 (by omega)).mono ?_
  rintro e w2 ⟨on, rfl, g2, h2⟩
  have s2 := g2.size
  replace a0 := (a0.grown g2 (fun e => by injection e with e; omega)).alloc (Obj.cells #[.int .i64 N, .bool on] 25)
  have a1 := Has.fresh w2 25 #[.int .i64 N, .bool on]
  replace g0 := gr_alloc (gr_trans g0 g2) (Obj.cells #[.int .i64 N, .bool on] 25)
  clear g1 g2 h1
  have hlt : w.heap.size < w2.heap.size := by omega
  go_wp2_with fail
  refine (once b n c q _ 14 hn (h2.alloc _) (by omega)).mono ?_
  rintro e w3 ⟨v, rfl, g3, h3⟩
  replace a0 := a0.grown g3 (fun e => by injection e with e; omega)
  replace a1 := a1.grown g3 (fun e => by injection e with e; have := h2.lt; omega)
  replace g0 := gr_trans g0 g3
  cases v
  · obtain ⟨c0, c1, f0, f1⟩ := two a0
    obtain ⟨d0, d1, e0, e1⟩ := two a1
    go_wp2_with fail
    obtain ⟨k0, k1, _, _⟩ := two (set2 a0 (.int .i64 N) (.bool on))
    exact bodyPost_ret (v := .agg #[.int .i64 N, .bool on]) (by simp [results, Try.results49, go_sem, k0, k1]) rfl ⟨N, on, ⟨by omega, by omega⟩, rfl, gr_new (gr_new g0 (by omega) _ _) (by omega) _ _, h3.kept (row := some w.heap.size) (gr_set (gr_set (gr_refl _ _) _ _) _ _) (fun r e => by injection e with e; omega)⟩
  · have hf := Has.fresh w3 2 #[Value.int .i64 (-1), .int .i64 100, .int .i64 101]
    have hz := h3.lt
    have hz1 := a1.lt
    go_wp2_with fail
    refine (below b n c q _ 3 hn (h3.alloc _) (by omega)).mono ?_
    rintro e w4 ⟨x, ⟨y0, y1⟩, rfl, g4, h4⟩
    replace hf := hf.grown g4 (fun e => by injection e with e; omega)
    replace a0 := (a0.alloc _).grown g4 (fun e => by injection e with e; omega)
    replace a1 := (a1.alloc _).grown g4 (fun e => by injection e with e; have := h2.lt; omega)
    replace g0 := gr_trans (gr_alloc g0 _) g4
    obtain ⟨k, rfl⟩ := Int.eq_ofNat_of_zero_le y0
    have hk : k < 3 := by omega
    have hc := hf.cell k
    rw [pick3_cell _ _ _ k hk] at hc
    obtain ⟨c0, c1, f0, f1⟩ := two a0
    obtain ⟨d0, d1, e0, e1⟩ := two a1
    have hP := pick3_in (-1) 100 101 (-1) 101 k hk ⟨by omega, by omega⟩ ⟨by omega, by omega⟩ ⟨by omega, by omega⟩
    generalize pick3 (-1) 100 101 k = P at hc hP
    go_wp2_with fail
    have a2 := set2 (a0.set_other (g' := w2.heap.size) (by omega) 0 (.int .i64 P)) (.int .i64 P) (.bool on)
    obtain ⟨k0, k1, _, _⟩ := two a2
    have gz := gr_set (gr_set (gr_refl (w4.setCell ⟨w2.heap.size, 0, none⟩ (.int .i64 P)) (some w.heap.size)) 0 (.int .i64 P)) 1 (.bool on)
    have hcur : Cur b n c (w4.setCell ⟨w2.heap.size, 0, none⟩ (.int .i64 P)) q := h4.kept (row := some w2.heap.size) (gr_set (gr_refl _ _) _ _) (fun r e => by injection e with e; omega)
    exact bodyPost_ret (v := .agg #[.int .i64 P, .bool on]) (by simp [results, Try.results49, go_sem, k0, k1]) rfl ⟨P, on, hP, rfl, gr_new (gr_new (gr_new g0 (by omega) _ _) (by omega) _ _) (by omega) _ _, hcur.kept gz (fun r e => by injection e with e; omega)⟩

/-- The draw of a bounce, a sign, two numbers. -/
def DrawnF (w : World) (e : Ending) (w' : World) : Prop :=
  ∃ (N : Int) (on s : Bool) (u d : Int), e = .returned (.tuple #[.agg #[.int .i64 N, .bool on], .bool s, .int .i64 u, .int .i64 d]) ∧ (-1 ≤ N ∧ N ≤ 101) ∧ (0 ≤ u ∧ u ≤ 101) ∧ (0 ≤ d ∧ d ≤ 101) ∧ w.grownBy w' none

end Go.Proofs.Ytdpoecebjjcicaa.bnc
