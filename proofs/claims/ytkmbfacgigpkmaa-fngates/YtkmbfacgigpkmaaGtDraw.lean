/- The draws of chapter 14: whatever the bytes, a gate, two signs and facts; and nothing that was there is another. -/
import Derived.Test.YtkmbfacgigpkmaaGt
import Derived.Test.YtkmbfacgigpkmaaMdDraw
import Derived.Deep.RegionHeld3
namespace Go.Proofs.Ytkmbfacgigpkmaa.gt
open Go.ChangeShapes Go.WideShapes Go.ChangeAt Go.RowKit
open Go.Proofs.Ytkmbfacgigpkmaa.nums Go.Proofs.Ytkmbfacgigpkmaa.mem Go.Proofs.Ytkmbfacgigpkmaa.cur
open Go.Proofs.Ytkmbfacgigpkmaa.md (Fx cs8 fac eight free8 z8 set8 gr_set8 gr_row8 DrawnF drawFacts)
open Go.Proofs.Ytkmbfacgigpkmaa.tab (Ret quiet_w)
set_option linter.unusedVariables false

theorem gr_set2 {a w : World} {g : Nat} (h : a.grownBy w (some g)) (i j : Value) : a.grownBy ((w.setCell ⟨g, 0, none⟩ i).setCell ⟨g, 1, none⟩ j) (some g) := gr_set (gr_set h _ _) _ _

/-- A gate is drawn from the cursor in block q. -/
def DrawnG (b : Option Addr) (n c : Nat) (w : World) (q : Nat) (e : Ending) (w' : World) : Prop :=
  ∃ g : G, e = .returned (gv g) ∧ w.grownBy w' (some q) ∧ Cur b n c w' q

set_option maxHeartbeats 2000000 in
theorem drawGate (b : Option Addr) (n c q : Nat) (w : World) (hn : n ≤ 4096) (h : Cur b n c w q) :
    Calls Try.prog 18 #[.pointer (some ⟨q, 0, none⟩)] w (DrawnG b n c w q) := by
  have hq := h.lt
  have nq : some w.heap.size ≠ some q := fun e => by injection e with e; omega
  have a0 : Has (w.alloc (Obj.cells #[.int .i64 0, .bool false] 25)) w.heap.size 25 #[.int .i64 0, .bool false] := Has.fresh w 25 _
  have g0 : w.grownBy (w.alloc (Obj.cells #[.int .i64 0, .bool false] 25)) (some q) := World.grownBy_alloc _ _ _
  have h0 := h.alloc (Obj.cells #[.int .i64 0, .bool false] 25)
  clear h
  go_enter Try.func18, Try.ntmps18
  go_wp2_with fail
  refine (below b n c q _ 7 hn h0 (by omega)).mono ?_
  rintro e w1 ⟨x, ⟨x0, x1⟩, rfl, g1, h1⟩
  replace a0 := a0.grown g1 nq
  replace g0 := gr_trans g0 g1
  clear g1 h0
  go_wp2_with fail
  refine (once b n c q _ 5 hn h1 (by omega)).mono ?_
  rintro e w2 ⟨y, rfl, g1, h2⟩
  replace a0 := a0.grown g1 nq
  replace g0 := gr_trans g0 g1
  clear g1 h1
  have hy := a0.lt
  have a1 := Has.fresh w2 25 #[.int .i64 x, .bool y]
  replace a0 := a0.alloc (Obj.cells #[.int .i64 x, .bool y] 25)
  replace g0 := gr_alloc g0 (Obj.cells #[.int .i64 x, .bool y] 25)
  replace h2 := h2.alloc (Obj.cells #[.int .i64 x, .bool y] 25)
  go_upto_region 2 with fail
  generalize w2.alloc (Obj.cells #[.int .i64 x, .bool y] 25) = w3 at *
  generalize w2.heap.size = Y at *
  have nY : some Y ≠ some q := fun e => by injection e with e; omega
  go_wp2_with fail
  refine (once b n c q _ 14 hn h2 (by omega)).mono ?_
  rintro e w4 ⟨z, rfl, g1, h4⟩
  replace a0 := a0.grown g1 nq
  replace a1 := a1.grown g1 nY
  replace g0 := gr_trans g0 g1
  clear g1 h2
  go_upto_if 10 with fail
  go_cut [] (fun wx => ∃ k : Int, Has wx Y 25 #[.int .i64 k, .bool y] ∧ Has wx w.heap.size 25 #[.int .i64 0, .bool false] ∧ w.grownBy wx (some q) ∧ Cur b n c wx q)
  case first =>
    cases z
    · go_wp2_with fail
      go_meet
      exact ⟨x, a1, a0, g0, h4⟩
    · have hf := Has.fresh w4 2 #[Value.int .i64 (-1), .int .i64 100, .int .i64 101]
      have hz := h4.lt
      have hz1 := a1.lt
      go_wp2_with fail
      refine (below b n c q _ 3 hn (h4.alloc _) (by omega)).mono ?_
      rintro e w5 ⟨v, ⟨v0, v1⟩, rfl, g, h5⟩
      replace hf := hf.grown g (fun e => by injection e with e; omega)
      replace a0 := (a0.alloc (Obj.cells #[Value.int .i64 (-1), .int .i64 100, .int .i64 101] 2)).grown g nq
      replace a1 := (a1.alloc (Obj.cells #[Value.int .i64 (-1), .int .i64 100, .int .i64 101] 2)).grown g nY
      replace g0 := gr_trans (gr_alloc g0 (Obj.cells #[Value.int .i64 (-1), .int .i64 100, .int .i64 101] 2)) g
      obtain ⟨k, rfl⟩ := Int.eq_ofNat_of_zero_le v0
      have hk : k < 3 := by omega
      obtain ⟨P, hP⟩ : ∃ P : Int, #[Value.int .i64 (-1), .int .i64 100, .int .i64 101][k]? = some (.int .i64 P) := by
        obtain rfl | rfl | rfl : k = 0 ∨ k = 1 ∨ k = 2 := by omega
        · exact ⟨_, rfl⟩
        · exact ⟨_, rfl⟩
        · exact ⟨_, rfl⟩
      have hc := (hf.cell k).trans hP
      obtain ⟨c0, c1, f0, f1⟩ := two a1
      clear g h4 hf hP
      go_wp2_with fail
      go_meet
      exact ⟨P, a1.put 0 _ rfl, a0.set_other (by omega) _ _, gr_new g0 (by omega) _ _, h5.kept (row := some Y) (gr_set (gr_refl _ _) _ _) (fun r e => by injection e with e; omega)⟩
  case rest =>
    clear a0 a1 g0 h4
    obtain ⟨k, a1, a0, g0, h4⟩ := hcut
    obtain ⟨c0, c1, f0, f1⟩ := two a1
    obtain ⟨d0, d1, i0, i1⟩ := two a0
    go_wp2_with fail
    obtain ⟨k0, k1, _, _⟩ := two (set2 a0 (.int .i64 k) (.bool y))
    exact bodyPost_ret (v := gv (k, y)) (by simp [results, Try.results18, go_sem, k0, k1]) rfl ⟨(k, y), rfl, gr_new (gr_new g0 (Nat.le_refl _) _ _) (Nat.le_refl _) _ _, h4.kept (row := some w.heap.size) (gr_set2 (gr_refl _ _) _ _) (fun r e => by injection e with e; omega)⟩

/-! ### two structs written into their boxes -/
abbrev put2 (w : World) (X : Nat) (g : G) : World := (w.setCell ⟨X, 0, none⟩ (.int .i64 g.1)).setCell ⟨X, 1, none⟩ (.bool g.2)
abbrev put8 (w : World) (X : Nat) (f : Fx) : World := (((((((w.setCell ⟨X, 0, none⟩ (.int .i64 f.sp)).setCell ⟨X, 1, none⟩ (.bool f.so)).setCell ⟨X, 2, none⟩ (.int .i64 f.h)).setCell ⟨X, 3, none⟩ (.bool f.ho)).setCell ⟨X, 4, none⟩ (.int .i64 f.c)).setCell ⟨X, 5, none⟩ (.bool f.ar)).setCell ⟨X, 6, none⟩ (.int .i64 f.wn)).setCell ⟨X, 7, none⟩ (.int .i64 f.tm)
theorem put2_other {w : World} {X Y : Nat} {t : TypeId} {cs : Array Value} (h : Has w Y t cs) (hn : Y ≠ X) (g : G) : Has (put2 w X g) Y t cs := (h.set_other hn _ _).set_other hn _ _
theorem put8_other {w : World} {X Y : Nat} {t : TypeId} {cs : Array Value} (h : Has w Y t cs) (hn : Y ≠ X) (f : Fx) : Has (put8 w X f) Y t cs :=
  (((((((h.set_other hn _ _).set_other hn _ _).set_other hn _ _).set_other hn _ _).set_other hn _ _).set_other hn _ _).set_other hn _ _).set_other hn _ _
theorem put2_has {w : World} {X : Nat} {t : TypeId} {a b : Value} (h : Has w X t #[a, b]) (g : G) : Has (put2 w X g) X t (cs2 g) := set2 h _ _
theorem put8_has {w : World} {X : Nat} {t : TypeId} {f : Fx} (h : Has w X t (cs8 f)) (f' : Fx) : Has (put8 w X f') X t (cs8 f') := set8 h f'
theorem gr_put2 {w v : World} {row : Option Nat} {X : Nat} (h : v.grownBy w row) (hX : v.heap.size ≤ X) (g : G) : v.grownBy (put2 w X g) row := gr_new (gr_new h hX _ _) hX _ _
theorem gr_put8 {w v : World} {row : Option Nat} {X : Nat} (h : v.grownBy w row) (hX : v.heap.size ≤ X) (f : Fx) : v.grownBy (put8 w X f) row := gr_set8 h hX f

theorem cl2 {w : World} {g : Nat} {t : TypeId} {a b : Value} (k : Has w g t #[a, b]) : w.cell? ⟨g, 0, none⟩ = some a ∧ w.cell? ⟨g, 1, none⟩ = some b := ⟨k.cell 0, k.cell 1⟩
/-- A draw of a gate, two signs and facts. -/
def DrawnA (w : World) (e : Ending) (w' : World) : Prop :=
  ∃ (g : G) (ch st : Bool) (f : Fx), e = .returned (.tuple #[gv g, .bool ch, .bool st, fac f]) ∧ w.grownBy w' none

set_option maxHeartbeats 4000000 in
theorem drawGated (b : Option Addr) (n c : Nat) (w : World) (hn : n ≤ 4096) (hb : Bytes w w.heap.size b n) :
    Calls Try.prog 7 #[.slice b n c] w (DrawnA w) := by
  have a0 := (Has.fresh w 25 #[.int .i64 0, .bool false]).alloc (Obj.cells (cs8 z8) 27)
  have a1 : Has ((w.alloc (Obj.cells #[.int .i64 0, .bool false] 25)).alloc (Obj.cells (cs8 z8) 27)) (w.heap.size + 1) 27 (cs8 z8) := by
    simpa using Has.fresh (w.alloc (Obj.cells #[.int .i64 0, .bool false] 25)) 27 (cs8 z8)
  have g0 : w.grownBy ((w.alloc (Obj.cells #[.int .i64 0, .bool false] 25)).alloc (Obj.cells (cs8 z8) 27)) none := gr_alloc (World.grownBy_alloc _ _ _) _
  have hb1 : Bytes ((w.alloc (Obj.cells #[.int .i64 0, .bool false] 25)).alloc (Obj.cells (cs8 z8) 27)) ((w.alloc (Obj.cells #[.int .i64 0, .bool false] 25)).alloc (Obj.cells (cs8 z8) 27)).heap.size b n := (hb.below (Nat.le_refl _) (below_of_none g0)).more (by simp; omega)
  go_enter Try.func7, Try.ntmps7
  go_upto_region 1 with fail
  generalize hW : (w.alloc (Obj.cells #[.int .i64 0, .bool false] 25)).alloc (Obj.cells #[.int .i64 0, .bool false, .int .i64 0, .bool false, .int .i64 0, .bool false, .int .i64 0, .int .i64 0] 27) = w0
  replace a0 : Has w0 w.heap.size 25 #[.int .i64 0, .bool false] := hW ▸ a0
  replace a1 : Has w0 (w.heap.size + 1) 27 (cs8 z8) := hW ▸ a1
  replace g0 : w.grownBy w0 none := hW ▸ g0
  replace hb1 : Bytes w0 w0.heap.size b n := hW ▸ hb1
  clear hW
  have hz := a1.lt
  go_wp2_with fail
  refine (new b n c _ hn hb1).mono ?_
  rintro e w1 ⟨q, rfl, hq, g1, h1⟩
  have nq : some w.heap.size ≠ some q := fun e => by injection e with e; omega
  have nq1 : some (w.heap.size + 1) ≠ some q := fun e => by injection e with e; omega
  have hwq : w.heap.size ≤ q := by omega
  replace a0 := a0.grown g1 (by simp)
  replace a1 := a1.grown g1 (by simp)
  replace g0 := gr_trans g0 g1
  clear hb1 g1 hb
  go_wp2_with fail
  refine (drawGate b n c q _ hn h1).mono ?_
  rintro e w2 ⟨⟨s, x⟩, rfl, g2, h2⟩
  replace a0 := (a0.grown g2 nq).alloc (Obj.cells #[.int .i64 s, .bool x] 25)
  replace a1 := a1.grown g2 nq1
  have hy := a1.lt
  have hyq := h2.lt
  replace a1 := a1.alloc (Obj.cells #[.int .i64 s, .bool x] 25)
  have a2 := Has.fresh w2 25 #[.int .i64 s, .bool x]
  replace g0 := gr_alloc (gr_past g0 g2 hwq) (Obj.cells #[.int .i64 s, .bool x] 25)
  replace h2 := h2.alloc (Obj.cells #[.int .i64 s, .bool x] 25)
  clear g2 h1
  go_upto_region 3 with fail
  generalize w2.alloc (Obj.cells #[.int .i64 s, .bool x] 25) = w3 at *
  generalize w2.heap.size = Y at *
  have nY : some Y ≠ some q := fun e => by injection e with e; omega
  go_wp2_with fail
  refine (once b n c q _ 4 hn h2 (by omega)).mono ?_
  rintro e w4 ⟨ch, rfl, g1, h4⟩
  replace a0 := a0.grown g1 nq
  replace a1 := a1.grown g1 nq1
  replace a2 := a2.grown g1 nY
  replace g0 := gr_past g0 g1 hwq
  clear g1 h2
  go_wp2_with fail
  refine (once b n c q _ 4 hn h4 (by omega)).mono ?_
  rintro e w5 ⟨st, rfl, g1, h5⟩
  replace a0 := a0.grown g1 nq
  replace a1 := a1.grown g1 nq1
  replace a2 := a2.grown g1 nY
  replace g0 := gr_past g0 g1 hwq
  clear g1 h4
  go_upto_region 5 with fail
  obtain ⟨c0, c1, f0, f1⟩ := two a0
  obtain ⟨d0, d1, _, _⟩ := two a2
  obtain ⟨e0, e1, e2, e3, e4, e5, e6, e7⟩ := eight a1
  obtain ⟨i0, i1, i2, i3, i4, i5, i6, i7⟩ := free8 a1
  have B0 : Has w5.drew Y 25 #[.int .i64 s, .bool x] := a2
  have H0 : Cur b n c w5.drew q := h5.kept (row := none) (gr_drewN (gr_refl _ _) 1) (by simp)
  have A0 : Has w5.drew w.heap.size 25 #[.int .i64 0, .bool false] := a0
  have A1 : Has w5.drew (w.heap.size + 1) 27 (cs8 z8) := a1
  have G0 : w.grownBy w5.drew none := gr_drewN g0 1
  have hYX : Y ≠ w.heap.size := by omega
  have hYX1 : Y ≠ w.heap.size + 1 := by omega
  have hX : w.heap.size ≠ w.heap.size + 1 := by omega
  go_region_held3 (fun W => W.cell? ⟨Y, 0, none⟩ = some (.int .i64 s) ∧ W.cell? ⟨Y, 1, none⟩ = some (.bool x)) (first | with_reducible exact cl2 B0 | with_reducible exact cl2 B3 | with_reducible exact cl2 K0 | with_reducible exact cl2 K01 | fail) (first | (go_at_call 20; refine (drawFacts b n c q _ hn H0).mono ?_; rintro e v3 ⟨f, rfl, g3, h3⟩; have B3 := B0.grown g3 nY; have K0 := put2_other B3 hYX (s, x); have K01 := put8_other K0 hYX1 f; have Z0 := A0.grown g3 nq; have Z1 := A1.grown g3 nq1; have G3 := gr_past G0 g3 hwq; have Zq := two Z0; obtain ⟨zc0, zc1, zf0, zf1⟩ := Zq; have Zr := eight Z1; obtain ⟨y0, y1, y2, y3, y4, y5, y6, y7⟩ := Zr; have Zs := free8 Z1; obtain ⟨j0, j1, j2, j3, j4, j5, j6, j7⟩ := Zs) | fail)
  have P0 := put8_other (put2_has Z0 (s, x)) hX f
  have P1 := put8_has (put2_other Z1 (Ne.symm hX) (s, x)) f
  have GG := gr_put8 (gr_put2 G3 (Nat.le_refl _) (s, x)) (by omega : w.heap.size ≤ w.heap.size + 1) f
  obtain ⟨p0, p1⟩ := cl2 P0
  obtain ⟨k0, k1, k2, k3, k4, k5, k6, k7⟩ := eight P1
  clear zc0 zc1 zf0 zf1 y0 y1 y2 y3 y4 y5 y6 y7 j0 j1 j2 j3 j4 j5 j6 j7 Z0 Z1 K0 K01 B3 B0 A0 A1 H0 G0 G3 c0 c1 f0 f1 d0 d1 e0 e1 e2 e3 e4 e5 e6 e7 i0 i1 i2 i3 i4 i5 i6 i7 a0 a1 a2 g0 h5
  go_wp2_with fail
  exact bodyPost_ret (v := .tuple #[gv (s, x), .bool !ch, .bool !st, fac f]) (by simp [results, Try.results7, go_sem, p0, p1, k0, k1, k2, k3, k4, k5, k6, k7]) rfl ⟨(s, x), !ch, !st, f, rfl, GG⟩
end Go.Proofs.Ytkmbfacgigpkmaa.gt
