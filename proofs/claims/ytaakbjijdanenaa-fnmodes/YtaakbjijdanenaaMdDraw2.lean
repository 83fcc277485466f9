/- The draws of the law of modes. -/
import Derived.Test.YtaakbjijdanenaaMdDraw
namespace Go.Proofs.Ytaakbjijdanenaa.md
open Go.ChangeShapes Go.WideShapes Go.ChangeAt Go.RowKit
open Go.Proofs.Ytaakbjijdanenaa.nums Go.Proofs.Ytaakbjijdanenaa.mem Go.Proofs.Ytaakbjijdanenaa.cur
open Go.Proofs.Ytaakbjijdanenaa.tab (Ret quiet_w)
set_option linter.unusedVariables false

set_option maxHeartbeats 1000000 in
theorem drawNextMode (b : Option Addr) (n c : Nat) (w : World) (hn : n ≤ 4096) (hb : Bytes w w.heap.size b n) :
    Calls Try.prog 9 #[.slice b n c] w fun e w' => ∃ (m : Int) (f : Fx), (-1 ≤ m ∧ m ≤ 6) ∧ e = .returned (.tuple #[.int .i64 m, fac f]) ∧ w.grownBy w' none := by
  have a0 : Has (w.alloc (Obj.cells (cs8 z8) 25)) w.heap.size 25 (cs8 z8) := Has.fresh w 25 (cs8 z8)
  have g0 : w.grownBy (w.alloc (Obj.cells (cs8 z8) 25)) none := World.grownBy_alloc _ _ _
  have hb0 : Bytes (w.alloc (Obj.cells (cs8 z8) 25)) (w.alloc (Obj.cells (cs8 z8) 25)).heap.size b n := (hb.below (Nat.le_refl _) ((Below.refl _ _).alloc (Nat.le_refl _) _)).more (by simp)
  go_enter Try.func9, Try.ntmps9
  go_upto_region 1 with fail
  generalize hW : w.alloc (Obj.cells #[.int .i64 0, .bool false, .int .i64 0, .bool false, .int .i64 0, .bool false, .int .i64 0, .int .i64 0] 25) = w0
  replace a0 : Has w0 w.heap.size 25 (cs8 z8) := hW ▸ a0
  replace g0 : w.grownBy w0 none := hW ▸ g0
  replace hb0 : Bytes w0 w0.heap.size b n := hW ▸ hb0
  clear hW
  have hz := a0.lt
  go_wp2_with fail
  refine (new b n c _ hn hb0).mono ?_
  rintro e w1 ⟨q, rfl, hq, g1, h1⟩
  have hq' : w.heap.size < q := by omega
  have nq : some w.heap.size ≠ some q := fun e => by injection e with e; omega
  replace a0 := a0.grown g1 (by simp)
  replace g0 := gr_trans g0 g1
  clear g1 hb0
  go_wp2_with fail
  refine (from_ b n c q _ _ _ hn h1 (by omega) (by omega) (by omega) (by omega)).mono ?_
  rintro e w2 ⟨m, hm, rfl, g2, h2⟩
  replace a0 := a0.grown g2 nq
  replace g0 := gr_past g0 g2 (by omega)
  clear g2 h1
  go_wp2_with fail
  refine (drawFacts b n c q _ hn h2).mono ?_
  rintro e w3 ⟨f, rfl, g3, h3⟩
  replace a0 := a0.grown g3 nq
  replace g0 := gr_past g0 g3 (by omega)
  clear g3 h2
  obtain ⟨e0, e1, e2, e3, e4, e5, e6, e7⟩ := eight a0
  obtain ⟨d0, d1, d2, d3, d4, d5, d6, d7⟩ := free8 a0
  go_wp2_with fail
  obtain ⟨k0, k1, k2, k3, k4, k5, k6, k7⟩ := eight (set8 a0 f)
  exact bodyPost_ret (v := .tuple #[.int .i64 m, fac f]) (by simp [results, Try.results9, go_sem, k0, k1, k2, k3, k4, k5, k6, k7]) rfl ⟨m, f, hm, rfl, gr_set8 g0 (Nat.le_refl _) f⟩

theorem drawMayFollow (b : Option Addr) (n c : Nat) (w : World) (hn : n ≤ 4096) (hb : Bytes w w.heap.size b n) :
    Calls Try.prog 11 #[.slice b n c] w fun e w' => ∃ x y : Int, e = .returned (.tuple #[.int .i64 x, .int .i64 y]) ∧ w.grownBy w' none := by
  go_enter Try.func11, Try.ntmps11
  go_wp2_with fail
  refine (new b n c _ hn hb).mono ?_
  rintro e w1 ⟨q, rfl, hq, g1, h1⟩
  go_wp2_with fail
  refine (from_ b n c q _ _ _ hn h1 (by omega) (by omega) (by omega) (by omega)).mono ?_
  rintro e w2 ⟨x, hx, rfl, g2, h2⟩
  go_wp2_with fail
  refine (from_ b n c q _ _ _ hn h2 (by omega) (by omega) (by omega) (by omega)).mono ?_
  rintro e w3 ⟨y, hy, rfl, g3, h3⟩
  go_wp2_with fail
  go_ret2
  exact ⟨x, y, rfl, gr_past (gr_past g1 g2 hq) g3 hq⟩

theorem drawInAir (b : Option Addr) (n c : Nat) (w : World) (hn : n ≤ 4096) (hb : Bytes w w.heap.size b n) :
    Calls Try.prog 12 #[.slice b n c] w fun e w' => ∃ x : Int, e = .returned (.int .i64 x) ∧ w.grownBy w' none := by
  go_enter Try.func12, Try.ntmps12
  go_wp2_with fail
  refine (new b n c _ hn hb).mono ?_
  rintro e w1 ⟨q, rfl, hq, g1, h1⟩
  go_wp2_with fail
  refine (from_ b n c q _ _ _ hn h1 (by omega) (by omega) (by omega) (by omega)).mono ?_
  rintro e w2 ⟨x, hx, rfl, g2, h2⟩
  go_wp2_with fail
  go_ret
  exact ⟨x, rfl, gr_past g1 g2 hq⟩
end Go.Proofs.Ytaakbjijdanenaa.md
