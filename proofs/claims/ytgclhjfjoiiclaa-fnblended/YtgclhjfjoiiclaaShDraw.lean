/- The draws of chapter 11: whatever the bytes, a fan, a case, a demand, a list of numbers; and nothing that was there is another. -/
import Derived.Test.YtgclhjfjoiiclaaSh
import Derived.Deep.DeepCutAuto
import Derived.Deep.AppendLies
import Derived.Lib.Hide
namespace Go.Proofs.Ytgclhjfjoiiclaa.sh
open Go.ChangeShapes Go.WideShapes Go.ChangeAt Go.RowKit
open Go.Proofs.Ytgclhjfjoiiclaa.nums Go.Proofs.Ytgclhjfjoiiclaa.mem Go.Proofs.Ytgclhjfjoiiclaa.cur
set_option linter.unusedVariables false

/-- A draw of a demand from the cursor in block q. -/
def DrawnD (b : Option Addr) (n c : Nat) (w : World) (q : Nat) (e : Ending) (w' : World) : Prop :=
  ∃ l r p : Int, In64 l ∧ In64 r ∧ In64 p ∧ e = .returned (dem l r p) ∧ w.grownBy w' (some q) ∧ Cur b n c w' q

set_option maxHeartbeats 4000000 in
theorem drawDemand (b : Option Addr) (n c q : Nat) (w : World) (hn : n ≤ 4096) (h : Cur b n c w q) :
    Calls Try.prog 31 #[.pointer (some ⟨q, 0, none⟩)] w (DrawnD b n c w q) := by
  have hq := h.lt
  have a0 := Has.fresh w 25 #[.int .i64 0, .int .i64 0, .int .i64 0]
  have g0 : w.grownBy (w.alloc (Obj.cells #[.int .i64 0, .int .i64 0, .int .i64 0] 25)) (some q) := World.grownBy_alloc _ _ _
  go_enter Try.func31, Try.ntmps31
  go_wp2_with fail
  refine (below b n c q _ 1100 hn (h.alloc _) (by omega)).mono ?_
  rintro e w1 ⟨x, ⟨x0, x1⟩, rfl, g1, h1⟩
  replace a0 := a0.grown g1 (fun e => by injection e with e; omega)
  replace g0 := gr_trans g0 g1
  go_wp2_with fail
  refine (below b n c q _ 130 hn h1 (by omega)).mono ?_
  rintro e w2 ⟨y, ⟨y0, y1⟩, rfl, g2, h2⟩
  replace a0 := a0.grown g2 (fun e => by injection e with e; omega)
  replace g0 := gr_trans g0 g2
  go_wp2_with fail
  refine (below b n c q _ 130 hn h2 (by omega)).mono ?_
  rintro e w3 ⟨z, ⟨z0, z1⟩, rfl, g3, h3⟩
  replace a0 := a0.grown g3 (fun e => by injection e with e; omega)
  replace g0 := gr_trans g0 g3
  have hlt := a0.lt
  clear g1 g2 g3 h1 h2 h
  go_upto_region 2 with fail
  have a1 := Has.fresh w3 25 #[.int .i64 (x - 50), .int .i64 (y - 65), .int .i64 (z - 65)]
  replace a0 := a0.alloc (Obj.cells #[.int .i64 (x - 50), .int .i64 (y - 65), .int .i64 (z - 65)] 25)
  replace g0 := gr_alloc g0 (Obj.cells #[.int .i64 (x - 50), .int .i64 (y - 65), .int .i64 (z - 65)] 25)
  have hcur := h3.alloc (Obj.cells #[.int .i64 (x - 50), .int .i64 (y - 65), .int .i64 (z - 65)] 25)
  have i1 : In64 (x - 50) := ⟨by omega, by omega⟩
  have i2 : In64 (y - 65) := ⟨by omega, by omega⟩
  have i3 : In64 (z - 65) := ⟨by omega, by omega⟩
  clear h3
  generalize w3.alloc (Obj.cells #[.int .i64 (x - 50), .int .i64 (y - 65), .int .i64 (z - 65)] 25) = wb at *
  generalize w3.heap.size = X at *
  generalize x - 50 = l at *
  generalize y - 65 = r at *
  generalize z - 65 = p at *
  go_wp2_with fail
  refine (once b n c q _ 3 hn hcur (by omega)).mono ?_
  rintro e w4 ⟨v, rfl, g4, h4⟩
  replace a0 := a0.grown g4 (fun e => by injection e with e; omega)
  replace a1 := a1.grown g4 (fun e => by injection e with e; omega)
  replace g0 := gr_trans g0 g4
  clear hcur
  have hcur := h4
  clear h4 g4
  cases v
  · go_wp2_with fail
    refine (once b n c q _ 10 hn hcur (by omega)).mono ?_
    rintro e w5 ⟨v2, rfl, g5, h5⟩
    replace a0 := a0.grown g5 (fun e => by injection e with e; omega)
    replace a1 := a1.grown g5 (fun e => by injection e with e; omega)
    replace g0 := gr_trans g0 g5
    clear hcur
    have hcur := h5
    clear h5 g5
    cases v2
    · skip
      obtain ⟨c0, c1, c2, f0, f1, f2⟩ := three a0
      obtain ⟨d0, d1, d2, e0, e1, e2⟩ := three a1
      go_wp2_with fail
      obtain ⟨k0, k1, k2, _, _, _⟩ := three (set3 a0 (.int .i64 l) (.int .i64 r) (.int .i64 p))
      exact bodyPost_ret (v := dem l r p) (by simp [results, Try.results31, go_sem, k0, k1, k2]) rfl ⟨l, r, p, i1, i2, i3, rfl, gr_new (gr_new (gr_new g0 (by omega) _ _) (by omega) _ _) (by omega) _ _, hcur.kept (row := some w.heap.size) (gr_set (gr_set (gr_set (gr_refl _ _) _ _) _ _) _ _) (fun r e => by injection e with e; omega)⟩
    · go_wp2_with fail
      refine (below b n c q _ 3 hn hcur (by omega)).mono ?_
      rintro e w6 ⟨s, ⟨s0, s1⟩, rfl, g6, h6⟩
      replace a0 := a0.grown g6 (fun e => by injection e with e; omega)
      replace a1 := a1.grown g6 (fun e => by injection e with e; omega)
      replace g0 := gr_trans g0 g6
      clear hcur
      have hcur := h6
      clear h6 g6
      have hs : s = 0 ∨ s = 1 ∨ s = 2 := by omega
      clear s0 s1
      rcases hs with rfl | rfl | rfl
      · go_wp2_with fail
        refine (size b n c q _ hn hcur).mono ?_
        rintro e w7 ⟨u, hu, rfl, g7, h7⟩
        replace a0 := a0.grown g7 (fun e => by injection e with e; omega)
        replace a1 := a1.grown g7 (fun e => by injection e with e; omega)
        replace g0 := gr_trans g0 g7
        clear hcur
        have hcur := h7
        clear h7 g7
        obtain ⟨d0, d1, d2, e0, e1, e2⟩ := three a1
        go_upto_region 12 with fail
        clear d0 d1 d2 e0 e1 e2
        replace a0 := a0.set_other (g' := X) (by omega) 0 (.int .i64 u)
        have a2 : Has (w7.setCell ⟨X, 0, none⟩ (.int .i64 u)) X 25 #[.int .i64 u, .int .i64 r, .int .i64 p] := a1.put 0 (.int .i64 u) rfl
        clear a1
        have a1 := a2
        clear a2
        replace g0 := gr_new g0 (g := X) (by omega) 0 (.int .i64 u)
        replace hcur : Cur b n c (w7.setCell ⟨X, 0, none⟩ (.int .i64 u)) q := hcur.kept (row := some X) (gr_set (gr_refl _ _) _ _) (fun r e => by injection e with e; omega)
        generalize w7.setCell ⟨X, 0, none⟩ (.int .i64 u) = w8 at *
        obtain ⟨c0, c1, c2, f0, f1, f2⟩ := three a0
        obtain ⟨d0, d1, d2, e0, e1, e2⟩ := three a1
        go_wp2_with fail
        obtain ⟨k0, k1, k2, _, _, _⟩ := three (set3 a0 (.int .i64 u) (.int .i64 r) (.int .i64 p))
        exact bodyPost_ret (v := dem u r p) (by simp [results, Try.results31, go_sem, k0, k1, k2]) rfl ⟨u, r, p, hu, i2, i3, rfl, gr_new (gr_new (gr_new g0 (by omega) _ _) (by omega) _ _) (by omega) _ _, hcur.kept (row := some w.heap.size) (gr_set (gr_set (gr_set (gr_refl _ _) _ _) _ _) _ _) (fun r e => by injection e with e; omega)⟩
      · go_wp2_with fail
        refine (size b n c q _ hn hcur).mono ?_
        rintro e w7 ⟨u, hu, rfl, g7, h7⟩
        replace a0 := a0.grown g7 (fun e => by injection e with e; omega)
        replace a1 := a1.grown g7 (fun e => by injection e with e; omega)
        replace g0 := gr_trans g0 g7
        clear hcur
        have hcur := h7
        clear h7 g7
        obtain ⟨d0, d1, d2, e0, e1, e2⟩ := three a1
        go_upto_region 12 with fail
        clear d0 d1 d2 e0 e1 e2
        replace a0 := a0.set_other (g' := X) (by omega) 1 (.int .i64 u)
        have a2 : Has (w7.setCell ⟨X, 1, none⟩ (.int .i64 u)) X 25 #[.int .i64 l, .int .i64 u, .int .i64 p] := a1.put 1 (.int .i64 u) rfl
        clear a1
        have a1 := a2
        clear a2
        replace g0 := gr_new g0 (g := X) (by omega) 1 (.int .i64 u)
        replace hcur : Cur b n c (w7.setCell ⟨X, 1, none⟩ (.int .i64 u)) q := hcur.kept (row := some X) (gr_set (gr_refl _ _) _ _) (fun r e => by injection e with e; omega)
        generalize w7.setCell ⟨X, 1, none⟩ (.int .i64 u) = w8 at *
        obtain ⟨c0, c1, c2, f0, f1, f2⟩ := three a0
        obtain ⟨d0, d1, d2, e0, e1, e2⟩ := three a1
        go_wp2_with fail
        obtain ⟨k0, k1, k2, _, _, _⟩ := three (set3 a0 (.int .i64 l) (.int .i64 u) (.int .i64 p))
        exact bodyPost_ret (v := dem l u p) (by simp [results, Try.results31, go_sem, k0, k1, k2]) rfl ⟨l, u, p, i1, hu, i3, rfl, gr_new (gr_new (gr_new g0 (by omega) _ _) (by omega) _ _) (by omega) _ _, hcur.kept (row := some w.heap.size) (gr_set (gr_set (gr_set (gr_refl _ _) _ _) _ _) _ _) (fun r e => by injection e with e; omega)⟩
      · go_wp2_with fail
        refine (size b n c q _ hn hcur).mono ?_
        rintro e w7 ⟨u, hu, rfl, g7, h7⟩
        replace a0 := a0.grown g7 (fun e => by injection e with e; omega)
        replace a1 := a1.grown g7 (fun e => by injection e with e; omega)
        replace g0 := gr_trans g0 g7
        clear hcur
        have hcur := h7
        clear h7 g7
        obtain ⟨d0, d1, d2, e0, e1, e2⟩ := three a1
        go_upto_region 12 with fail
        clear d0 d1 d2 e0 e1 e2
        replace a0 := a0.set_other (g' := X) (by omega) 2 (.int .i64 u)
        have a2 : Has (w7.setCell ⟨X, 2, none⟩ (.int .i64 u)) X 25 #[.int .i64 l, .int .i64 r, .int .i64 u] := a1.put 2 (.int .i64 u) rfl
        clear a1
        have a1 := a2
        clear a2
        replace g0 := gr_new g0 (g := X) (by omega) 2 (.int .i64 u)
        replace hcur : Cur b n c (w7.setCell ⟨X, 2, none⟩ (.int .i64 u)) q := hcur.kept (row := some X) (gr_set (gr_refl _ _) _ _) (fun r e => by injection e with e; omega)
        generalize w7.setCell ⟨X, 2, none⟩ (.int .i64 u) = w8 at *
        obtain ⟨c0, c1, c2, f0, f1, f2⟩ := three a0
        obtain ⟨d0, d1, d2, e0, e1, e2⟩ := three a1
        go_wp2_with fail
        obtain ⟨k0, k1, k2, _, _, _⟩ := three (set3 a0 (.int .i64 l) (.int .i64 r) (.int .i64 u))
        exact bodyPost_ret (v := dem l r u) (by simp [results, Try.results31, go_sem, k0, k1, k2]) rfl ⟨l, r, u, i1, i2, hu, rfl, gr_new (gr_new (gr_new g0 (by omega) _ _) (by omega) _ _) (by omega) _ _, hcur.kept (row := some w.heap.size) (gr_set (gr_set (gr_set (gr_refl _ _) _ _) _ _) _ _) (fun r e => by injection e with e; omega)⟩
  · go_wp2_with fail
    refine (below b n c q _ 200 hn hcur (by omega)).mono ?_
    rintro e w4 ⟨s, ⟨s0, s1⟩, rfl, g4, h4⟩
    replace a0 := a0.grown g4 (fun e => by injection e with e; omega)
    replace a1 := a1.grown g4 (fun e => by injection e with e; omega)
    replace g0 := gr_trans g0 g4
    clear hcur
    have hcur := h4
    clear h4 g4
    obtain ⟨d0, d1, d2, e0, e1, e2⟩ := three a1
    go_upto_region 4 with fail
    clear d0 d1 d2 e0 e1 e2
    replace a0 := a0.set_other (g' := X) (by omega) 0 (.int .i64 (400 + s))
    have a2 : Has (w4.setCell ⟨X, 0, none⟩ (.int .i64 (400 + s))) X 25 #[.int .i64 (400 + s), .int .i64 r, .int .i64 p] := a1.put 0 (.int .i64 (400 + s)) rfl
    clear a1
    have a1 := a2
    clear a2
    replace g0 := gr_new g0 (g := X) (by omega) 0 (.int .i64 (400 + s))
    replace hcur : Cur b n c (w4.setCell ⟨X, 0, none⟩ (.int .i64 (400 + s))) q := hcur.kept (row := some X) (gr_set (gr_refl _ _) _ _) (fun r e => by injection e with e; omega)
    generalize w4.setCell ⟨X, 0, none⟩ (.int .i64 (400 + s)) = w8 at *
    have iL : In64 (400 + s) := ⟨by omega, by omega⟩
    generalize 400 + s = L at *
    clear s0 s1
    go_wp2_with fail
    refine (once b n c q _ 10 hn hcur (by omega)).mono ?_
    rintro e w5 ⟨v2, rfl, g5, h5⟩
    replace a0 := a0.grown g5 (fun e => by injection e with e; omega)
    replace a1 := a1.grown g5 (fun e => by injection e with e; omega)
    replace g0 := gr_trans g0 g5
    clear hcur
    have hcur := h5
    clear h5 g5
    cases v2
    · skip
      obtain ⟨c0, c1, c2, f0, f1, f2⟩ := three a0
      obtain ⟨d0, d1, d2, e0, e1, e2⟩ := three a1
      go_wp2_with fail
      obtain ⟨k0, k1, k2, _, _, _⟩ := three (set3 a0 (.int .i64 L) (.int .i64 r) (.int .i64 p))
      exact bodyPost_ret (v := dem L r p) (by simp [results, Try.results31, go_sem, k0, k1, k2]) rfl ⟨L, r, p, iL, i2, i3, rfl, gr_new (gr_new (gr_new g0 (by omega) _ _) (by omega) _ _) (by omega) _ _, hcur.kept (row := some w.heap.size) (gr_set (gr_set (gr_set (gr_refl _ _) _ _) _ _) _ _) (fun r e => by injection e with e; omega)⟩
    · go_wp2_with fail
      refine (below b n c q _ 3 hn hcur (by omega)).mono ?_
      rintro e w6 ⟨s, ⟨s0, s1⟩, rfl, g6, h6⟩
      replace a0 := a0.grown g6 (fun e => by injection e with e; omega)
      replace a1 := a1.grown g6 (fun e => by injection e with e; omega)
      replace g0 := gr_trans g0 g6
      clear hcur
      have hcur := h6
      clear h6 g6
      have hs : s = 0 ∨ s = 1 ∨ s = 2 := by omega
      clear s0 s1
      rcases hs with rfl | rfl | rfl
      · go_wp2_with fail
        refine (size b n c q _ hn hcur).mono ?_
        rintro e w7 ⟨u, hu, rfl, g7, h7⟩
        replace a0 := a0.grown g7 (fun e => by injection e with e; omega)
        replace a1 := a1.grown g7 (fun e => by injection e with e; omega)
        replace g0 := gr_trans g0 g7
        clear hcur
        have hcur := h7
        clear h7 g7
        obtain ⟨d0, d1, d2, e0, e1, e2⟩ := three a1
        go_upto_region 12 with fail
        clear d0 d1 d2 e0 e1 e2
        replace a0 := a0.set_other (g' := X) (by omega) 0 (.int .i64 u)
        have a2 : Has (w7.setCell ⟨X, 0, none⟩ (.int .i64 u)) X 25 #[.int .i64 u, .int .i64 r, .int .i64 p] := a1.put 0 (.int .i64 u) rfl
        clear a1
        have a1 := a2
        clear a2
        replace g0 := gr_new g0 (g := X) (by omega) 0 (.int .i64 u)
        replace hcur : Cur b n c (w7.setCell ⟨X, 0, none⟩ (.int .i64 u)) q := hcur.kept (row := some X) (gr_set (gr_refl _ _) _ _) (fun r e => by injection e with e; omega)
        generalize w7.setCell ⟨X, 0, none⟩ (.int .i64 u) = w8 at *
        obtain ⟨c0, c1, c2, f0, f1, f2⟩ := three a0
        obtain ⟨d0, d1, d2, e0, e1, e2⟩ := three a1
        go_wp2_with fail
        obtain ⟨k0, k1, k2, _, _, _⟩ := three (set3 a0 (.int .i64 u) (.int .i64 r) (.int .i64 p))
        exact bodyPost_ret (v := dem u r p) (by simp [results, Try.results31, go_sem, k0, k1, k2]) rfl ⟨u, r, p, hu, i2, i3, rfl, gr_new (gr_new (gr_new g0 (by omega) _ _) (by omega) _ _) (by omega) _ _, hcur.kept (row := some w.heap.size) (gr_set (gr_set (gr_set (gr_refl _ _) _ _) _ _) _ _) (fun r e => by injection e with e; omega)⟩
      · go_wp2_with fail
        refine (size b n c q _ hn hcur).mono ?_
        rintro e w7 ⟨u, hu, rfl, g7, h7⟩
        replace a0 := a0.grown g7 (fun e => by injection e with e; omega)
        replace a1 := a1.grown g7 (fun e => by injection e with e; omega)
        replace g0 := gr_trans g0 g7
        clear hcur
        have hcur := h7
        clear h7 g7
        obtain ⟨d0, d1, d2, e0, e1, e2⟩ := three a1
        go_upto_region 12 with fail
        clear d0 d1 d2 e0 e1 e2
        replace a0 := a0.set_other (g' := X) (by omega) 1 (.int .i64 u)
        have a2 : Has (w7.setCell ⟨X, 1, none⟩ (.int .i64 u)) X 25 #[.int .i64 L, .int .i64 u, .int .i64 p] := a1.put 1 (.int .i64 u) rfl
        clear a1
        have a1 := a2
        clear a2
        replace g0 := gr_new g0 (g := X) (by omega) 1 (.int .i64 u)
        replace hcur : Cur b n c (w7.setCell ⟨X, 1, none⟩ (.int .i64 u)) q := hcur.kept (row := some X) (gr_set (gr_refl _ _) _ _) (fun r e => by injection e with e; omega)
        generalize w7.setCell ⟨X, 1, none⟩ (.int .i64 u) = w8 at *
        obtain ⟨c0, c1, c2, f0, f1, f2⟩ := three a0
        obtain ⟨d0, d1, d2, e0, e1, e2⟩ := three a1
        go_wp2_with fail
        obtain ⟨k0, k1, k2, _, _, _⟩ := three (set3 a0 (.int .i64 L) (.int .i64 u) (.int .i64 p))
        exact bodyPost_ret (v := dem L u p) (by simp [results, Try.results31, go_sem, k0, k1, k2]) rfl ⟨L, u, p, iL, hu, i3, rfl, gr_new (gr_new (gr_new g0 (by omega) _ _) (by omega) _ _) (by omega) _ _, hcur.kept (row := some w.heap.size) (gr_set (gr_set (gr_set (gr_refl _ _) _ _) _ _) _ _) (fun r e => by injection e with e; omega)⟩
      · go_wp2_with fail
        refine (size b n c q _ hn hcur).mono ?_
        rintro e w7 ⟨u, hu, rfl, g7, h7⟩
        replace a0 := a0.grown g7 (fun e => by injection e with e; omega)
        replace a1 := a1.grown g7 (fun e => by injection e with e; omega)
        replace g0 := gr_trans g0 g7
        clear hcur
        have hcur := h7
        clear h7 g7
        obtain ⟨d0, d1, d2, e0, e1, e2⟩ := three a1
        go_upto_region 12 with fail
        clear d0 d1 d2 e0 e1 e2
        replace a0 := a0.set_other (g' := X) (by omega) 2 (.int .i64 u)
        have a2 : Has (w7.setCell ⟨X, 2, none⟩ (.int .i64 u)) X 25 #[.int .i64 L, .int .i64 r, .int .i64 u] := a1.put 2 (.int .i64 u) rfl
        clear a1
        have a1 := a2
        clear a2
        replace g0 := gr_new g0 (g := X) (by omega) 2 (.int .i64 u)
        replace hcur : Cur b n c (w7.setCell ⟨X, 2, none⟩ (.int .i64 u)) q := hcur.kept (row := some X) (gr_set (gr_refl _ _) _ _) (fun r e => by injection e with e; omega)
        generalize w7.setCell ⟨X, 2, none⟩ (.int .i64 u) = w8 at *
        obtain ⟨c0, c1, c2, f0, f1, f2⟩ := three a0
        obtain ⟨d0, d1, d2, e0, e1, e2⟩ := three a1
        go_wp2_with fail
        obtain ⟨k0, k1, k2, _, _, _⟩ := three (set3 a0 (.int .i64 L) (.int .i64 r) (.int .i64 u))
        exact bodyPost_ret (v := dem L r u) (by simp [results, Try.results31, go_sem, k0, k1, k2]) rfl ⟨L, r, u, iL, i2, hu, rfl, gr_new (gr_new (gr_new g0 (by omega) _ _) (by omega) _ _) (by omega) _ _, hcur.kept (row := some w.heap.size) (gr_set (gr_set (gr_set (gr_refl _ _) _ _) _ _) _ _) (fun r e => by injection e with e; omega)⟩
end Go.Proofs.Ytgclhjfjoiiclaa.sh
