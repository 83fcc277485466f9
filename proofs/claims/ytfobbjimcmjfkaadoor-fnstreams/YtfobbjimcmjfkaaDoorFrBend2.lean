/- l1Bend: some text, little longer. -/
import Derived.Test.YtfobbjimcmjfkaaDoorFrBend
namespace Go.Proofs.YtfobbjimcmjfkaaDoor.frm
open Go.ChangeShapes Go.WideShapes Go.ChangeAt Go.RowKit
open Go.Proofs.YtfobbjimcmjfkaaDoor.nums Go.Proofs.YtfobbjimcmjfkaaDoor.mem Go.Proofs.YtfobbjimcmjfkaaDoor.txt Go.Proofs.YtfobbjimcmjfkaaDoor.fix Go.Proofs.YtfobbjimcmjfkaaDoor.cur
open Go.Proofs.YtfobbjimcmjfkaaDoor.tab (Ret quiet_w wpList_make_has)
set_option linter.unusedVariables false

/-- A bent text: some text, little longer. -/
def Bent (b : Option Addr) (n c q m : Nat) (w : World) (e : Ending) (w' : World) : Prop := ∃ l : List UInt8, e = .returned (str l) ∧ l.length ≤ m ∧ w.grownBy w' (some q) ∧ Cur b n c w' q

set_option maxRecDepth 100000 in
set_option maxHeartbeats 4000000 in
theorem bend (b : Option Addr) (n c q : Nat) (l s : List UInt8) (w : World) (hn : n ≤ 4096) (h : Cur b n c w q) (hl : l.length ≤ 1000) (hs : s.length ≤ 1000) (hs0 : 0 < s.length) : Calls Tryd.prog 56 #[.pointer (some ⟨q, 0, none⟩), str l, str s] w (Bent b n c q 2000 w) := by
  have hq := h.lt
  have hB := Bn.of_string w l (grownCap w l.length 0 5)
  have hc0 := grownCap_ge w l.length 0 5
  have hc1 := grownCap_le_maxLen w l.length 0 5 (by unfold maxLen; omega)
  have g0 := gr_none (gr_alloc (gr_drewN (gr_refl w none) 1) (Obj.cells (bytesRow ⟨l.toArray⟩ (grownCap w l.length 0 5)) 5 ((bytesRow ⟨l.toArray⟩ (grownCap w l.length 0 5)).size, (bytesRow ⟨l.toArray⟩ (grownCap w l.length 0 5)).size + 1))) (some q)
  have cv := run_bytes_of_string (P := Tryd.prog) w 9 22 5 ⟨l.toArray⟩ Tryd.underlying9 Tryd.underlying22 Tryd.underlying5
  have h0 : Cur b n c (w.drew.alloc (Obj.cells (bytesRow ⟨l.toArray⟩ (grownCap w l.length 0 5)) 5 ((bytesRow ⟨l.toArray⟩ (grownCap w l.length 0 5)).size, (bytesRow ⟨l.toArray⟩ (grownCap w l.length 0 5)).size + 1))) q := Cur.alloc (w := w.drew) h _
  go_enter Tryd.func56, Tryd.ntmps56
  go_wp2_with fail
  clear cv
  generalize grownCap w l.length 0 5 = cp at *
  refine (below b n c q _ 3 hn h0 (by omega)).mono ?_
  rintro e w1 ⟨x, ⟨x0, x1⟩, rfl, g1, h1⟩
  replace hB := hB.grown g1 (fun e => by injection e with e; omega)
  replace g0 := gr_trans g0 g1
  obtain ⟨N, rfl⟩ := Int.eq_ofNat_of_zero_le x0
  replace x1 : N ≤ 2 := by omega
  clear g1 h0 x0 h
  go_wp2_with fail
  go_loopw [7, 8] (fun v k wr => ∃ (g m cp N : Nat), v = .slice (some ⟨g, 0, none⟩) m cp ∧ k = .int .i64 N ∧ m ≤ cp ∧ cp ≤ maxLen ∧ N ≤ 2 ∧ m + N ≤ 1002 ∧ Bn wr g m ∧ w.heap.size ≤ g ∧ w.grownBy wr (some q) ∧ Cur b n c wr q) (fun _ k _ => (intOf k).toNat)
  case atStart => exact ⟨_, _, _, N, rfl, rfl, hc0, hc1, x1, by omega, hB, Nat.le_refl _, g0, h1⟩
  case round =>
    clear hB hc0 hc1 x1 g0 h1
    obtain ⟨g, m, cp, N, rfl, rfl, hmc, hcm, hN, hmN, hB, hg, g0, h1⟩ := hrel
    have hcm2 : cp ≤ 9223372036854775807 := by unfold maxLen at hcm; exact hcm
    have hgs := hB.1
    have hws := g0.size
    by_cases hlt : 0 < N ∧ 0 < m
    · have d1 : decide (0 < (N : Int)) = true := by simp; omega
      have d2 : decide (0 < (m : Int)) = true := by simp; omega
      go_wp2_with fail
      refine (below b n c q _ _ hn h1 (by omega)).mono ?_
      rintro e w2 ⟨y, ⟨y0, y1⟩, rfl, g2, h2⟩
      replace hB := hB.grown g2 (fun e => by injection e with e; omega)
      replace g0 := gr_trans g0 g2
      clear g2 h1
      obtain ⟨k, rfl⟩ := Int.eq_ofNat_of_zero_le y0
      replace y1 : k < m := by omega
      go_wp2_with fail
      refine (below b n c q _ _ hn h2 (by omega)).mono ?_
      rintro e w3 ⟨z, ⟨z0, z1⟩, rfl, g3, h3⟩
      replace hB := hB.grown g3 (fun e => by injection e with e; omega)
      replace g0 := gr_trans g0 g3
      clear g3 h2
      have hz : z = 0 ∨ z = 1 ∨ z = 2 ∨ z = 3 := by omega
      clear z0 z1
      rcases hz with rfl | rfl | rfl | rfl
      · go_wp2_with fail
        refine (below b n c q _ _ hn h3 (by omega)).mono ?_
        rintro e w4 ⟨x, ⟨x0, x1⟩, rfl, g4, h4⟩
        replace hB := hB.grown g4 (fun e => by injection e with e; omega)
        replace g0 := gr_trans g0 g4
        clear g4 h3
        obtain ⟨i, rfl⟩ := Int.eq_ofNat_of_zero_le x0
        obtain ⟨d, e1, e2⟩ := hB.2 k y1
        go_wp2_with fail
        go_roundw
        case rel => exact ⟨g, m, cp, N - 1, rfl, by congr 1; omega, hmc, hcm, by omega, by omega, hB.put y1 _, hg, gr_new g0 hg _ _, Cur.set h4 (by omega) _ _⟩
        case measure => simp [intOf]; omega
      · go_wp2_with fail
        go_roundw
        case rel => exact ⟨g, k, cp, N - 1, rfl, by congr 1; omega, by omega, hcm, by omega, by omega, hB.less (by omega), hg, g0, h3⟩
        case measure => simp [intOf]; omega
      · have hk0 : (k : Int) ≤ cp := by omega
        have hk1 : (k : Int) + 1 ≤ m := by omega
        have hk2 : (m : Int) ≤ cp := by omega
        have hk3 : IntKind.i64.wrap ((k : Int) + 1) = (k : Int) + 1 := IntWalk.i64_in _ (by omega)
        have hk4 : ((k : Int) + 1).toNat = k + 1 := by omega
        have hk5 : (0 : Int) ≤ (k : Int) + 1 := by omega
        have hk6 : k + 1 ≤ m := by omega
        have hk7 : k ≤ cp := by omega
        have hk8 : k + 1 ≤ cp := by omega
        have hg3 := hB.1
        have hB4 := hB.alloc (Obj.cells #[] 5)
        have own0 : (w3.alloc (Obj.cells #[] 5)).drew.ownsRow w3.heap.size 5 1 (.slice (some ⟨w3.heap.size, 0, none⟩) 0 0) 0 [] := World.ownsRow_lit w3 #[] 0 (Nat.le_refl _) (by unfold maxLen; omega) (by simp)
        have rd0 : ∀ j, j < k → ∃ c : UInt8, (w3.alloc (Obj.cells #[] 5)).drew.cell? ⟨g, 0 + j, none⟩ = some (.int .u8 (c.toNat : Int)) := fun j hj => by
          obtain ⟨c, h1, _⟩ := hB4.2 j (by omega)
          rw [Nat.zero_add]
          exact ⟨c, h1⟩
        have hsz0 : w3.heap.size ≤ (w3.alloc (Obj.cells #[] 5)).drew.heap.size := by simp
        by_cases hck : cp = k + 1
        · obtain rfl : m = k + 1 := by omega
          subst hck
          have q1 : (k : Int) ≤ (k : Int) + 1 := by omega
          clear hk0 hk1 hk2
          go_wp2_with fail
          refine wp_region_noPanic ?_
          go_region_held_law (fun W => True) (exact trivial) (first
            | (refine step_app (by rfl) (.tmp 47) (.tmp 50) (by rfl) w3.heap.size w3.heap.size 0 0 [] (by rfl) own0 allB_nil g 0 k _ (by rfl) rd0 k (by omega) (by omega) hsz0 ?_; intro ga ca ya w4 o4 b4 g4; have hB5 := Bn.grown (w := (w3.alloc (Obj.cells #[] 5)).drew) hB4 g4 (fun e => by injection e with e; omega); have hsz4 := g4.size)
            | (refine step_app (by rfl) (.tmp 51) (.tmp 55) (by rfl) w3.heap.size ga k ca ya (by rfl) o4 b4 g 0 0 0 (by rfl) (fun j hj => by omega) k (by omega) (by omega) (by omega) ?_; intro gb cb yb w5 o5 b5 g5)
            | (refine step_app (by rfl) (.tmp 51) (.tmp 55) (by rfl) w3.heap.size ga k ca ya (by rfl) o4 b4 g (k + 1) 0 0 (by rfl) (fun j hj => by omega) k (by omega) (by omega) (by omega) ?_; intro gb cb yb w5 o5 b5 g5))
          refine NoPanic.normal ?_
          obtain ⟨c1, c2, c3⟩ := own_cap o5
          have hb5 := Bn.of_own o5 b5
          have gw := gr_past (gr_past (gr_drewN (gr_alloc g0 (Obj.cells #[] 5)) 1) g4 (by omega)) g5 (by have := (own_cap o4).2.2; omega)
          have hc5 : Cur b n c w5 q := (Cur.kept (w := (w3.alloc (Obj.cells #[] 5)).drew) (h3.alloc _) g4 (fun r e => by injection e with e; omega)).kept g5 (fun r e => by have := (own_cap o4).2.2; injection e with e; omega)
          clear o4 o5 b4 b5 g4 g5 hB4 hB5 own0 rd0 h3 hB
          go_wp2_with fail
          go_roundw
          case rel => exact ⟨gb, k, cb, N - 1, rfl, by congr 1; omega, c1, c2, by omega, by omega, hb5, by omega, gw, hc5⟩
          case measure => simp [intOf]; omega
        · go_wp2_with fail
          refine wp_region_noPanic ?_
          go_region_held_law (fun W => True) (exact trivial) (first
            | (refine step_app (by rfl) (.tmp 47) (.tmp 50) (by rfl) w3.heap.size w3.heap.size 0 0 [] (by rfl) own0 allB_nil g 0 k _ (by rfl) rd0 k (by omega) (by omega) hsz0 ?_; intro ga ca ya w4 o4 b4 g4; have hB5 := Bn.grown (w := (w3.alloc (Obj.cells #[] 5)).drew) hB4 g4 (fun e => by injection e with e; omega); have hsz4 := g4.size)
            | (refine step_app (by rfl) (.tmp 51) (.tmp 55) (by rfl) w3.heap.size ga k ca ya (by rfl) o4 b4 g (k + 1) (m - (k + 1)) (cp - (k + 1)) (by rfl) (fun j hj => by obtain ⟨c, h1, _⟩ := hB5.2 (k + 1 + j) (by omega); exact ⟨c, h1⟩) (m - 1) (by omega) (by omega) (by omega) ?_; intro gb cb yb w5 o5 b5 g5))
          refine NoPanic.normal ?_
          obtain ⟨c1, c2, c3⟩ := own_cap o5
          have hb5 := Bn.of_own o5 b5
          have gw := gr_past (gr_past (gr_drewN (gr_alloc g0 (Obj.cells #[] 5)) 1) g4 (by omega)) g5 (by have := (own_cap o4).2.2; omega)
          have hc5 : Cur b n c w5 q := (Cur.kept (w := (w3.alloc (Obj.cells #[] 5)).drew) (h3.alloc _) g4 (fun r e => by injection e with e; omega)).kept g5 (fun r e => by have := (own_cap o4).2.2; injection e with e; omega)
          clear o4 o5 b4 b5 g4 g5 hB4 hB5 own0 rd0 h3 hB
          go_wp2_with fail
          go_roundw
          case rel => exact ⟨gb, m - 1, cb, N - 1, rfl, by congr 1; omega, c1, c2, by omega, by omega, hb5, by omega, gw, hc5⟩
          case measure => simp [intOf]; omega
      · have hk0 : (k : Int) ≤ cp := by omega
        have hk1 : (k : Int) ≤ m := by omega
        have hk2 : (m : Int) ≤ cp := by omega
        have hk6 : k ≤ m := by omega
        have hk7 : k ≤ cp := by omega
        have hk8 : ¬ cp = k := by omega
        have hg3 := hB.1
        have own0 : (w3.alloc (Obj.cells #[] 5)).drew.ownsRow w3.heap.size 5 1 (.slice (some ⟨w3.heap.size, 0, none⟩) 0 0) 0 [] := World.ownsRow_lit w3 #[] 0 (Nat.le_refl _) (by unfold maxLen; omega) (by simp)
        have hcall : ∀ W, Cur b n c W q → Calls Tryd.prog 32 #[.pointer (some ⟨q, 0, none⟩), .int .i64 s.length] W fun e w' => ∃ v, e = .returned v ∧ ∃ i : Nat, v = .int .i64 i ∧ i < s.length ∧ W.grownBy w' (some q) ∧ Cur b n c w' q := fun W hW =>
          (below b n c q W _ hn hW (by omega)).mono fun e w' ⟨x, ⟨x0, x1⟩, he, hg, hc⟩ => ⟨_, he, x.toNat, by rw [Int.toNat_of_nonneg x0], by omega, hg, hc⟩
        have hB4 := hB.alloc (Obj.cells #[] 5)
        have rd0 : ∀ j, j < k → ∃ c : UInt8, (w3.alloc (Obj.cells #[] 5)).drew.cell? ⟨g, 0 + j, none⟩ = some (.int .u8 (c.toNat : Int)) := fun j hj => by
          obtain ⟨c, h1, _⟩ := hB4.2 j (by omega)
          rw [Nat.zero_add]
          exact ⟨c, h1⟩
        have hsz0 : w3.heap.size ≤ (w3.alloc (Obj.cells #[] 5)).drew.heap.size := by simp
        have rd1 : ∀ (W : World) (c : UInt8), ∀ j, j < 1 → ∃ d : UInt8, (W.alloc (Obj.cells #[.int .u8 (c.toNat : Int)] 5)).cell? ⟨W.heap.size, 0 + j, none⟩ = some (.int .u8 (d.toNat : Int)) := fun W c j hj => by
          obtain rfl : j = 0 := by omega
          exact ⟨c, (Has.fresh W 5 #[.int .u8 (c.toNat : Int)]).cell 0⟩
        go_wp2_with fail
        refine wp_region_noPanic ?_
        go_region_held_law (fun W => True) (exact trivial) (first
          | (refine step_app (by rfl) (.tmp 59) (.tmp 62) (by rfl) w3.heap.size w3.heap.size 0 0 [] (by rfl) own0 allB_nil g 0 k _ (by rfl) rd0 k (by omega) (by omega) hsz0 ?_; intro ga ca ya w4 o4 b4 g4; have hB5 := Bn.grown (w := (w3.alloc (Obj.cells #[] 5)).drew) hB4 g4 (fun e => by injection e with e; omega); have hsz4 := g4.size; have hga := (own_cap o4).2.2; have hc4 : Cur b n c w4 q := Cur.kept (w := (w3.alloc (Obj.cells #[] 5)).drew) (h3.alloc _) g4 (fun r e => by injection e with e; omega))
          | (refine step_app (by rfl) (.tmp 71) (.tmp 74) (by rfl) w3.heap.size gd (k + 1) cd yd (by rfl) od bd g k (m - k) (cp - k) (by rfl) (fun j hj => by obtain ⟨c, h1, _⟩ := hBd.2 (k + j) (by omega); exact ⟨c, h1⟩) (m + 1) (by omega) (by omega) (by simp at hszd; omega) ?_; intro gb cb yb w5 o5 b5 g5)
          | (refine step_call (by rfl) 32 _ (by go_simp) _ (hcall w4 hc4) ?_; rintro _ wc ⟨i, rfl, hi, gC, hC⟩; have hi2 : (i : Int) < s.length := Int.ofNat_lt.2 hi; have o4c := row_past o4 gC (by omega); have hBc := hB5.grown gC (fun e => by injection e with e; omega); have hszc := gC.size)
          | (refine step_app (by rfl) (.tmp 63) (.tmp 70) (by rfl) w3.heap.size ga k ca ya (by rfl) (o4c.alloc _) b4 wc.heap.size 0 1 1 (by rfl) (rd1 wc _) (k + 1) (by omega) (by omega) (by simp; omega) ?_; intro gd cd yd wd od bd gD; have hBd := (hBc.alloc _).grown gD (fun e => by injection e with e; omega); have hszd := gD.size; have hgd := (own_cap od).2.2))
        refine NoPanic.normal ?_
        obtain ⟨c1, c2, c3⟩ := own_cap o5
        have hb5 := Bn.of_own o5 b5
        have gw := gr_past (gr_past (gr_alloc (gr_trans (gr_past (gr_drewN (gr_alloc g0 (Obj.cells #[] 5)) 1) g4 (by omega)) gC) _) gD (by omega)) g5 (by omega)
        have hc5 : Cur b n c w5 q := ((hC.alloc _).kept gD (fun r e => by injection e with e; omega)).kept g5 (fun r e => by injection e with e; omega)
        clear o4 o4c od o5 b4 bd b5 g4 gC gD g5 hB4 hB5 hBc hBd own0 rd0 rd1 hcall h3 hB hC hc4
        go_wp2_with fail
        go_roundw
        case rel => exact ⟨gb, m + 1, cb, N - 1, rfl, by congr 1; omega, c1, c2, by omega, by omega, hb5, by omega, gw, hc5⟩
        case measure => simp [intOf]; omega
    · obtain ⟨T, hT, cT⟩ := hB.text cp
      have hT2 : T.length ≤ 2000 := by omega
      by_cases hN0 : N = 0
      · subst hN0
        have d1 : decide (0 < ((0 : Nat) : Int)) = false := by simp
        go_wp2_with fail
        go_ret
        exact ⟨T, rfl, hT2, g0, h1⟩
      · obtain rfl : m = 0 := by omega
        have d1 : decide (0 < (N : Int)) = true := by simp; omega
        have d2 : decide (0 < ((0 : Nat) : Int)) = false := by simp
        go_wp2_with fail
        go_ret
        exact ⟨T, rfl, hT2, g0, h1⟩
end Go.Proofs.YtfobbjimcmjfkaaDoor.frm
