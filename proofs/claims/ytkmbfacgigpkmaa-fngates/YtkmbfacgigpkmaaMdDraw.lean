/- The draws of chapter 13: whatever the bytes, a mode and facts; and nothing that was there is another. -/
import Derived.Test.YtkmbfacgigpkmaaMd2
import Derived.Deep.DeepCutAuto
import Derived.Deep.AppendLies
namespace Go.Proofs.Ytkmbfacgigpkmaa.md
open Go.ChangeShapes Go.WideShapes Go.ChangeAt Go.RowKit
open Go.Proofs.Ytkmbfacgigpkmaa.nums Go.Proofs.Ytkmbfacgigpkmaa.mem Go.Proofs.Ytkmbfacgigpkmaa.cur
open Go.Proofs.Ytkmbfacgigpkmaa.tab (Ret quiet_w)
set_option linter.unusedVariables false

def z8 : Fx := ⟨0, false, 0, false, 0, false, 0, 0⟩
theorem set8 {w : World} {g : Nat} {t : TypeId} {f : Fx} (h : Has w g t (cs8 f)) (f' : Fx) :
    Has ((((((((w.setCell ⟨g, 0, none⟩ (.int .i64 f'.sp)).setCell ⟨g, 1, none⟩ (.bool f'.so)).setCell ⟨g, 2, none⟩ (.int .i64 f'.h)).setCell ⟨g, 3, none⟩ (.bool f'.ho)).setCell ⟨g, 4, none⟩ (.int .i64 f'.c)).setCell ⟨g, 5, none⟩ (.bool f'.ar)).setCell ⟨g, 6, none⟩ (.int .i64 f'.wn)).setCell ⟨g, 7, none⟩ (.int .i64 f'.tm)) g t (cs8 f') := by
  have h1 := Has.put h 0 (.int .i64 f'.sp) (cs' := #[.int .i64 f'.sp, .bool f.so, .int .i64 f.h, .bool f.ho, .int .i64 f.c, .bool f.ar, .int .i64 f.wn, .int .i64 f.tm]) rfl
  have h2 := Has.put h1 1 (.bool f'.so) (cs' := #[.int .i64 f'.sp, .bool f'.so, .int .i64 f.h, .bool f.ho, .int .i64 f.c, .bool f.ar, .int .i64 f.wn, .int .i64 f.tm]) rfl
  have h3 := Has.put h2 2 (.int .i64 f'.h) (cs' := #[.int .i64 f'.sp, .bool f'.so, .int .i64 f'.h, .bool f.ho, .int .i64 f.c, .bool f.ar, .int .i64 f.wn, .int .i64 f.tm]) rfl
  have h4 := Has.put h3 3 (.bool f'.ho) (cs' := #[.int .i64 f'.sp, .bool f'.so, .int .i64 f'.h, .bool f'.ho, .int .i64 f.c, .bool f.ar, .int .i64 f.wn, .int .i64 f.tm]) rfl
  have h5 := Has.put h4 4 (.int .i64 f'.c) (cs' := #[.int .i64 f'.sp, .bool f'.so, .int .i64 f'.h, .bool f'.ho, .int .i64 f'.c, .bool f.ar, .int .i64 f.wn, .int .i64 f.tm]) rfl
  have h6 := Has.put h5 5 (.bool f'.ar) (cs' := #[.int .i64 f'.sp, .bool f'.so, .int .i64 f'.h, .bool f'.ho, .int .i64 f'.c, .bool f'.ar, .int .i64 f.wn, .int .i64 f.tm]) rfl
  have h7 := Has.put h6 6 (.int .i64 f'.wn) (cs' := #[.int .i64 f'.sp, .bool f'.so, .int .i64 f'.h, .bool f'.ho, .int .i64 f'.c, .bool f'.ar, .int .i64 f'.wn, .int .i64 f.tm]) rfl
  have h8 := Has.put h7 7 (.int .i64 f'.tm) (cs' := #[.int .i64 f'.sp, .bool f'.so, .int .i64 f'.h, .bool f'.ho, .int .i64 f'.c, .bool f'.ar, .int .i64 f'.wn, .int .i64 f'.tm]) rfl
  exact h8
theorem gr_set8 {w v : World} {row : Option Nat} {g : Nat} (h : v.grownBy w row) (hg : v.heap.size ≤ g) (f' : Fx) :
    v.grownBy ((((((((w.setCell ⟨g, 0, none⟩ (.int .i64 f'.sp)).setCell ⟨g, 1, none⟩ (.bool f'.so)).setCell ⟨g, 2, none⟩ (.int .i64 f'.h)).setCell ⟨g, 3, none⟩ (.bool f'.ho)).setCell ⟨g, 4, none⟩ (.int .i64 f'.c)).setCell ⟨g, 5, none⟩ (.bool f'.ar)).setCell ⟨g, 6, none⟩ (.int .i64 f'.wn)).setCell ⟨g, 7, none⟩ (.int .i64 f'.tm)) row :=
  gr_new (gr_new (gr_new (gr_new (gr_new (gr_new (gr_new (gr_new h hg _ _) hg _ _) hg _ _) hg _ _) hg _ _) hg _ _) hg _ _) hg _ _
theorem gr_row8 (w : World) (g : Nat) (f' : Fx) :
    w.grownBy ((((((((w.setCell ⟨g, 0, none⟩ (.int .i64 f'.sp)).setCell ⟨g, 1, none⟩ (.bool f'.so)).setCell ⟨g, 2, none⟩ (.int .i64 f'.h)).setCell ⟨g, 3, none⟩ (.bool f'.ho)).setCell ⟨g, 4, none⟩ (.int .i64 f'.c)).setCell ⟨g, 5, none⟩ (.bool f'.ar)).setCell ⟨g, 6, none⟩ (.int .i64 f'.wn)).setCell ⟨g, 7, none⟩ (.int .i64 f'.tm)) (some g) :=
  gr_set (gr_set (gr_set (gr_set (gr_set (gr_set (gr_set (gr_set (gr_refl _ _) _ _) _ _) _ _) _ _) _ _) _ _) _ _) _ _

/-- Facts are drawn from the cursor in block q. -/
def DrawnF (b : Option Addr) (n c : Nat) (w : World) (q : Nat) (e : Ending) (w' : World) : Prop :=
  ∃ f : Fx, e = .returned (fac f) ∧ w.grownBy w' (some q) ∧ Cur b n c w' q
/-- While they are drawn: facts lie in block Y, nothing yet in X. -/
def Half (b : Option Addr) (n c : Nat) (w : World) (q Y : Nat) (wx : World) : Prop :=
  ∃ f : Fx, Has wx Y 27 (cs8 f) ∧ Has wx w.heap.size 27 (cs8 z8) ∧ w.grownBy wx (some q) ∧ Cur b n c wx q
theorem Half.grown {b : Option Addr} {n c q Y : Nat} {w wx wy : World} (h : Half b n c w q Y wx) (hq : q < w.heap.size) (hY : w.heap.size < Y) (g : wx.grownBy wy (some q)) (hc : Cur b n c wy q) : Half b n c w q Y wy := by
  obtain ⟨f, h1, h2, h3, h4⟩ := h
  exact ⟨f, h1.grown g (fun e => by injection e with e; omega), h2.grown g (fun e => by injection e with e; omega), gr_trans h3 g, hc⟩
theorem Half.put {b : Option Addr} {n c q Y : Nat} {w wx : World} {f f' : Fx} (h1 : Has wx Y 27 (cs8 f)) (h2 : Has wx w.heap.size 27 (cs8 z8)) (h3 : w.grownBy wx (some q)) (h4 : Cur b n c wx q)
    (hq : q < w.heap.size) (hY : w.heap.size < Y) (i : Nat) (u : Value) (e : (cs8 f).setIfInBounds i u = cs8 f') : Half b n c w q Y (wx.setCell ⟨Y, i, none⟩ u) :=
  ⟨f', h1.put i u e, h2.set_other (by omega) i u, gr_new h3 (by omega) i u, h4.kept (row := some Y) (gr_set (gr_refl _ _) _ _) (fun r e => by injection e with e; omega)⟩
theorem Half.at {b : Option Addr} {n c q Y : Nat} {w wx : World} (h : Half b n c w q Y wx) : ∃ f : Fx, Has wx Y 27 (cs8 f) ∧ Has wx w.heap.size 27 (cs8 z8) ∧ w.grownBy wx (some q) ∧ Cur b n c wx q := h

set_option maxHeartbeats 2000000 in
theorem drawFacts (b : Option Addr) (n c q : Nat) (w : World) (hn : n ≤ 4096) (h : Cur b n c w q) :
    Calls Try.prog 20 #[.pointer (some ⟨q, 0, none⟩)] w (DrawnF b n c w q) := by
  have hq := h.lt
  have a0 : Has (w.alloc (Obj.cells (cs8 z8) 27)) w.heap.size 27 (cs8 z8) := Has.fresh w 27 (cs8 z8)
  have g0 : w.grownBy (w.alloc (Obj.cells (cs8 z8) 27)) (some q) := World.grownBy_alloc _ _ _
  have h0 := h.alloc (Obj.cells (cs8 z8) 27)
  go_enter Try.func20, Try.ntmps20
  go_upto_region 1 with fail
  generalize hW : w.alloc (Obj.cells #[.int .i64 0, .bool false, .int .i64 0, .bool false, .int .i64 0, .bool false, .int .i64 0, .int .i64 0] 27) = w0
  replace a0 : Has w0 w.heap.size 27 (cs8 z8) := hW ▸ a0
  replace g0 : w.grownBy w0 (some q) := hW ▸ g0
  replace h0 : Cur b n c w0 q := hW ▸ h0
  clear hW h
  have nq : some w.heap.size ≠ some q := fun e => by injection e with e; omega
  go_wp2_with fail
  refine (below b n c q _ 260 hn h0 (by omega)).mono ?_
  rintro e w1 ⟨x0, _, rfl, g, h1⟩
  replace a0 := a0.grown g nq
  replace g0 := gr_trans g0 g
  clear g h0
  go_wp2_with fail
  refine (once b n c q _ 4 hn h1 (by omega)).mono ?_
  rintro e w2 ⟨x1, rfl, g, h2⟩
  replace a0 := a0.grown g nq
  replace g0 := gr_trans g0 g
  clear g h1
  go_wp2_with fail
  refine (below b n c q _ 60 hn h2 (by omega)).mono ?_
  rintro e w3 ⟨x2, _, rfl, g, h3⟩
  replace a0 := a0.grown g nq
  replace g0 := gr_trans g0 g
  clear g h2
  go_wp2_with fail
  refine (once b n c q _ 4 hn h3 (by omega)).mono ?_
  rintro e w4 ⟨x3, rfl, g, h4⟩
  replace a0 := a0.grown g nq
  replace g0 := gr_trans g0 g
  clear g h3
  go_wp2_with fail
  refine (once b n c q _ 3 hn h4 (by omega)).mono ?_
  rintro e w5 ⟨x5, rfl, g, h5⟩
  replace a0 := a0.grown g nq
  replace g0 := gr_trans g0 g
  clear g h4
  go_wp2_with fail
  refine (below b n c q _ 3 hn h5 (by omega)).mono ?_
  rintro e w6 ⟨x6, _, rfl, g, h6⟩
  replace a0 := a0.grown g nq
  replace g0 := gr_trans g0 g
  clear g h5
  go_wp2_with fail
  refine (below b n c q _ 90 hn h6 (by omega)).mono ?_
  rintro e w7 ⟨x7, _, rfl, g, h7⟩
  replace a0 := a0.grown g nq
  replace g0 := gr_trans g0 g
  clear g h6
  have hY := a0.lt
  go_upto_region 2 with fail
  have H : Half b n c w q w7.heap.size (w7.alloc (Obj.cells #[.int .i64 x0, .bool !x1, .int .i64 x2, .bool !x3, .int .i64 0, .bool !x5, .int .i64 x6, .int .i64 x7] 27)) :=
    ⟨⟨x0, !x1, x2, !x3, 0, !x5, x6, x7⟩, Has.fresh _ _ _, a0.alloc _, gr_alloc g0 _, h7.alloc _⟩
  clear a0 g0 h7
  generalize w7.alloc (Obj.cells #[.int .i64 x0, .bool !x1, .int .i64 x2, .bool !x3, .int .i64 0, .bool !x5, .int .i64 x6, .int .i64 x7] 27) = wa at *
  generalize w7.heap.size = Y at *
  go_wp2_with fail
  refine (once b n c q _ 3 hn H.at.choose_spec.2.2.2 (by omega)).mono ?_
  rintro e w8 ⟨v, rfl, g, h8⟩
  replace H := H.grown hq hY g h8
  clear g h8
  go_upto_if 23 with fail
  go_cut [] (fun wx => Half b n c w q Y wx)
  case first =>
    cases v
    · go_wp2_with fail
      go_meet
      exact H
    · go_wp2_with fail
      refine (below b n c q _ 8 hn H.at.choose_spec.2.2.2 (by omega)).mono ?_
      rintro e w9 ⟨y, _, rfl, g, h9⟩
      obtain ⟨f, f1, f2, f3, f4⟩ := H.grown hq hY g h9
      obtain ⟨e0, e1, e2, e3, e4, e5, e6, e7⟩ := eight f1
      obtain ⟨d0, d1, d2, d3, d4, d5, d6, d7⟩ := free8 f1
      clear g h9 H
      go_wp2_with fail
      go_meet
      exact Half.put f1 f2 f3 f4 hq hY 4 _ (f' := { f with c := y }) rfl
  case rest =>
    clear H
    have H := hcut
    clear hcut
    go_wp2_with fail
    refine (once b n c q _ 4 hn H.at.choose_spec.2.2.2 (by omega)).mono ?_
    rintro e w8' ⟨v2, rfl, g, h8⟩
    replace H := H.grown hq hY g h8
    clear g h8
    go_upto_if 28 with fail
    go_cut [] (fun wx => Half b n c w q Y wx)
    case first =>
      cases v2
      · go_wp2_with fail
        go_meet
        exact H
      · go_wp2_with fail
        refine (below b n c q _ 3 hn H.at.choose_spec.2.2.2 (by omega)).mono ?_
        rintro e w9 ⟨y, _, rfl, g, h9⟩
        obtain ⟨f, f1, f2, f3, f4⟩ := H.grown hq hY g h9
        obtain ⟨e0, e1, e2, e3, e4, e5, e6, e7⟩ := eight f1
        obtain ⟨d0, d1, d2, d3, d4, d5, d6, d7⟩ := free8 f1
        clear g h9 H
        go_wp2_with fail
        go_meet
        exact Half.put f1 f2 f3 f4 hq hY 2 _ (f' := { f with h := y }) rfl
    case rest =>
      clear H
      have H := hcut
      clear hcut
      go_wp2_with fail
      refine (once b n c q _ 10 hn H.at.choose_spec.2.2.2 (by omega)).mono ?_
      rintro e w8'' ⟨v3, rfl, g, h8⟩
      replace H := H.grown hq hY g h8
      clear g h8
      go_upto_if 33 with fail
      go_cut [] (fun wx => Half b n c w q Y wx)
      case first =>
        cases v3
        · go_wp2_with fail
          go_meet
          exact H
        · go_wp2_with fail
          refine (below b n c q _ 4 hn H.at.choose_spec.2.2.2 (by omega)).mono ?_
          rintro e wb ⟨k, ⟨k0, k1⟩, rfl, g, hb⟩
          replace H := H.grown hq hY g hb
          clear g hb
          obtain rfl | rfl | rfl | rfl : k = 0 ∨ k = 1 ∨ k = 2 ∨ k = 3 := by omega
          · go_wp2_with fail
            refine (cur.size b n c q _ hn H.at.choose_spec.2.2.2).mono ?_
            rintro e w9 ⟨y, _, rfl, g, h9⟩
            obtain ⟨f, f1, f2, f3, f4⟩ := H.grown hq hY g h9
            obtain ⟨e0, e1, e2, e3, e4, e5, e6, e7⟩ := eight f1
            obtain ⟨d0, d1, d2, d3, d4, d5, d6, d7⟩ := free8 f1
            clear g h9 H
            go_wp2_with fail
            go_meet
            exact Half.put f1 f2 f3 f4 hq hY 0 _ (f' := { f with sp := y }) rfl
          · go_wp2_with fail
            refine (from_ b n c q _ _ _ hn H.at.choose_spec.2.2.2 (by omega) (by omega) (by omega) (by omega)).mono ?_
            rintro e w9 ⟨y, _, rfl, g, h9⟩
            obtain ⟨f, f1, f2, f3, f4⟩ := H.grown hq hY g h9
            obtain ⟨e0, e1, e2, e3, e4, e5, e6, e7⟩ := eight f1
            obtain ⟨d0, d1, d2, d3, d4, d5, d6, d7⟩ := free8 f1
            clear g h9 H
            go_wp2_with fail
            go_meet
            exact Half.put f1 f2 f3 f4 hq hY 4 _ (f' := { f with c := y }) rfl
          · go_wp2_with fail
            refine (from_ b n c q _ _ _ hn H.at.choose_spec.2.2.2 (by omega) (by omega) (by omega) (by omega)).mono ?_
            rintro e w9 ⟨y, _, rfl, g, h9⟩
            obtain ⟨f, f1, f2, f3, f4⟩ := H.grown hq hY g h9
            obtain ⟨e0, e1, e2, e3, e4, e5, e6, e7⟩ := eight f1
            obtain ⟨d0, d1, d2, d3, d4, d5, d6, d7⟩ := free8 f1
            clear g h9 H
            go_wp2_with fail
            go_meet
            exact Half.put f1 f2 f3 f4 hq hY 6 _ (f' := { f with wn := y }) rfl
          · obtain ⟨f, f1, f2, f3, f4⟩ := H
            have hf := Has.fresh wb 2 #[Value.int .i64 (-1), .int .i64 1000, .int .i64 1001]
            have hz := f4.lt
            have hz1 := f1.lt
            go_wp2_with fail
            refine (below b n c q _ 3 hn (f4.alloc _) (by omega)).mono ?_
            rintro e w9 ⟨y, ⟨y0, y1⟩, rfl, g, h9⟩
            replace hf := hf.grown g (fun e => by injection e with e; omega)
            obtain ⟨f, f1, f2, f3, f4⟩ := Half.grown (wx := wb.alloc (Obj.cells #[Value.int .i64 (-1), .int .i64 1000, .int .i64 1001] 2)) ⟨f, f1.alloc _, f2.alloc _, gr_alloc f3 _, f4.alloc _⟩ hq hY g h9
            obtain ⟨e0, e1, e2, e3, e4, e5, e6, e7⟩ := eight f1
            obtain ⟨d0, d1, d2, d3, d4, d5, d6, d7⟩ := free8 f1
            obtain ⟨k, rfl⟩ := Int.eq_ofNat_of_zero_le y0
            have hk : k < 3 := by omega
            obtain ⟨P, hP⟩ : ∃ P : Int, #[Value.int .i64 (-1), .int .i64 1000, .int .i64 1001][k]? = some (.int .i64 P) := by
              obtain rfl | rfl | rfl : k = 0 ∨ k = 1 ∨ k = 2 := by omega
              · exact ⟨_, rfl⟩
              · exact ⟨_, rfl⟩
              · exact ⟨_, rfl⟩
            have hc := (hf.cell k).trans hP
            clear g h9 hf hP
            go_wp2_with fail
            go_meet
            exact Half.put f1 f2 f3 f4 hq hY 7 _ (f' := { f with tm := P }) rfl
      case rest =>
        clear H
        obtain ⟨f, f1, f2, f3, f4⟩ := hcut
        obtain ⟨e0, e1, e2, e3, e4, e5, e6, e7⟩ := eight f1
        obtain ⟨e0', e1', e2', e3', e4', e5', e6', e7'⟩ := eight f2
        obtain ⟨d0, d1, d2, d3, d4, d5, d6, d7⟩ := free8 f2
        have hz := f1.lt
        go_wp2_with fail
        obtain ⟨k0, k1, k2, k3, k4, k5, k6, k7⟩ := eight (set8 f2 f)
        exact bodyPost_ret (v := fac f) (by simp [results, Try.results20, go_sem, k0, k1, k2, k3, k4, k5, k6, k7]) rfl ⟨f, rfl, gr_set8 f3 (Nat.le_refl _) f, f4.kept (row := some w.heap.size) (gr_row8 _ _ f) (fun r e => by injection e with e; omega)⟩
end Go.Proofs.Ytkmbfacgigpkmaa.md
