/- The draw of a table: whatever the bytes, a table in new memory, and the cursor goes on. -/
import Derived.Test.YtjnkmmdkpdkalaaTabArg
import Derived.Test.YtjnkmmdkpdkalaaCur2
import Derived.Deep.AppendLies
import Derived.Deep.RegionHeld3
namespace Go.Proofs.Ytjnkmmdkpdkalaa.tab
open Go.ChangeShapes Go.WideShapes Go.ChangeAt Go.RowKit
open Go.Proofs.Ytjnkmmdkpdkalaa.nums Go.Proofs.Ytjnkmmdkpdkalaa.mem Go.Proofs.Ytjnkmmdkpdkalaa.cur
set_option linter.unusedVariables false

/-- All of them are numbers. -/
def Ints (xs : List Value) : Prop := ∀ u ∈ xs, ∃ z : Int, u = .int .i64 z
theorem Ints.nil : Ints [] := fun u hu => by cases hu
theorem Ints.two {xs : List Value} (h : Ints xs) (x y : Int) : Ints (xs ++ [.int .i64 x, .int .i64 y]) := fun u hu => by
  rcases List.mem_append.1 hu with h1 | h1
  · exact h u h1
  · simp at h1
    rcases h1 with rfl | rfl
    · exact ⟨_, rfl⟩
    · exact ⟨_, rfl⟩
theorem Ints.set {xs : List Value} (h : Ints xs) (i : Nat) (x : Int) : Ints (xs.set i (.int .i64 x)) := fun u hu => by
  rcases List.mem_or_eq_of_mem_set hu with h1 | rfl
  · exact h u h1
  · exact ⟨_, rfl⟩

/-- A row of numbers of the call's own reads as a table of its first m points. -/
theorem tab_of_row {w : World} {base k cap g m : Nat} {e : TypeId} {xs : List Value} (h : w.ownsRow base e 2 (.slice (some ⟨g, 0, none⟩) k cap) k xs) (hi : Ints xs) (hm : m ≤ k) : ∃ ps : Pts, ps.length = m ∧ (g < w.heap.size → Tab w g ps) := by
  refine ⟨(List.range m).map fun i => (intOf (xs.getD (i * 2) undef), intOf (xs.getD (i * 2 + 1) undef)), by simp, fun hg => ⟨hg, fun j hj => ?_⟩⟩
  have hj' : j < m := by simpa using hj
  have hl := h.1
  have gd : ((List.range m).map fun i => (intOf (xs.getD (i * 2) undef), intOf (xs.getD (i * 2 + 1) undef))).getD j (0, 0) = (intOf (xs.getD (j * 2) undef), intOf (xs.getD (j * 2 + 1) undef)) := by simp [List.getD, hj']
  have key : ∀ i, i < xs.length → w.cell? ⟨g, i, none⟩ = some (.int .i64 (intOf (xs.getD i undef))) := fun i hi' => by
    have hx : xs[i]? = some xs[i] := List.getElem?_eq_getElem hi'
    have hc := h.cells (g := g) rfl i _ hx
    obtain ⟨z, hz⟩ := hi xs[i] (List.getElem_mem _)
    have ha : (⟨g, 0, none⟩ : Addr).add i = ⟨g, i, none⟩ := by unfold Addr.add; split <;> simp_all
    rw [ha] at hc
    rw [hc]
    simp [List.getD, hx, hz, intOf]
  refine ⟨?_, ?_⟩
  · unfold px; rw [gd]; exact key _ (by omega)
  · unfold py; rw [gd]; exact key _ (by omega)

/-- A draw of a table from the cursor in block q. -/
def DrawnTab (b : Option Addr) (n c : Nat) (w : World) (q : Nat) (e : Ending) (w' : World) : Prop :=
  ∃ (g cap : Nat) (ps : Pts), e = .returned (.slice (some ⟨g, 0, none⟩) ps.length cap) ∧ ps.length ≤ 8 ∧ w.heap.size ≤ g ∧ w.grownBy w' (some q) ∧ Cur b n c w' q ∧ Tab w' g ps

/-- Where the draw's loop stands: k points are laid, m are to come. -/
def Laid (b : Option Addr) (n c : Nat) (w : World) (q T : Nat) (t x y r : Value) (wr : World) : Prop :=
  ∃ (k m g cap : Nat) (xs : List Value) (X Y : Int), (k + m = T ∧ t = .slice (some ⟨g, 0, none⟩) k cap ∧ x = .int .i64 X ∧ y = .int .i64 Y ∧ r = .int .i64 (m : Int)) ∧
    wr.ownsRow w.heap.size 31 2 (.slice (some ⟨g, 0, none⟩) k cap) k xs ∧ Ints xs ∧ (-1000 ≤ X ∧ X ≤ 1000 + 100 * (k : Int) ∧ -1000 ≤ Y ∧ Y ≤ 1000 + 100 * (k : Int)) ∧ w.grownBy wr (some q) ∧ Cur b n c wr q

theorem row_kept {w w' : World} {base k cap g q : Nat} {e : TypeId} {xs : List Value} (h : w.ownsRow base e 2 (.slice (some ⟨g, 0, none⟩) k cap) k xs) (hg : w.grownBy w' (some q)) (hq : q < base) : w'.ownsRow base e 2 (.slice (some ⟨g, 0, none⟩) k cap) k xs := by
  have := (h.lt g rfl).1
  exact h.kept hg (.inr (by simp [Value.ownBlock]; omega))

set_option maxRecDepth 100000 in
set_option maxHeartbeats 4000000 in
theorem draw (b : Option Addr) (n c q : Nat) (w : World) (hn : n ≤ 4096) (h : Cur b n c w q) :
    Calls Try.prog 22 #[.pointer (some ⟨q, 0, none⟩)] w (DrawnTab b n c w q) := by
  obtain ⟨i0, hi0, hz0, hz1, hz2⟩ := info_parts infoPoint
  have hq := h.lt
  go_enter Try.func22, Try.ntmps22
  go_wp2_with fail
  refine (below b n c q _ 90 hn (h.alloc _) (by omega)).mono ?_
  rintro e w1 ⟨x, ⟨x0, x1⟩, rfl, g1, h1⟩
  go_wp2_with fail
  refine (below b n c q _ 90 hn h1 (by omega)).mono ?_
  rintro e w2 ⟨y, ⟨y0, y1⟩, rfl, g2, h2⟩
  go_wp2_with fail
  refine (once b n c q _ 2 hn h2 (by omega)).mono ?_
  rintro e w3 ⟨up, rfl, g3, h3⟩
  go_wp2_with fail
  refine (below b n c q _ 4 hn h3 (by omega)).mono ?_
  rintro e w4 ⟨m, ⟨m0, m1⟩, rfl, g4, h4⟩
  go_wp2_with fail
  obtain ⟨mm, rfl⟩ := Int.eq_ofNat_of_zero_le m0
  have hm4 : mm < 4 := by omega
  have g0 : w.grownBy (w.alloc (.cells #[] 31)) (some q) := World.grownBy_alloc _ _ _
  have g14 := gr_trans g0 (gr_trans g1 (gr_trans g2 (gr_trans g3 g4)))
  have o0 := World.ownsRow_made (base := w.heap.size) (e := 31) (size := 2) w #[] 0 (Nat.le_refl _) (Nat.zero_le _) rfl
  have o4 := row_kept (row_kept (row_kept (row_kept o0 g1 hq) g2 hq) g3 hq) g4 hq
  clear g0 g1 g2 g3 g4 h1 h2 h3 o0
  go_loopw [3, 4, 5, 7] (fun t x y r wr => Laid b n c w q (2 + mm) t x y r wr) (fun _ _ _ r _ => (intOf r).toNat)
  case atStart => exact ⟨0, 2 + mm, _, _, [], _, _, ⟨by omega, rfl, rfl, rfl, by go_num⟩, o4, Ints.nil, ⟨by omega, by omega, by omega, by omega⟩, g14, h4⟩
  case round =>
    clear o4 g14 h4 x0 x1 y0 y1
    obtain ⟨k, m, g, cap, xs, X, Y, ⟨hkm, rfl, rfl, rfl, rfl⟩, hown, hint, ⟨X0, X1, Y0, Y1⟩, hgr, hcur⟩ := hrel
    have hgb := (hown.lt g rfl)
    have hsz := hgr.size
    have HKM := Lib.hid hkm; clear hkm
    have hk5 : k ≤ 5 := by have := HKM.out; omega
    have hm5 : m ≤ 5 := by have := HKM.out; omega
    by_cases hm : 0 < m
    · have hm' : decide (0 < (m : Int)) = true := by simp [hm]
      go_wp2_with (at_builtin; refine wpList_append_lies _ rfl _ _ _ rfl w.heap.size 31 i0 _ 2 16 Try.underlying24 hi0 hz0 hz1 hz2 rfl (by omega) (.slice (some ⟨g, 0, none⟩) k cap) k xs rfl (hown.alloc _) ⟨wr.heap.size, 0, none⟩ 1 1 [.int .i64 X, .int .i64 Y] rfl rfl (World.news_of_block (cs := #[.int .i64 X, .int .i64 Y]) (t := 31) (fr := (0, 0)) (heap_alloc_new wr _)) (by simp [Value.oneCell']) (by omega) (by unfold maxLen; omega) (by omega) (by simp; omega) (wr.heap.size + 1) (by simp) ?_; intro gg cap1 w1 hown1 hgrow hat hlt)
      have hgw : wr.grownBy w1 (some g) := gr_trans (World.grownBy_alloc _ _ _) hgrow
      have hc1 : Cur b n c w1 q := hcur.kept hgw (fun r e => by injection e with e; omega)
      have hr1 : w.grownBy w1 (some q) := gr_past hgr hgw hgb.1
      have hi1 := hint.two X Y
      clear hgrow hat hown hcur hgr hgw hint
      refine (below b n c q _ 60 hn hc1 (by omega)).mono ?_
      rintro e w2 ⟨z1, ⟨za, zb⟩, rfl, g2, h2⟩
      go_wp2_with fail
      refine (below b n c q _ 80 hn h2 (by omega)).mono ?_
      rintro e w3 ⟨z2, ⟨zc, zd⟩, rfl, g3, h3⟩
      have o3 := row_kept (row_kept hown1 g2 hq) g3 hq
      have hr3 := gr_trans hr1 (gr_trans g2 g3)
      clear hown1 hr1 g2 g3 h2 hc1
      cases up
      · go_wp2_with fail
        refine (below b n c q _ 300 hn h3 (by omega)).mono ?_
        rintro e w4 ⟨z3, ⟨ze, zf⟩, rfl, g4, h4⟩
        have o4 := row_kept o3 g4 hq
        have hr4 := gr_trans hr3 g4
        go_wp2_with fail
        go_roundw
        case rel => exact ⟨k + 1, m - 1, _, _, _, _, _, ⟨by have := HKM.out; omega, rfl, rfl, rfl, by congr 1; omega⟩, o4, hi1, ⟨by omega, by omega, by omega, by omega⟩, hr4, h4⟩
        case measure => simp [intOf]; omega
      · go_wp2_with fail
        go_roundw
        case rel => exact ⟨k + 1, m - 1, _, _, _, _, _, ⟨by have := HKM.out; omega, rfl, rfl, rfl, by congr 1; omega⟩, o3, hi1, ⟨by omega, by omega, by omega, by omega⟩, hr3, h3⟩
        case measure => simp [intOf]; omega
    · have hm' : decide (0 < (m : Int)) = false := by simp; omega
      have hk2 : 2 ≤ k := by have := HKM.out; omega
      have hcap : k ≤ cap := by
        rcases hown.2 with ⟨e, _⟩ | ⟨_, _, _, e, _, _, hc, _⟩
        · cases e
        · injection e with _ _ e; omega
      go_wp2_with fail
      refine (once b n c q _ 10 hn hcur (by omega)).mono ?_
      rintro e w2 ⟨v, rfl, g2, h2⟩
      have o2 := row_kept hown g2 hq
      have hr2 := gr_trans hgr g2
      clear hown hgr g2 hcur
      cases v
      · go_wp2_with fail
        refine (once b n c q _ 14 hn h2 (by omega)).mono ?_
        rintro e w3 ⟨v, rfl, g3, h3⟩
        have o3 := row_kept o2 g3 hq
        have hr3 := gr_trans hr2 g3
        clear o2 hr2 g3 h2
        have hl3 := (o3.lt g rfl).2
        cases v
        · go_wp2_with fail
          go_ret
          obtain ⟨ps, rfl, ht⟩ := tab_of_row o3 hint (Nat.le_refl _)
          exact ⟨g, cap, ps, rfl, by omega, hgb.1, hr3, h3, ht hl3⟩
        · go_wp2_with fail
          go_ret
          obtain ⟨ps, hps, ht⟩ := tab_of_row (m := 1) o3 hint (by omega)
          exact ⟨g, cap, ps, by rw [hps]; rfl, by omega, hgb.1, hr3, h3, ht hl3⟩
      · go_wp2_with fail
        refine (cur.size b n c q _ hn h2).mono ?_
        rintro e w3 ⟨z, hz, rfl, g3, h3⟩
        have o3 := row_kept o2 g3 hq
        have hr3 := gr_trans hr2 g3
        clear o2 hr2 g3 h2
        have hl3 := (o3.lt g rfl).2
        obtain ⟨u0, e0⟩ : ∃ u, xs[0]? = some u := ⟨_, List.getElem?_eq_getElem (by have := o3.1; omega)⟩
        have c0 := o3.cells (g := g) rfl 0 _ e0
        have f0 : w3.frozen? ⟨g, 0, none⟩ = false := by
          rcases o3.2 with ⟨e, _⟩ | ⟨_, _, _, e, _, hb, _⟩
          · cases e
          · injection e with e _ _; injection e with e; injection e with e; subst e; simp [World.frozen?, hb]
        obtain ⟨o4, g4⟩ := o3.stored 0 (.int .i64 z)
        have hi4 := hint.set 0 z
        have h4 := h3.kept g4 (fun r e => by injection e with e; omega)
        have hr4 := gr_past hr3 g4 hgb.1
        simp [Addr.add] at c0
        clear e0
        go_wp2_with fail
        refine (once b n c q _ 14 hn h4 (by omega)).mono ?_
        rintro e w5 ⟨v, rfl, g5, h5⟩
        have o5 := row_kept o4 g5 hq
        have hr5 := gr_trans hr4 g5
        have hl5 := (o5.lt g rfl).2
        cases v
        · go_wp2_with fail
          go_ret
          obtain ⟨ps, rfl, ht⟩ := tab_of_row o5 hi4 (Nat.le_refl _)
          exact ⟨g, cap, ps, rfl, by omega, hgb.1, hr5, h5, ht hl5⟩
        · go_wp2_with fail
          go_ret
          obtain ⟨ps, hps, ht⟩ := tab_of_row (m := 1) o5 hi4 (by omega)
          exact ⟨g, cap, ps, by rw [hps]; rfl, by omega, hgb.1, hr5, h5, ht hl5⟩

/-- A draw of a table and of a number. -/
def DrawnAt (w : World) (e : Ending) (w' : World) : Prop :=
  ∃ (g cap : Nat) (ps : Pts) (x : Int), e = .returned (.tuple #[.slice (some ⟨g, 0, none⟩) ps.length cap, .int .i64 x]) ∧ ps.length ≤ 8 ∧ (-100 ≤ x ∧ x ≤ 300) ∧ w.grownBy w' none ∧ Tab w' g ps

theorem drawAt (b : Option Addr) (n c : Nat) (w : World) (hn : n ≤ 4096) (hb : Bytes w w.heap.size b n) : Calls Try.prog 9 #[.slice b n c] w (DrawnAt w) := by
  go_enter Try.func9, Try.ntmps9
  go_wp2_with fail
  refine (new b n c _ hn hb).mono ?_
  rintro e w1 ⟨q, rfl, hq, g1, h1⟩
  go_wp2_with fail
  refine (draw b n c q _ hn h1).mono ?_
  rintro e w2 ⟨g, cap, ps, rfl, hl, hgb, g2, h2, t2⟩
  have hq1 := h1.lt
  go_wp2_with fail
  refine (below b n c q _ 400 hn h2 (by omega)).mono ?_
  rintro e w3 ⟨x, ⟨x0, x1⟩, rfl, g3, h3⟩
  go_wp2_with fail
  go_ret2
  exact ⟨g, cap, ps, _, rfl, hl, ⟨by omega, by omega⟩, gr_past (gr_past g1 g2 hq) g3 hq, t2.grown g3 (fun e => by injection e with e; omega)⟩
end Go.Proofs.Ytjnkmmdkpdkalaa.tab
