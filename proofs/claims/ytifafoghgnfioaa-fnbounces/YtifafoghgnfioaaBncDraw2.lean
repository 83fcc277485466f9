/- The draw of a bounce, of signs and of two numbers. -/
import Derived.Test.YtifafoghgnfioaaBncDraw
namespace Go.Proofs.Ytifafoghgnfioaa.bnc
open Go.ChangeShapes Go.WideShapes Go.ChangeAt Go.RowKit
open Go.Proofs.Ytifafoghgnfioaa.nums Go.Proofs.Ytifafoghgnfioaa.mem Go.Proofs.Ytifafoghgnfioaa.cur
open Go.Proofs.Ytifafoghgnfioaa.tab (Ret quiet_w wpList_make_has)
set_option linter.unusedVariables false

/-- All of them are signs. -/
def Bools (xs : List Value) : Prop := ∀ u ∈ xs, ∃ z : Bool, u = .bool z
theorem Bools.nil : Bools [] := fun u hu => by cases hu
theorem Bools.one {xs : List Value} (h : Bools xs) (x : Bool) : Bools (xs ++ [.bool x]) := fun u hu => by
  rcases List.mem_append.1 hu with h1 | h1
  · exact h u h1
  · simp at h1
    exact ⟨_, h1⟩
def boolOf : Value → Bool
  | .bool b => b
  | _ => false
/-- A row of signs of the call's own. -/
theorem bs_of_row {w : World} {base k cap g : Nat} {e : TypeId} {xs : List Value} (h : w.ownsRow base e 1 (.slice (some ⟨g, 0, none⟩) k cap) k xs) (hi : Bools xs) : ∃ l : List Bool, l.length = k ∧ Bs w g l := by
  have hl := h.1
  rw [Nat.mul_one] at hl
  refine ⟨xs.map boolOf, by simpa using hl, (h.lt g rfl).2, fun j hj => ?_⟩
  have hj' : j < xs.length := by simpa using hj
  have hx : xs[j]? = some xs[j] := List.getElem?_eq_getElem hj'
  have hc := h.cellAt j (by omega)
  obtain ⟨z, hz⟩ := hi xs[j] (List.getElem_mem _)
  rw [hc, hx, hz]
  simp [List.getD, hj', hz, boolOf]
theorem row_kept {w w' : World} {base k cap g q : Nat} {e : TypeId} {xs : List Value} (h : w.ownsRow base e 1 (.slice (some ⟨g, 0, none⟩) k cap) k xs) (hg : w.grownBy w' (some q)) (hq : q < base) : w'.ownsRow base e 1 (.slice (some ⟨g, 0, none⟩) k cap) k xs := by
  have := (h.lt g rfl).1
  exact h.kept hg (.inr (by simp [Value.ownBlock]; omega))
theorem bs_made (w : World) (n : Nat) (t : TypeId) : Bs (w.alloc (.cells (madeCells #[.bool false] n) t)) w.heap.size (List.replicate n false) := by
  have h := Has.fresh w t (madeCells #[.bool false] n)
  refine ⟨h.lt, fun k hk => ?_⟩
  have hk' : k < n := by simpa using hk
  rw [h.cell k]
  simp [madeCells, List.getD, hk', Nat.mod_one]

/-- The draw of a bounce, signs, two numbers. -/
def DrawnFA (w : World) (e : Ending) (w' : World) : Prop :=
  ∃ (N : Int) (on : Bool) (g cap : Nat) (l : List Bool) (u d : Int), e = .returned (.tuple #[.agg #[.int .i64 N, .bool on], .slice (some ⟨g, 0, none⟩) l.length cap, .int .i64 u, .int .i64 d]) ∧ (-1 ≤ N ∧ N ≤ 101) ∧ (0 ≤ u ∧ u ≤ 101) ∧ (0 ≤ d ∧ d ≤ 101) ∧ l.length ≤ 201 ∧ w.grownBy w' none ∧ Bs w' g l

/-- Where the loop stands: k signs are laid, m are to come. -/
def Laid (b : Option Addr) (n c : Nat) (w : World) (q T : Nat) (N : Int) (on : Bool) (M : Nat) (t r : Value) (wr : World) : Prop :=
  ∃ (k m g cap : Nat) (xs : List Value), (k + m = M ∧ t = .slice (some ⟨g, 0, none⟩) k cap ∧ r = .int .i64 (m : Int)) ∧
    wr.ownsRow (T + 1) 4 1 (.slice (some ⟨g, 0, none⟩) k cap) k xs ∧ Bools xs ∧ Has wr w.heap.size 25 #[.int .i64 0, .bool false] ∧ Has wr T 25 #[.int .i64 N, .bool on] ∧ w.grownBy wr none ∧ Cur b n c wr q

set_option maxRecDepth 100000 in
set_option maxHeartbeats 4000000 in
theorem drawFeltAll (b : Option Addr) (n c : Nat) (w : World) (hn : n ≤ 4096) (hb : Bytes w w.heap.size b n) :
    Calls Try.prog 10 #[.slice b n c] w (DrawnFA w) := by
  obtain ⟨i0, hi0, hz0, hz1, hz2⟩ := info_parts infoBool
  have a0 := Has.fresh w 25 #[.int .i64 0, .bool false]
  have g0 : w.grownBy (w.alloc (Obj.cells #[.int .i64 0, .bool false] 25)) none := World.grownBy_alloc _ _ _
  have hb1 : Bytes (w.alloc (Obj.cells #[.int .i64 0, .bool false] 25)) (w.alloc (Obj.cells #[.int .i64 0, .bool false] 25)).heap.size b n := (hb.below (Nat.le_refl _) (below_of_none g0)).more (by simp)
  go_enter Try.func10, Try.ntmps10
  go_wp2_with fail
  refine (new b n c _ hn hb1).mono ?_
  rintro e w1 ⟨q, rfl, hq, g1, h1⟩
  replace a0 := a0.grown g1 (by simp)
  replace g0 := gr_trans g0 g1
  have hq0 : w.heap.size < q := by have : w.heap.size + 1 ≤ q := (by simpa using hq); omega
  clear hb hb1 hq g1
  go_wp2_with fail
  refine (draw b n c q _ hn h1).mono ?_
  rintro e w2 ⟨N, on, hN, rfl, g2, h2⟩
  replace a0 := (a0.grown g2 (fun e => by injection e with e; omega)).alloc (Obj.cells #[.int .i64 N, .bool on] 25)
  have a1 := (Has.fresh w2 25 #[.int .i64 N, .bool on])
  replace g0 := gr_alloc (gr_past g0 g2 (Nat.le_of_lt hq0)) (Obj.cells #[.int .i64 N, .bool on] 25)
  have hz := h2.lt
  have hne : w2.heap.size ≠ w.heap.size := by omega
  clear g2 h1
  have o0 := World.ownsRow_made (base := w2.heap.size + 1) (e := 4) (size := 1) (w2.alloc (Obj.cells #[.int .i64 N, .bool on] 25)) #[] 0 (by simp) (Nat.zero_le _) rfl
  go_wp2_with fail
  refine (below b n c q _ 12 hn ((h2.alloc _).alloc _) (by omega)).mono ?_
  rintro e w3 ⟨m, ⟨m0, m1⟩, rfl, g3, h3⟩
  replace a0 := (a0.alloc _).grown g3 (fun e => by injection e with e; omega)
  replace a1 := (a1.alloc _).grown g3 (fun e => by injection e with e; omega)
  replace g0 := gr_past (gr_alloc g0 _) g3 (Nat.le_of_lt hq0)
  replace o0 := row_kept o0 g3 (by omega)
  clear g3 h2
  obtain ⟨mm, rfl⟩ := Int.eq_ofNat_of_zero_le m0
  have hm12 : mm < 12 := by omega
  go_wp2_with fail
  go_loopw [8, 9] (fun t r wr => Laid b n c w q w2.heap.size N on mm t r wr) (fun _ r _ => (intOf r).toNat)
  case atStart => exact ⟨0, mm, _, _, [], ⟨by omega, by simp, rfl⟩, o0, Bools.nil, a0, a1, g0, h3⟩
  case round =>
    clear o0 a0 a1 g0 h3 m0 m1
    obtain ⟨k, m, g, cap, xs, ⟨hkm, rfl, rfl⟩, hown, hbs, a0, a1, g0, hcur⟩ := hrel
    have hgb := (hown.lt g rfl)
    have HKM := Lib.hid hkm; clear hkm
    have hk12 : k ≤ 12 := by have := HKM.out; omega
    have hm13 : m ≤ 12 := by have := HKM.out; omega
    by_cases hm : 0 < m
    · have hm' : decide (0 < (m : Int)) = true := by simp [hm]
      go_wp2_with fail
      refine (once b n c q _ 3 hn hcur (by omega)).mono ?_
      rintro e w4 ⟨v, rfl, g4, h4⟩
      replace a0 := a0.grown g4 (fun e => by injection e with e; omega)
      replace a1 := a1.grown g4 (fun e => by injection e with e; omega)
      replace hown := row_kept hown g4 (by omega)
      replace g0 := gr_past g0 g4 (Nat.le_of_lt hq0)
      have hsz := g4.size
      clear g4 hcur
      go_wp2_with (at_builtin; refine wpList_append_lies _ rfl _ _ _ rfl (w2.heap.size + 1) 4 i0 _ 1 1 Try.underlying29 hi0 hz0 hz1 hz2 rfl (by omega) (.slice (some ⟨g, 0, none⟩) k cap) k xs rfl (hown.alloc _) ⟨w4.heap.size, 0, none⟩ 1 1 [.bool (!v)] rfl rfl (World.news_of_block (cs := #[.bool (!v)]) (t := 4) (fr := (0, 0)) (heap_alloc_new w4 _)) (by simp [Value.oneCell']) (by omega) (by unfold maxLen; omega) (by omega) (by simp; omega) (w4.heap.size + 1) (by simp) ?_; intro gg cap1 w5 hown1 hgrow hat hlt)
      have hgw : w4.grownBy w5 (some g) := gr_trans (World.grownBy_alloc _ _ _) hgrow
      replace a0 := a0.grown hgw (fun e => by injection e with e; omega)
      replace a1 := a1.grown hgw (fun e => by injection e with e; omega)
      replace g0 := gr_past g0 hgw (by omega)
      replace h4 := h4.kept hgw (fun r e => by injection e with e; omega)
      clear hgrow hat hgw hown
      go_roundw
      case rel => exact ⟨k + 1, m - 1, _, _, _, ⟨by have := HKM.out; omega, rfl, by congr 1; omega⟩, hown1, hbs.one (!v), a0, a1, g0, h4⟩
      case measure => simp [intOf]; omega
    · have hm' : decide (0 < (m : Int)) = false := by simp; omega
      go_wp2_with fail
      refine (once b n c q _ 60 hn hcur (by omega)).mono ?_
      rintro e w4 ⟨v, rfl, g4, h4⟩
      replace a0 := a0.grown g4 (fun e => by injection e with e; omega)
      replace a1 := a1.grown g4 (fun e => by injection e with e; omega)
      replace hown := row_kept hown g4 (by omega)
      replace g0 := gr_past g0 g4 (Nat.le_of_lt hq0)
      clear g4 hcur
      cases v
      · obtain ⟨l, hl, hB⟩ := bs_of_row hown hbs
        clear hown hbs
        go_wp2_with fail
        refine (drawUp b n c q _ hn h4).mono ?_
        rintro e w7 ⟨u, hu, rfl, g7, h7⟩
        replace a0 := a0.grown g7 (fun e => by injection e with e; omega)
        replace a1 := a1.grown g7 (fun e => by injection e with e; omega)
        replace hB := hB.grown g7 (fun e => by injection e with e; omega)
        replace g0 := gr_past g0 g7 (Nat.le_of_lt hq0)
        clear g7 h4
        obtain ⟨c0, c1, _, _⟩ := two a1
        go_wp2_with fail
        have h7d : Cur b n c w7.drew q := h7
        go_region_held3 (fun W => W.cell? ⟨w2.heap.size, 0, none⟩ = some (.int .i64 N) ∧ W.cell? ⟨w2.heap.size, 1, none⟩ = some (.bool on)) (first | go_keep | exact ⟨(two ((a2.set_other hne _ _).set_other hne _ _)).1, (two ((a2.set_other hne _ _).set_other hne _ _)).2.1⟩)
          (first | (go_at_call 23; refine (drawUp b n c q _ hn h7d).mono ?_; rintro e w8 ⟨d, hd, rfl, g8, h8⟩; have a2 := (a1.drewN 1).grown g8 (fun e => by injection e with e; omega); obtain ⟨cc0, cc1, _, _⟩ := two a2; have a3 := (a0.drewN 1).grown g8 (fun e => by injection e with e; omega); obtain ⟨k0, k1, f0, f1⟩ := two a3))
        go_wp2_with fail
        obtain ⟨r0, r1, _, _⟩ := two (set2 a3 (.int .i64 N) (.bool on))
        have hB8 := hB.grown (gr_trans (gr_drewN (gr_refl w7 (some q)) 1) g8) (fun e => by injection e with e; omega)
        have hgs : w.heap.size < g := by omega
        exact bodyPost_ret (v := .tuple #[.agg #[.int .i64 N, .bool on], .slice (some ⟨g, 0, none⟩) k cap, .int .i64 u, .int .i64 d]) (by simp [results, Try.results10, go_sem, r0, r1]) rfl ⟨N, on, g, cap, l, u, d, by rw [hl], hN, hu, hd, by omega, gr_new (gr_new (gr_past (gr_drewN g0 1) g8 (Nat.le_of_lt hq0)) (Nat.le_refl _) _ _) (Nat.le_refl _) _ _, hB8.grown (row := some w.heap.size) (gr_set (gr_set (gr_refl _ _) _ _) _ _) (fun e => by injection e with e; omega)⟩
      · go_wp2_with fail
        refine (below b n c q _ 2 hn h4 (by omega)).mono ?_
        rintro e w5 ⟨y, ⟨y0, y1⟩, rfl, g5, h5⟩
        obtain ⟨yy, rfl⟩ := Int.eq_ofNat_of_zero_le y0
        have hs5 := g5.size
        have hg5 := hgb.1
        have hB := bs_made w5 (200 + yy) 4
        have hBr : (List.replicate (200 + yy) false).length = 200 + yy := by simp
        have hsw := (hown.lt g rfl).2
        replace a0 := (a0.grown g5 (fun e => by injection e with e; omega)).alloc (Obj.cells (madeCells #[.bool false] (200 + yy)) 4)
        replace a1 := (a1.grown g5 (fun e => by injection e with e; omega)).alloc (Obj.cells (madeCells #[.bool false] (200 + yy)) 4)
        replace g0 := gr_alloc (gr_past g0 g5 (Nat.le_of_lt hq0)) (Obj.cells (madeCells #[.bool false] (200 + yy)) 4)
        replace h5 := h5.alloc (Obj.cells (madeCells #[.bool false] (200 + yy)) 4)
        clear g5 h4 hown hbs
        generalize hL : List.replicate (200 + yy) false = l at hB hBr
        clear hL
        go_wp2_with (at_make; refine wpList_make_has _ rfl _ _ _ rfl 4 i0 _ 1 Try.underlying29 hi0 hz0 hz1 .i64 .i64 _ _ (200 + yy) rfl rfl (by go_num) (by go_num) (by rw [hz2]; omega) (by unfold maxLen; omega) ?_)
        refine (drawUp b n c q _ hn h5).mono ?_
        rintro e w7 ⟨u, hu, rfl, g7, h7⟩
        replace a0 := a0.grown g7 (fun e => by injection e with e; omega)
        replace a1 := a1.grown g7 (fun e => by injection e with e; omega)
        replace hB := hB.grown g7 (fun e => by injection e with e; omega)
        replace g0 := gr_past g0 g7 (Nat.le_of_lt hq0)
        clear g7 h5
        obtain ⟨c0, c1, _, _⟩ := two a1
        go_wp2_with fail
        have h7d : Cur b n c w7.drew q := h7
        go_region_held3 (fun W => W.cell? ⟨w2.heap.size, 0, none⟩ = some (.int .i64 N) ∧ W.cell? ⟨w2.heap.size, 1, none⟩ = some (.bool on)) (first | go_keep | exact ⟨(two ((a2.set_other hne _ _).set_other hne _ _)).1, (two ((a2.set_other hne _ _).set_other hne _ _)).2.1⟩)
          (first | (go_at_call 23; refine (drawUp b n c q _ hn h7d).mono ?_; rintro e w8 ⟨d, hd, rfl, g8, h8⟩; have a2 := (a1.drewN 1).grown g8 (fun e => by injection e with e; omega); obtain ⟨cc0, cc1, _, _⟩ := two a2; have a3 := (a0.drewN 1).grown g8 (fun e => by injection e with e; omega); obtain ⟨k0, k1, f0, f1⟩ := two a3))
        go_wp2_with fail
        obtain ⟨r0, r1, _, _⟩ := two (set2 a3 (.int .i64 N) (.bool on))
        have hB8 := hB.grown (gr_trans (gr_drewN (gr_refl w7 (some q)) 1) g8) (fun e => by injection e with e; omega)
        have hgs : w.heap.size < w5.heap.size := by omega
        exact bodyPost_ret (v := .tuple #[.agg #[.int .i64 N, .bool on], .slice (some ⟨w5.heap.size, 0, none⟩) (200 + yy) (200 + yy), .int .i64 u, .int .i64 d]) (by simp [results, Try.results10, go_sem, r0, r1]) rfl ⟨N, on, w5.heap.size, (200 + yy), l, u, d, by rw [hBr], hN, hu, hd, by omega, gr_new (gr_new (gr_past (gr_drewN g0 1) g8 (Nat.le_of_lt hq0)) (Nat.le_refl _) _ _) (Nat.le_refl _) _ _, hB8.grown (row := some w.heap.size) (gr_set (gr_set (gr_refl _ _) _ _) _ _) (fun e => by injection e with e; omega)⟩
end Go.Proofs.Ytifafoghgnfioaa.bnc
