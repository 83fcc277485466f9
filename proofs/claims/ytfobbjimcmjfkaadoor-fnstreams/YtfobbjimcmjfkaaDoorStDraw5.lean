/- What is drawn for the law of streams: some text. -/
import Derived.Test.YtfobbjimcmjfkaaDoorFrBend2
namespace Go.Proofs.YtfobbjimcmjfkaaDoor.frm
open Go.ChangeShapes Go.WideShapes Go.ChangeAt Go.RowKit
open Go.Proofs.YtfobbjimcmjfkaaDoor.nums Go.Proofs.YtfobbjimcmjfkaaDoor.mem Go.Proofs.YtfobbjimcmjfkaaDoor.txt Go.Proofs.YtfobbjimcmjfkaaDoor.fix Go.Proofs.YtfobbjimcmjfkaaDoor.cur
open Go.Proofs.YtfobbjimcmjfkaaDoor.tab (Ret quiet_w wpList_make_has)
set_option linter.unusedVariables false

/-- The three small pieces. -/
def nz (k : Nat) : List UInt8 := [[110, 111, 105, 115, 101, 10], [10], [83, 32, 49]].getD k []
theorem nz_len (k : Nat) (hk : k < 3) : (nz k).length ≤ 6 := by
  obtain rfl | rfl | rfl : k = 0 ∨ k = 1 ∨ k = 2 := by omega
  all_goals decide
theorem nz_cell (k : Nat) (hk : k < 3) : #[Value.string ⟨#[110, 111, 105, 115, 101, 10]⟩, .string ⟨#[10]⟩, .string ⟨#[83, 32, 49]⟩][k]? = some (str (nz k)) := by
  obtain rfl | rfl | rfl : k = 0 ∨ k = 1 ∨ k = 2 := by omega
  all_goals rfl

set_option maxRecDepth 100000 in
set_option maxHeartbeats 4000000 in
theorem draw5 (b : Option Addr) (n c q : Nat) (w : World) (hn : n ≤ 4096) (h : Cur b n c w q) : Calls Tryd.prog 30 #[.pointer (some ⟨q, 0, none⟩)] w (Bent b n c q 9000 w) := by
  have hq := h.lt
  go_enter Tryd.func30, Tryd.ntmps30
  go_wp2_with fail
  refine (below b n c q _ 5 hn h (by omega)).mono ?_
  rintro e w1 ⟨x, ⟨x0, x1⟩, rfl, g1, h1⟩
  obtain ⟨M, rfl⟩ := Int.eq_ofNat_of_zero_le x0
  go_wp2_with fail
  go_loopw [3, 4] (fun s i wr => ∃ (m : Nat) (l : List UInt8), i = .int .i64 m ∧ s = str l ∧ m ≤ 4 ∧ l.length + 2100 * m ≤ 8400 ∧ w.grownBy wr (some q) ∧ Cur b n c wr q) (fun _ i _ => (intOf i).toNat)
  case atStart => exact ⟨M, [], rfl, rfl, by omega, by simp; omega, g1, h1⟩
  case round =>
    clear g1 h1
    obtain ⟨m, l, rfl, rfl, hm4, hlm, g0, h1⟩ := hrel
    by_cases hm : 0 < m
    · have hm' : decide (0 < (m : Int)) = true := by simp; omega
      have hm0 : (1 : Int) ≤ m := by omega
      go_wp2_with fail
      refine (drawF b n c q _ hn h1).mono ?_
      rintro e w2 ⟨k, sq, vs, a, cap, rfl, hI, _, hl6, g2, h2⟩
      replace g0 := gr_trans g0 g2
      go_wp2_with fail
      refine (specShow k sq a cap vs _ hI.ints (by unfold maxLen; omega)).mono ?_
      rintro e w3 ⟨rfl, g3⟩
      replace g0 := gr_trans g0 (gr_none g3 _)
      have h3 := h2.kept g3 (fun r e => by cases e)
      have hl := showF_small k sq vs
      clear g3 h2 hI g2
      generalize showF k sq vs = T at *
      go_wp2_with fail
      refine (once b n c q _ 5 hn h3 (by omega)).mono ?_
      rintro e w4 ⟨v, rfl, g4, h4⟩
      replace g0 := gr_trans g0 g4
      clear g4 h3
      cases v
      · have hl2 : T.length ≤ 2000 := by omega
        have h5 := h4
        clear hl h4
        have happ := str_app l T
        have hLl : (l ++ T).length + 2100 * (m - 1) + 100 ≤ 8400 := by simp; omega
        go_wp2_with fail
        refine (once b n c q _ 8 hn h5 (by omega)).mono ?_
        rintro e w6 ⟨v2, rfl, g6, h6⟩
        replace g0 := gr_trans g0 g6
        clear g6 h5 happ
        generalize l ++ T = L2 at *
        cases v2
        · go_wp2_with fail
          go_roundw
          case rel => exact ⟨m - 1, L2, by congr 1; omega, rfl, by omega, by omega, g0, h6⟩
          case measure => simp [intOf]; omega
        · have HT := Has.fresh w6 9 #[Value.string ⟨#[110, 111, 105, 115, 101, 10]⟩, .string ⟨#[10]⟩, .string ⟨#[83, 32, 49]⟩]
          replace g0 := gr_alloc g0 (Obj.cells #[Value.string ⟨#[110, 111, 105, 115, 101, 10]⟩, .string ⟨#[10]⟩, .string ⟨#[83, 32, 49]⟩] 9)
          have hq6 := h6.lt
          replace h6 := h6.alloc (Obj.cells #[Value.string ⟨#[110, 111, 105, 115, 101, 10]⟩, .string ⟨#[10]⟩, .string ⟨#[83, 32, 49]⟩] 9)
          go_wp2_with fail
          refine (below b n c q _ 3 hn h6 (by omega)).mono ?_
          rintro e w7 ⟨y, ⟨y0, y1⟩, rfl, g7, h7⟩
          obtain ⟨j, rfl⟩ := Int.eq_ofNat_of_zero_le y0
          have hj : j < 3 := by omega
          have cj := ((HT.grown g7 (fun e => by injection e with e; omega)).cell j).trans (nz_cell j hj)
          have hz := nz_len j hj
          replace g0 := gr_trans g0 g7
          clear g7 h6 HT y0
          generalize nz j = Z at *
          have happ2 := str_app L2 Z
          have hL3 : (L2 ++ Z).length ≤ L2.length + 6 := by simp; omega
          go_wp2_with fail
          go_roundw
          case rel => exact ⟨m - 1, L2 ++ Z, by congr 1; omega, rfl, by omega, by omega, g0, h7⟩
          case measure => simp [intOf]; omega
      · go_wp2_with fail
        refine (bend b n c q T _ _ hn h4 hl (by decide) (by decide)).mono ?_
        rintro e w5 ⟨T2, rfl, hl2, g5, h5⟩
        replace g0 := gr_trans g0 g5
        clear g5 hl h4
        generalize T = Told at *
        generalize T2 = T at *
        have happ := str_app l T
        have hLl : (l ++ T).length + 2100 * (m - 1) + 100 ≤ 8400 := by simp; omega
        go_wp2_with fail
        refine (once b n c q _ 8 hn h5 (by omega)).mono ?_
        rintro e w6 ⟨v2, rfl, g6, h6⟩
        replace g0 := gr_trans g0 g6
        clear g6 h5 happ
        generalize l ++ T = L2 at *
        cases v2
        · go_wp2_with fail
          go_roundw
          case rel => exact ⟨m - 1, L2, by congr 1; omega, rfl, by omega, by omega, g0, h6⟩
          case measure => simp [intOf]; omega
        · have HT := Has.fresh w6 9 #[Value.string ⟨#[110, 111, 105, 115, 101, 10]⟩, .string ⟨#[10]⟩, .string ⟨#[83, 32, 49]⟩]
          replace g0 := gr_alloc g0 (Obj.cells #[Value.string ⟨#[110, 111, 105, 115, 101, 10]⟩, .string ⟨#[10]⟩, .string ⟨#[83, 32, 49]⟩] 9)
          have hq6 := h6.lt
          replace h6 := h6.alloc (Obj.cells #[Value.string ⟨#[110, 111, 105, 115, 101, 10]⟩, .string ⟨#[10]⟩, .string ⟨#[83, 32, 49]⟩] 9)
          go_wp2_with fail
          refine (below b n c q _ 3 hn h6 (by omega)).mono ?_
          rintro e w7 ⟨y, ⟨y0, y1⟩, rfl, g7, h7⟩
          obtain ⟨j, rfl⟩ := Int.eq_ofNat_of_zero_le y0
          have hj : j < 3 := by omega
          have cj := ((HT.grown g7 (fun e => by injection e with e; omega)).cell j).trans (nz_cell j hj)
          have hz := nz_len j hj
          replace g0 := gr_trans g0 g7
          clear g7 h6 HT y0
          generalize nz j = Z at *
          have happ2 := str_app L2 Z
          have hL3 : (L2 ++ Z).length ≤ L2.length + 6 := by simp; omega
          go_wp2_with fail
          go_roundw
          case rel => exact ⟨m - 1, L2 ++ Z, by congr 1; omega, rfl, by omega, by omega, g0, h7⟩
          case measure => simp [intOf]; omega
    · obtain rfl : m = 0 := by omega
      have hm' : decide (0 < ((0 : Nat) : Int)) = false := by simp
      go_wp2_with fail
      go_ret
      exact ⟨l, rfl, by omega, g0, h1⟩

set_option maxRecDepth 100000 in
set_option maxHeartbeats 4000000 in
theorem drawStream (b : Option Addr) (n c : Nat) (w : World) (hn : n ≤ 4096) (hb : Bytes w w.heap.size b n) : Calls Tryd.prog 8 #[.slice b n c] w (NewT 10000 w) := by
  obtain ⟨i0, hi, hz0, hz1, hz2⟩ := info_parts info8
  go_enter Tryd.func8, Tryd.ntmps8
  go_wp2_with fail
  refine (new b n c _ hn hb).mono ?_
  rintro e w1 ⟨q, rfl, hq, g1, h1⟩
  go_wp2_with fail
  refine (draw5 b n c q _ hn h1).mono ?_
  rintro e w2 ⟨l, rfl, hl0, g2, h2⟩
  have g0 := gr_past g1 g2 hq
  clear g1 g2 h1
  go_wp2_with fail
  refine (once b n c q _ 40 hn h2 (by omega)).mono ?_
  rintro e w3 ⟨v, rfl, g3, h3⟩
  replace g0 := gr_past g0 g3 hq
  clear g3 h2
  cases v
  · have hl : l.length ≤ 9000 := hl0
    have h4 := h3
    clear h3 hl0
    go_wp2_with fail
    refine (once b n c q _ 20 hn h4 (by omega)).mono ?_
    rintro e w5 ⟨v2, rfl, g5, h5⟩
    replace g0 := gr_past g0 g5 hq
    clear g5 h4
    cases v2
    · go_wp2_with fail
      go_ret
      exact ⟨l, rfl, by omega, g0⟩
    · go_wp2_with fail
      refine (below b n c q _ 2 hn h5 (by omega)).mono ?_
      rintro e w6 ⟨y, ⟨y0, y1⟩, rfl, g6, h6⟩
      replace g0 := gr_past g0 g6 hq
      have hy : y = 0 ∨ y = 1 := by omega
      clear y0 y1 g6 h5
      rcases hy with rfl | rfl
      · go_wp2_with (at_make; refine wpList_make_has _ rfl _ _ _ rfl 5 i0 _ 1 Tryd.underlying22 hi hz0 hz1 .i64 .i64 _ _ 60 rfl rfl (by omega) (by omega) (by rw [hz2]; omega) (by unfold maxLen; omega) ?_)
        obtain ⟨T2, hT2, cc2⟩ := conv_some w6 60
        have happ := str_app l T2
        have hLL : (l ++ T2).length ≤ 10000 := by simp; omega
        go_wp2_with fail
        rw [cc2]
        go_wp2_with fail
        go_ret
        exact ⟨l ++ T2, by simp, hLL, gr_alloc g0 _⟩
      · go_wp2_with (at_make; refine wpList_make_has _ rfl _ _ _ rfl 5 i0 _ 1 Tryd.underlying22 hi hz0 hz1 .i64 .i64 _ _ 61 rfl rfl (by omega) (by omega) (by rw [hz2]; omega) (by unfold maxLen; omega) ?_)
        obtain ⟨T2, hT2, cc2⟩ := conv_some w6 61
        have happ := str_app l T2
        have hLL : (l ++ T2).length ≤ 10000 := by simp; omega
        go_wp2_with fail
        rw [cc2]
        go_wp2_with fail
        go_ret
        exact ⟨l ++ T2, by simp, hLL, gr_alloc g0 _⟩
  · go_wp2_with fail
    refine (below b n c q _ 2 hn h3 (by omega)).mono ?_
    rintro e w4 ⟨x, ⟨x0, x1⟩, rfl, g4, h4⟩
    replace g0 := gr_past g0 g4 hq
    have hx : x = 0 ∨ x = 1 := by omega
    clear x0 x1 g4 h3
    rcases hx with rfl | rfl
    · go_wp2_with (at_make; refine wpList_make_has _ rfl _ _ _ rfl 5 i0 _ 1 Tryd.underlying22 hi hz0 hz1 .i64 .i64 _ _ 4000 rfl rfl (by omega) (by omega) (by rw [hz2]; omega) (by unfold maxLen; omega) ?_)
      obtain ⟨T, hT, cc⟩ := conv_some w4 4000
      replace g0 := gr_alloc g0 (.cells (madeCells #[.int .u8 0] 4000) 5)
      replace h4 := h4.alloc (.cells (madeCells #[.int .u8 0] 4000) 5)
      have hl : T.length ≤ 9000 := by omega
      go_wp2_with fail
      rw [cc]
      clear cc hT hl0
      generalize w4.alloc (.cells (madeCells #[.int .u8 0] 4000) 5) = w4b at *
      generalize l = l0 at *
      generalize T = l at *
      go_wp2_with fail
      refine (once b n c q _ 20 hn h4 (by omega)).mono ?_
      rintro e w5 ⟨v2, rfl, g5, h5⟩
      replace g0 := gr_past g0 g5 hq
      clear g5 h4
      cases v2
      · go_wp2_with fail
        go_ret
        exact ⟨l, rfl, by omega, g0⟩
      · go_wp2_with fail
        refine (below b n c q _ 2 hn h5 (by omega)).mono ?_
        rintro e w6 ⟨y, ⟨y0, y1⟩, rfl, g6, h6⟩
        replace g0 := gr_past g0 g6 hq
        have hy : y = 0 ∨ y = 1 := by omega
        clear y0 y1 g6 h5
        rcases hy with rfl | rfl
        · go_wp2_with (at_make; refine wpList_make_has _ rfl _ _ _ rfl 5 i0 _ 1 Tryd.underlying22 hi hz0 hz1 .i64 .i64 _ _ 60 rfl rfl (by omega) (by omega) (by rw [hz2]; omega) (by unfold maxLen; omega) ?_)
          obtain ⟨T2, hT2, cc2⟩ := conv_some w6 60
          have happ := str_app l T2
          have hLL : (l ++ T2).length ≤ 10000 := by simp; omega
          go_wp2_with fail
          rw [cc2]
          go_wp2_with fail
          go_ret
          exact ⟨l ++ T2, by simp, hLL, gr_alloc g0 _⟩
        · go_wp2_with (at_make; refine wpList_make_has _ rfl _ _ _ rfl 5 i0 _ 1 Tryd.underlying22 hi hz0 hz1 .i64 .i64 _ _ 61 rfl rfl (by omega) (by omega) (by rw [hz2]; omega) (by unfold maxLen; omega) ?_)
          obtain ⟨T2, hT2, cc2⟩ := conv_some w6 61
          have happ := str_app l T2
          have hLL : (l ++ T2).length ≤ 10000 := by simp; omega
          go_wp2_with fail
          rw [cc2]
          go_wp2_with fail
          go_ret
          exact ⟨l ++ T2, by simp, hLL, gr_alloc g0 _⟩
    · go_wp2_with (at_make; refine wpList_make_has _ rfl _ _ _ rfl 5 i0 _ 1 Tryd.underlying22 hi hz0 hz1 .i64 .i64 _ _ 4001 rfl rfl (by omega) (by omega) (by rw [hz2]; omega) (by unfold maxLen; omega) ?_)
      obtain ⟨T, hT, cc⟩ := conv_some w4 4001
      replace g0 := gr_alloc g0 (.cells (madeCells #[.int .u8 0] 4001) 5)
      replace h4 := h4.alloc (.cells (madeCells #[.int .u8 0] 4001) 5)
      have hl : T.length ≤ 9000 := by omega
      go_wp2_with fail
      rw [cc]
      clear cc hT hl0
      generalize w4.alloc (.cells (madeCells #[.int .u8 0] 4001) 5) = w4b at *
      generalize l = l0 at *
      generalize T = l at *
      go_wp2_with fail
      refine (once b n c q _ 20 hn h4 (by omega)).mono ?_
      rintro e w5 ⟨v2, rfl, g5, h5⟩
      replace g0 := gr_past g0 g5 hq
      clear g5 h4
      cases v2
      · go_wp2_with fail
        go_ret
        exact ⟨l, rfl, by omega, g0⟩
      · go_wp2_with fail
        refine (below b n c q _ 2 hn h5 (by omega)).mono ?_
        rintro e w6 ⟨y, ⟨y0, y1⟩, rfl, g6, h6⟩
        replace g0 := gr_past g0 g6 hq
        have hy : y = 0 ∨ y = 1 := by omega
        clear y0 y1 g6 h5
        rcases hy with rfl | rfl
        · go_wp2_with (at_make; refine wpList_make_has _ rfl _ _ _ rfl 5 i0 _ 1 Tryd.underlying22 hi hz0 hz1 .i64 .i64 _ _ 60 rfl rfl (by omega) (by omega) (by rw [hz2]; omega) (by unfold maxLen; omega) ?_)
          obtain ⟨T2, hT2, cc2⟩ := conv_some w6 60
          have happ := str_app l T2
          have hLL : (l ++ T2).length ≤ 10000 := by simp; omega
          go_wp2_with fail
          rw [cc2]
          go_wp2_with fail
          go_ret
          exact ⟨l ++ T2, by simp, hLL, gr_alloc g0 _⟩
        · go_wp2_with (at_make; refine wpList_make_has _ rfl _ _ _ rfl 5 i0 _ 1 Tryd.underlying22 hi hz0 hz1 .i64 .i64 _ _ 61 rfl rfl (by omega) (by omega) (by rw [hz2]; omega) (by unfold maxLen; omega) ?_)
          obtain ⟨T2, hT2, cc2⟩ := conv_some w6 61
          have happ := str_app l T2
          have hLL : (l ++ T2).length ≤ 10000 := by simp; omega
          go_wp2_with fail
          rw [cc2]
          go_wp2_with fail
          go_ret
          exact ⟨l ++ T2, by simp, hLL, gr_alloc g0 _⟩
end Go.Proofs.YtfobbjimcmjfkaaDoor.frm
