/- The walk of the law of tables. -/
import Derived.Test.YtjnkmmdkpdkalaaTabDraw
import Derived.Test.YtjnkmmdkpdkalaaTabSpec2
import Derived.Test.YtjnkmmdkpdkalaaTabImpl4
import Derived.Test.YtjnkmmdkpdkalaaTabImpl5
namespace Go.Proofs.Ytjnkmmdkpdkalaa.tab
open Go.ChangeShapes Go.WideShapes Go.ChangeAt Go.RowKit
open Go.Proofs.Ytjnkmmdkpdkalaa.nums Go.Proofs.Ytjnkmmdkpdkalaa.mem
set_option linter.unusedVariables false

theorem implAt_point (g cap : Nat) (ps : Pts) (k : Nat) (w : World) (hT : Tab w g ps) (ho : OkT ps) (hk : k < ps.length) : Calls Try.prog 10 #[.slice (some ⟨g, 0, none⟩) ps.length cap, .int .i64 (px ps k)] w (Ret (.int .i64 (py ps k)) w) :=
  (implAt_ok g cap ps _ w hT ho).mono fun e w' ⟨y, hy, he, hg⟩ => ⟨by rw [he, hy.point ho hk], hg⟩

set_option maxRecDepth 100000 in
set_option maxHeartbeats 4000000 in
theorem walk (a0 : Option Addr) (len0 cap0 : Nat) (w : World) (hb : cur.Bytes w w.heap.size a0 len0) :
    Calls Try.prog 3 #[.slice a0 len0 cap0] w fun e w' => e = .returned (.bool true) ∧ Below w.heap.size w w' := by
  by_cases hn : len0 ≤ 4096
  · have hd : decide (4096 < len0) = false := by simp; omega
    go_enter Try.func3, Try.ntmps3
    go_wp2_with (go_at_call 8; refine (cur.big _ _ _ _).mono ?_; rintro e w' ⟨rfl, rfl⟩)
    refine (drawAt a0 len0 cap0 _ hn hb).mono ?_
    rintro e w1 ⟨g, cap, ps, x, rfl, h8, ⟨x0, x1⟩, g1, t1⟩
    clear hd hb
    by_cases ho : OkT ps
    · have hok := okB_true ho
      by_cases hr : riseB ps = true
      · have hr2 := Lib.hid (riseB_iff.1 hr).2
        go_wp2_with fail
        refine (implAt_ok g cap ps x _ t1 ho).mono ?_
        rintro e w2 ⟨y, hy, rfl, hg2⟩
        have t2 := t1.kept hg2; have g2 := gr_trans g1 hg2; clear t1 g1 hg2
        go_wp2_with fail
        refine (implGreatest_ok g cap ps _ t2 ho).mono ?_
        rintro e w3 ⟨rfl, hg3⟩
        have t3 := t2.kept hg3; have g3 := gr_trans g2 hg3; clear t2 g2 hg3
        go_wp2_with fail
        refine (implIsRising g cap ps _ t3).mono ?_
        rintro e w4 ⟨rfl, hg4⟩
        have t4 := t3.kept hg4; have g4 := gr_trans g3 hg4; clear t3 g3 hg4
        go_wp2_with fail
        refine (specAt_ok g cap ps x _ t4 ho).mono ?_
        rintro e w5 ⟨y', hy', rfl, hg5⟩
        obtain rfl := hy.one ho hy'
        have t5 := t4.kept hg5; have g5 := gr_trans g4 hg5; clear t4 g4 hg5 hy'
        have hle := hy.le_gr ho
        have HY := Lib.hid hy; clear hy
        go_wp2_with fail
        refine (specGreatest_ok g cap ps _ t5 ho).mono ?_
        rintro e w6 ⟨rfl, hg6⟩
        have t6 := t5.kept hg6; have g6 := gr_trans g5 hg6; clear t5 g5 hg6
        go_wp2_with fail
        refine (specIsRising g cap ps _ t6 (by omega)).mono ?_
        rintro e w7 ⟨rfl, hg7⟩
        have t7 := t6.kept hg7; have g7 := gr_trans g6 hg7; clear t6 g6 hg7
        go_wp2_with fail
        refine (implTableOk g cap ps _ t7).mono ?_
        rintro e w8 ⟨rfl, hg8⟩
        have t8 := t7.kept hg8; have g8 := gr_trans g7 hg8; clear t7 g7 hg8
        go_wp2_with fail
        refine (specTableOk g cap ps _ t8 (by omega)).mono ?_
        rintro e w9 ⟨rfl, hg9⟩
        have t9 := t8.kept hg9; have g9 := gr_trans g8 hg9; clear t8 g8 hg9
        go_wp2_with fail
        refine (specTableOk g cap ps _ t9 (by omega)).mono ?_
        rintro e w10 ⟨rfl, hg10⟩
        have t10 := t9.kept hg10; have g10 := gr_trans g9 hg10; clear t9 g9 hg10
        go_wp2_with fail
        go_loopw [8] (fun i wr => ∃ k : Nat, k ≤ ps.length ∧ i = .int .i64 k ∧ w.grownBy wr none ∧ Tab wr g ps) (fun i _ => ps.length - (intOf i).toNat)
        case atStart => exact ⟨0, Nat.zero_le _, rfl, g10, t10⟩
        case round =>
          clear t10 g10
          obtain ⟨k, hk, rfl, hg, ht⟩ := hrel
          by_cases hlt : k < ps.length
          · have htd : Tab wr.drew g ps := ht
            obtain ⟨cx, cy⟩ := ht.2 k hlt
            have hgr : py ps k ≤ gr ps (ps.length - 1) := gr_le ps _ _ (by omega)
            have hdg : decide (gr ps (ps.length - 1) < py ps k) = false := by simp; omega
            go_wp2_with fail
            go_region_held3 (fun W => W.cell? ⟨g, k * 2, none⟩ = some (.int .i64 (px ps k)) ∧ W.cell? ⟨g, k * 2 + 1, none⟩ = some (.int .i64 (py ps k))) (go_keep)
              (first | (go_at_call 10; refine (implAt_point g cap ps k _ htd ho hlt).mono ?_; rintro e w' ⟨rfl, hg'⟩; have tt := htd.kept hg'; obtain ⟨cc0, cc1⟩ := tt.2 k hlt))
            go_wp2_with fail
            go_roundw
            case rel => exact ⟨k + 1, by omega, by go_num, gr_trans (gr_drewN hg 1) hg', tt⟩
            case measure => simp [intOf]; omega
          · go_wp2_with fail
            refine (implAt_ok g cap ps (x + 1) _ ht ho).mono ?_
            rintro e v1 ⟨y1, hy1, rfl, hv1⟩
            have u1 := ht.kept hv1; have k1 := gr_trans hg hv1
            have m1 := AtIs.mono ho hr2.out (by omega) HY.out hy1
            have d1 : decide (y ≤ y1) = true := by simp [m1]
            have HY1 := Lib.hid hy1; clear hy1 hv1
            go_wp2_with fail
            refine (implAt_ok g cap ps (x + 7) _ u1 ho).mono ?_
            rintro e v2 ⟨y2, hy2, rfl, hv2⟩
            have u2 := u1.kept hv2; have k2 := gr_trans k1 hv2
            have m2 := AtIs.mono ho hr2.out (by omega) HY1.out hy2
            have d2 : decide (y1 ≤ y2) = true := by simp [m2]
            clear hy2 hv2
            go_wp2_with fail
            refine (implAt_ok g cap ps (x + 1) _ u2 ho).mono ?_
            rintro e v3 ⟨y3, hy3, rfl, hv3⟩
            obtain rfl := HY1.out.one ho hy3
            clear hy3
            go_wp2_with fail
            go_ret
            exact ⟨rfl, below_of_none (gr_trans k2 hv3)⟩
      · have hr' : riseB ps = false := by simpa using hr
        clear hr
        go_wp2_with fail
        refine (implAt_ok g cap ps x _ t1 ho).mono ?_
        rintro e w2 ⟨y, hy, rfl, hg2⟩
        have t2 := t1.kept hg2; have g2 := gr_trans g1 hg2; clear t1 g1 hg2
        go_wp2_with fail
        refine (implGreatest_ok g cap ps _ t2 ho).mono ?_
        rintro e w3 ⟨rfl, hg3⟩
        have t3 := t2.kept hg3; have g3 := gr_trans g2 hg3; clear t2 g2 hg3
        go_wp2_with fail
        refine (implIsRising g cap ps _ t3).mono ?_
        rintro e w4 ⟨rfl, hg4⟩
        have t4 := t3.kept hg4; have g4 := gr_trans g3 hg4; clear t3 g3 hg4
        go_wp2_with fail
        refine (specAt_ok g cap ps x _ t4 ho).mono ?_
        rintro e w5 ⟨y', hy', rfl, hg5⟩
        obtain rfl := hy.one ho hy'
        have t5 := t4.kept hg5; have g5 := gr_trans g4 hg5; clear t4 g4 hg5 hy'
        have hle := hy.le_gr ho
        have HY := Lib.hid hy; clear hy
        go_wp2_with fail
        refine (specGreatest_ok g cap ps _ t5 ho).mono ?_
        rintro e w6 ⟨rfl, hg6⟩
        have t6 := t5.kept hg6; have g6 := gr_trans g5 hg6; clear t5 g5 hg6
        go_wp2_with fail
        refine (specIsRising g cap ps _ t6 (by omega)).mono ?_
        rintro e w7 ⟨rfl, hg7⟩
        have t7 := t6.kept hg7; have g7 := gr_trans g6 hg7; clear t6 g6 hg7
        go_wp2_with fail
        refine (implTableOk g cap ps _ t7).mono ?_
        rintro e w8 ⟨rfl, hg8⟩
        have t8 := t7.kept hg8; have g8 := gr_trans g7 hg8; clear t7 g7 hg8
        go_wp2_with fail
        refine (specTableOk g cap ps _ t8 (by omega)).mono ?_
        rintro e w9 ⟨rfl, hg9⟩
        have t9 := t8.kept hg9; have g9 := gr_trans g8 hg9; clear t8 g8 hg9
        go_wp2_with fail
        refine (specTableOk g cap ps _ t9 (by omega)).mono ?_
        rintro e w10 ⟨rfl, hg10⟩
        have t10 := t9.kept hg10; have g10 := gr_trans g9 hg10; clear t9 g9 hg10
        go_wp2_with fail
        go_loopw [8] (fun i wr => ∃ k : Nat, k ≤ ps.length ∧ i = .int .i64 k ∧ w.grownBy wr none ∧ Tab wr g ps) (fun i _ => ps.length - (intOf i).toNat)
        case atStart => exact ⟨0, Nat.zero_le _, rfl, g10, t10⟩
        case round =>
          clear t10 g10
          obtain ⟨k, hk, rfl, hg, ht⟩ := hrel
          by_cases hlt : k < ps.length
          · have htd : Tab wr.drew g ps := ht
            obtain ⟨cx, cy⟩ := ht.2 k hlt
            have hgr : py ps k ≤ gr ps (ps.length - 1) := gr_le ps _ _ (by omega)
            have hdg : decide (gr ps (ps.length - 1) < py ps k) = false := by simp; omega
            go_wp2_with fail
            go_region_held3 (fun W => W.cell? ⟨g, k * 2, none⟩ = some (.int .i64 (px ps k)) ∧ W.cell? ⟨g, k * 2 + 1, none⟩ = some (.int .i64 (py ps k))) (go_keep)
              (first | (go_at_call 10; refine (implAt_point g cap ps k _ htd ho hlt).mono ?_; rintro e w' ⟨rfl, hg'⟩; have tt := htd.kept hg'; obtain ⟨cc0, cc1⟩ := tt.2 k hlt))
            go_wp2_with fail
            go_roundw
            case rel => exact ⟨k + 1, by omega, by go_num, gr_trans (gr_drewN hg 1) hg', tt⟩
            case measure => simp [intOf]; omega
          · go_wp2_with fail
            go_ret
            exact ⟨rfl, below_of_none hg⟩
    · have hok := okB_false ho
      have hri := riseB_notOk ho
      go_wp2_with fail
      refine (implAt_no g cap ps x _ t1 hok).mono ?_
      rintro e w2 ⟨rfl, hg2⟩
      have t2 := t1.kept hg2; have g2 := gr_trans g1 hg2; clear t1 g1 hg2
      go_wp2_with fail
      refine (implGreatest_no g cap ps _ t2 hok).mono ?_
      rintro e w3 ⟨rfl, hg3⟩
      have t3 := t2.kept hg3; have g3 := gr_trans g2 hg3; clear t2 g2 hg3
      go_wp2_with fail
      refine (implIsRising g cap ps _ t3).mono ?_
      rintro e w4 ⟨rfl, hg4⟩
      have t4 := t3.kept hg4; have g4 := gr_trans g3 hg4; clear t3 g3 hg4
      go_wp2_with fail
      refine (specAt_no g cap ps x _ t4 (by omega) hok).mono ?_
      rintro e w5 ⟨rfl, hg5⟩
      have t5 := t4.kept hg5; have g5 := gr_trans g4 hg5; clear t4 g4 hg5
      go_wp2_with fail
      refine (specGreatest_no g cap ps _ t5 (by omega) hok).mono ?_
      rintro e w6 ⟨rfl, hg6⟩
      have t6 := t5.kept hg6; have g6 := gr_trans g5 hg6; clear t5 g5 hg6
      go_wp2_with fail
      refine (specIsRising g cap ps _ t6 (by omega)).mono ?_
      rintro e w7 ⟨rfl, hg7⟩
      have t7 := t6.kept hg7; have g7 := gr_trans g6 hg7; clear t6 g6 hg7
      go_wp2_with fail
      refine (implTableOk g cap ps _ t7).mono ?_
      rintro e w8 ⟨rfl, hg8⟩
      have t8 := t7.kept hg8; have g8 := gr_trans g7 hg8; clear t7 g7 hg8
      go_wp2_with fail
      refine (specTableOk g cap ps _ t8 (by omega)).mono ?_
      rintro e w9 ⟨rfl, hg9⟩
      have t9 := t8.kept hg9; have g9 := gr_trans g8 hg9; clear t8 g8 hg9
      go_wp2_with fail
      refine (specTableOk g cap ps _ t9 (by omega)).mono ?_
      rintro e w10 ⟨rfl, hg10⟩
      have g10 := gr_trans g9 hg10; clear t9 g9 hg10
      go_wp2_with fail
      go_ret
      exact ⟨rfl, below_of_none g10⟩
  · have hd : decide (4096 < len0) = true := by simp; omega
    go_enter Try.func3, Try.ntmps3
    go_wp2_with (go_at_call 8; refine (cur.big _ _ _ _).mono ?_; rintro e w' ⟨rfl, rfl⟩)
    all_goals go_ret
    all_goals exact ⟨rfl, Below.refl _ _⟩
end Go.Proofs.Ytjnkmmdkpdkalaa.tab
