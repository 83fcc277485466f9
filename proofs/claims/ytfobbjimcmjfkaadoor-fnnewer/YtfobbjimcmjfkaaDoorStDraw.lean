/- What is drawn for the law of the newer ones: two numbers; a list of frames. -/
import Derived.Test.YtfobbjimcmjfkaaDoorStLst
import Derived.Test.YtfobbjimcmjfkaaDoorFrLike
import Derived.Deep.Cut
namespace Go.Proofs.YtfobbjimcmjfkaaDoor.stm
open Go.ChangeShapes Go.WideShapes Go.ChangeAt Go.RowKit
open Go.Proofs.YtfobbjimcmjfkaaDoor.nums Go.Proofs.YtfobbjimcmjfkaaDoor.mem Go.Proofs.YtfobbjimcmjfkaaDoor.txt Go.Proofs.YtfobbjimcmjfkaaDoor.fix Go.Proofs.YtfobbjimcmjfkaaDoor.frm
open Go.Proofs.YtfobbjimcmjfkaaDoor.cur (Cur Bytes below once from_ new Cur.alloc Cur.kept Cur.lt)
open Go.Proofs.YtfobbjimcmjfkaaDoor.tab (Ret quiet_w wpList_make_has add_off)
set_option linter.unusedVariables false

def tab5 (k : Nat) : Int := [0, 1, 50, 51, 99].getD k 0
theorem tab5_in (k : Nat) (hk : k < 5) : 0 ≤ tab5 k ∧ tab5 k ≤ 99 := by
  obtain rfl | rfl | rfl | rfl | rfl : k = 0 ∨ k = 1 ∨ k = 2 ∨ k = 3 ∨ k = 4 := by omega
  all_goals exact ⟨by decide, by decide⟩
theorem tab5_cell (k : Nat) (hk : k < 5) : #[Value.int .i64 0, .int .i64 1, .int .i64 50, .int .i64 51, .int .i64 99][k]? = some (.int .i64 (tab5 k)) := by
  obtain rfl | rfl | rfl | rfl | rfl : k = 0 ∨ k = 1 ∨ k = 2 ∨ k = 3 ∨ k = 4 := by omega
  all_goals rfl

/-- Two small numbers. -/
def TwoS (w : World) (e : Ending) (w' : World) : Prop := ∃ x y : Int, -2 ≤ x ∧ x ≤ 100 ∧ -100 ≤ y ∧ y ≤ 100 ∧ e = .returned (.tuple #[.int .i64 x, .int .i64 y]) ∧ w.grownBy w' none

theorem tmod100 (x : Int) : -100 ≤ x.tmod 100 ∧ x.tmod 100 ≤ 100 := by
  have h1 := Int.lt_tmod_of_pos x (show (0 : Int) < 100 by decide)
  have h2 := Int.tmod_lt_of_pos x (show (0 : Int) < 100 by decide)
  omega

set_option maxRecDepth 100000 in
set_option maxHeartbeats 4000000 in
theorem drawNewer (b : Option Addr) (n c : Nat) (w : World) (hn : n ≤ 4096) (hb : Bytes w w.heap.size b n) : Calls Tryd.prog 13 #[.slice b n c] w (TwoS w) := by
  go_enter Tryd.func13, Tryd.ntmps13
  go_wp2_with fail
  refine (new b n c _ hn hb).mono ?_
  rintro e w1 ⟨q, rfl, hq, g1, h1⟩
  go_wp2_with fail
  refine (from_ b n c q _ _ _ hn h1 (by omega) (by omega) (by omega) (by omega)).mono ?_
  rintro e w2 ⟨o, ⟨o0, o1⟩, rfl, g2, h2⟩
  go_wp2_with fail
  refine (once b n c q _ 3 hn h2 (by omega)).mono ?_
  rintro e w3 ⟨v, rfl, g3, h3⟩
  have g0 := gr_past (gr_past g1 g2 hq) g3 hq
  clear g1 g2 g3 h1 h2
  cases v
  · go_wp2_with fail
    refine (from_ b n c q _ _ _ hn h3 (by omega) (by omega) (by omega) (by omega)).mono ?_
    rintro e w4 ⟨z, ⟨z0, z1⟩, rfl, g4, h4⟩
    go_wp2_with fail
    go_ret2
    exact ⟨o, z, o0, o1, by omega, z1, rfl, gr_past g0 g4 hq⟩
  · have hA : Cur b n c (w3.alloc (Obj.cells #[Value.int .i64 0, .int .i64 1, .int .i64 50, .int .i64 51, .int .i64 99] 2)).drew q := h3.alloc _
    have HA : Has (w3.alloc (Obj.cells #[Value.int .i64 0, .int .i64 1, .int .i64 50, .int .i64 51, .int .i64 99] 2)).drew w3.heap.size 2 _ := Has.fresh w3 2 #[Value.int .i64 0, .int .i64 1, .int .i64 50, .int .i64 51, .int .i64 99]
    have hB : Cur b n c w3.drew q := h3
    have hq3 := h3.lt
    have hcall : ∀ W, Cur b n c W q → Calls Tryd.prog 32 #[.pointer (some ⟨q, 0, none⟩), .int .i64 5] W fun e w' => ∃ v, e = .returned v ∧ ∃ k : Nat, v = .int .i64 k ∧ k < 5 ∧ W.grownBy w' (some q) := fun W hW =>
      (below b n c q _ 5 hn hW (by omega)).mono fun e w' ⟨x, ⟨x0, x1⟩, he, hg, hc⟩ => ⟨_, he, x.toNat, by rw [Int.toNat_of_nonneg x0], by omega, hg⟩
    go_wp2_with fail
    go_region_law (first
      | (refine step_call (by rfl) 32 _ (by go_simp) _ (hcall _ hA) ?_; rintro _ w4 ⟨k, rfl, hk, g4⟩; have d0 := ((HA.grown g4 (fun e => by injection e with e; omega)).cell k).trans (tab5_cell k hk); have gf := gr_past (gr_drewN (gr_alloc g0 _) 1) g4 hq; have t5 := tab5_in k hk; have hk5 : (k : Int) < 5 := by omega)
      | (refine step_call (by rfl) 32 _ (by go_simp) _ (hcall _ hB) ?_; rintro _ w4 ⟨k, rfl, hk, g4⟩; have d0 := ((Has.fresh w4 2 #[Value.int .i64 0, .int .i64 1, .int .i64 50, .int .i64 51, .int .i64 99]).cell k).trans (tab5_cell k hk); have gf := gr_alloc (gr_past (gr_drewN g0 1) g4 hq) (Obj.cells #[Value.int .i64 0, .int .i64 1, .int .i64 50, .int .i64 51, .int .i64 99] 2); have t5 := tab5_in k hk; have hk5 : (k : Int) < 5 := by omega))
    all_goals obtain ⟨t50, t51⟩ := t5
    all_goals clear d0 hA HA hB hcall h3 hk
    all_goals generalize tab5 k = T at *
    all_goals go_wp2_with fail
    all_goals go_ret2
    all_goals exact ⟨o, _, o0, o1, (tmod100 _).1, (tmod100 _).2, rfl, gf⟩

/-- A list of frames, of new memory, a kind and a number. -/
def DrewL (w : World) (e : Ending) (w' : World) : Prop := ∃ (fs : List Fr) (ps : List Pl) (a : Option Addr) (cap : Nat) (kind old : Int), e = .returned (.tuple #[.slice a fs.length cap, .int .i64 kind, .int .i64 old]) ∧ fs.length ≤ 6 ∧ Frs w' a fs ps ∧ (∀ k, k < fs.length → (fv fs k).length ≤ 6) ∧ w.grownBy w' none
theorem short_snoc {fs : List Fr} {f : Fr} (h : ∀ k, k < fs.length → (fv fs k).length ≤ 6) (hf : f.2.2.length ≤ 6) : ∀ k, k < (fs ++ [f]).length → (fv (fs ++ [f]) k).length ≤ 6 := by
  intro k hk
  by_cases e : k < fs.length
  · rw [(fk_lt e).2.2]; exact h k e
  · have e' : k = fs.length := by simp at hk; omega
    subst e'
    rw [fk_eq.2.2]; exact hf

theorem ints_past {w w' : World} {q : Nat} {a : Option Addr} {vs : List Int} (hI : Ints w a vs) (hg : w.grownBy w' (some q)) (hoff : ∀ d, blkV a vs d → q < d) : Ints w' a vs :=
  (chg_of_gr (S := fun d => some d = some q) hg (fun b e => e)).ints hI (fun x e hl er => by
    have := hoff x.block ⟨fun e => by rw [e] at hl; simp at hl, x, e, rfl⟩
    injection er with er
    omega)

set_option maxRecDepth 100000 in
set_option maxHeartbeats 4000000 in
theorem drawHeard (b : Option Addr) (n c : Nat) (w : World) (hn : n ≤ 4096) (hb : Bytes w w.heap.size b n) : Calls Tryd.prog 15 #[.slice b n c] w (DrewL w) := by
  obtain ⟨i0, hi, hz0, hz1, hz2⟩ := info_parts infoFrame
  go_enter Tryd.func15, Tryd.ntmps15
  go_wp2_with fail
  refine (new b n c _ hn hb).mono ?_
  rintro e w1 ⟨q, rfl, hq, g1, h1⟩
  have hq1 := h1.lt
  have L0 := Lst.made w1.heap.size w1 (Nat.le_refl _)
  have ga := World.grownBy_alloc w1 (Obj.cells #[] 37) none
  have h1a := h1.alloc (Obj.cells #[] 37)
  clear h1
  go_wp2_with fail
  refine (below b n c q _ 6 hn h1a (by omega)).mono ?_
  rintro e w2 ⟨x, ⟨x0, x1⟩, rfl, g2, h2⟩
  replace L0 := L0.grown g2 (fun r e => by injection e with e; omega)
  have g0 := gr_past (gr_trans g1 ga) g2 hq
  have hB : w1.heap.size ≤ w2.heap.size := Nat.le_trans ga.size g2.size
  obtain ⟨M, rfl⟩ := Int.eq_ofNat_of_zero_le x0
  generalize w1.heap.size = B at *
  clear ga h1a g1 g2 x0
  go_wp2_with fail
  go_loopw [6, 7] (fun v i wr => ∃ (m : Nat) (fs : List Fr) (ps : List Pl), i = .int .i64 m ∧ fs.length + m ≤ 5 ∧ Lst B wr v fs ps ∧ Hid (∀ k, k < fs.length → (fv fs k).length ≤ 6) ∧ w.grownBy wr none ∧ Cur b n c wr q ∧ B ≤ wr.heap.size) (fun _ i _ => (intOf i).toNat)
  case atStart => exact ⟨M, [], [], rfl, by simp; omega, L0, Lib.hid (fun k hk => by simp at hk), g0, h2, hB⟩
  case round =>
    clear L0 g0 h2 hB
    obtain ⟨m, fs, ps, rfl, hm5, L, hs, g0, h2, hB⟩ := hrel
    by_cases hm : 0 < m
    · have hm' : decide (0 < (m : Int)) = true := by simp; omega
      obtain ⟨low1, low2⟩ := L.lt
      go_wp2_with fail
      refine (drawAny b n c q _ hn h2).mono ?_
      rintro e w3 ⟨k, sq, vs, a, cap, rfl, hI, h6, hge, g3, h3⟩
      have hoff : ∀ d, blkV a vs d → B ≤ d ∧ Value.ownBlock _ ≠ some d := fun d hd => by
        obtain ⟨_, y, ey, rfl⟩ := hd
        have := hge y ey
        exact ⟨by omega, fun e => by have := (L.row.lt _ e).2; omega⟩
      replace L := L.grown g3 (fun r e => by injection e with e; omega)
      replace g0 := gr_past g0 g3 hq
      have hB3 := Nat.le_trans hB g3.size
      have hW3 := g3.size
      have ga := World.grownBy_alloc w3 (Obj.cells #[.int .i64 k, .int .i64 sq, .slice a vs.length cap] 37) none
      have HX := Has.fresh w3 37 #[.int .i64 k, .int .i64 sq, .slice a vs.length cap]
      replace L := L.kept ga
      replace g0 := gr_trans g0 ga
      replace hI := hI.kept ga
      replace h3 := h3.alloc (Obj.cells #[.int .i64 k, .int .i64 sq, .slice a vs.length cap] 37)
      clear g3 ga hge h2
      go_wp2_with fail
      refine (once b n c q _ 2 hn h3 (by omega)).mono ?_
      rintro e w4 ⟨v1, rfl, g4, h4⟩
      have hqB : q < w3.heap.size := by omega
      replace L := L.grown g4 (fun r e => by injection e with e; omega)
      replace g0 := gr_past g0 g4 hq
      replace HX := HX.grown g4 (fun e => by injection e with e; omega)
      replace hI := ints_past hI g4 (fun d hd => by have := (hoff d hd).1; omega)
      have hs4 := g4.size
      have hB4 : B ≤ w4.heap.size := by simp at hs4; omega
      clear g4 h3
      obtain ⟨b0, b1, b2, f0, f1, f2⟩ := three HX
      have hm0 : (1 : Int) ≤ m := by omega
      cases v1
      · go_wp2_with (at_builtin; refine wpList_append_lies _ rfl _ _ _ rfl B 37 i0 _ 3 40 Tryd.underlying25 hi hz0 hz1 hz2 rfl (by omega) _ fs.length (rowF fs ps) rfl (L.row.alloc _) ⟨w4.heap.size, 0, none⟩ 1 1 [.int .i64 k, .int .i64 sq, .slice a vs.length cap] rfl rfl (World.news_of_block (cs := #[.int .i64 k, .int .i64 sq, .slice a vs.length cap]) (t := 37) (fr := (0, 0)) (heap_alloc_new _ _)) (by simp [Value.oneCell']) (by omega) (by unfold maxLen; omega) (by omega) (by simp; omega) _ rfl ?_; intro gg cap1 w9 hown hgrow hat hlt9)
        have L9 := Lst.snoc (f := (k, sq, vs)) (p := (a, cap)) L hI hoff hown hgrow (hat.imp id (fun e => e.trans (by simp)))
        have g9 := gr_own_row g0 L.row (by omega) hgrow
        have h9 : Cur b n c w9 q := cur_own (h4.alloc _) (L.row.alloc _) hq1 hgrow
        have hs9 := hgrow.size
        clear hgrow hat hown
        go_roundw
        case rel => exact ⟨m - 1, fs ++ [(k, sq, vs)], ps ++ [(a, cap)], by congr 1; omega, by simp; omega, L9, Lib.hid (short_snoc hs.out h6), g9, h9, by simp at hs9; omega⟩
        case measure => simp [intOf]; omega
      · clear hI hoff
        go_wp2_with fail
        refine (below b n c q _ 9 hn h4 (by omega)).mono ?_
        rintro e w5 ⟨z, ⟨z0, z1⟩, rfl, g5, h5⟩
        replace L := L.grown g5 (fun r e => by injection e with e; omega)
        replace g0 := gr_past g0 g5 hq
        replace HX := HX.grown g5 (fun e => by injection e with e; omega)
        have hB5 := Nat.le_trans hB4 g5.size
        have h35 := HX.lt
        clear g5 b0 b1 b2 f0 f1 f2 h4
        have hset : Chg (fun d => d = w3.heap.size) w5 (((w5.setCell ⟨w3.heap.size, 0, none⟩ (.int .i64 2)).setCell ⟨w3.heap.size, 1, none⟩ (.int .i64 z)).setCell ⟨w3.heap.size, 2, none⟩ (.slice (some ⟨w5.heap.size, 0, none⟩) 2 2)) :=
          chg_of_gr (gr_set (gr_set (gr_set (gr_refl _ (some w3.heap.size)) _ _) _ _) _ _) (fun d e => by injection e)
        have hoff : ∀ d, blkV (some ⟨w5.heap.size, 0, none⟩) [5, 6] d → B ≤ d ∧ Value.ownBlock _ ≠ some d := fun d hd => by
          obtain ⟨_, y, ey, rfl⟩ := hd
          injection ey with ey
          subst ey
          exact ⟨hB5, fun e => by have := (L.row.lt _ e).2; simp at this⟩
        have L6 := (L.chg hset (fun d hd e => by have := low1 d hd; omega) (fun k d hk hd e => by have := low2 k d hk hd; omega)).kept (World.grownBy_alloc _ (Obj.cells #[.int .i64 5, .int .i64 6] 2) none)
        have g6 := gr_alloc (gr_new (gr_new (gr_new g0 (show w.heap.size ≤ w3.heap.size by omega) 0 (.int .i64 2)) (show w.heap.size ≤ w3.heap.size by omega) 1 (.int .i64 z)) (show w.heap.size ≤ w3.heap.size by omega) 2 (.slice (some ⟨w5.heap.size, 0, none⟩) 2 2)) (Obj.cells #[.int .i64 5, .int .i64 6] 2)
        have c6 := (Cur.set (Cur.set (Cur.set h5 hqB 0 (.int .i64 2)) hqB 1 (.int .i64 z)) hqB 2 (.slice (some ⟨w5.heap.size, 0, none⟩) 2 2)).alloc (Obj.cells #[.int .i64 5, .int .i64 6] 2)
        have HV := Has.fresh (((w5.setCell ⟨w3.heap.size, 0, none⟩ (.int .i64 2)).setCell ⟨w3.heap.size, 1, none⟩ (.int .i64 z)).setCell ⟨w3.heap.size, 2, none⟩ (.slice (some ⟨w5.heap.size, 0, none⟩) 2 2)) 2 #[.int .i64 5, .int .i64 6]
        have s5 : (((w5.setCell ⟨w3.heap.size, 0, none⟩ (.int .i64 2)).setCell ⟨w3.heap.size, 1, none⟩ (.int .i64 z)).setCell ⟨w3.heap.size, 2, none⟩ (.slice (some ⟨w5.heap.size, 0, none⟩) 2 2)).heap.size = w5.heap.size := by simp [World.setCell]
        have H6 := (set3 HX (.int .i64 2) (.int .i64 z) (.slice (some ⟨w5.heap.size, 0, none⟩) 2 2)).alloc (Obj.cells #[.int .i64 5, .int .i64 6] 2)
        rw [s5] at HV
        have s6 : ((((w5.setCell ⟨w3.heap.size, 0, none⟩ (.int .i64 2)).setCell ⟨w3.heap.size, 1, none⟩ (.int .i64 z)).setCell ⟨w3.heap.size, 2, none⟩ (.slice (some ⟨w5.heap.size, 0, none⟩) 2 2)).alloc (Obj.cells #[.int .i64 5, .int .i64 6] 2)).heap.size = w5.heap.size + 1 := by simp [World.setCell]
        obtain ⟨b0, b1, b2, f0, f1, f2⟩ := three HX
        have s7 := Nat.le_of_eq s6.symm
        clear hset low1 low2 L g0 h5 s5 s6
        go_upto_region 9 with fail
        clear b0 b1 b2 f0 f1 f2 HX
        generalize (((w5.setCell ⟨w3.heap.size, 0, none⟩ (.int .i64 2)).setCell ⟨w3.heap.size, 1, none⟩ (.int .i64 z)).setCell ⟨w3.heap.size, 2, none⟩ (.slice (some ⟨w5.heap.size, 0, none⟩) 2 2)).alloc (Obj.cells #[.int .i64 5, .int .i64 6] 2) = w6 at *
        have hI6 : Ints w6 (some ⟨w5.heap.size, 0, none⟩) [5, 6] := by
          refine (fun j hj => ⟨_, rfl, HV.lt, ?_⟩)
          rw [add0, HV.cell]
          have : j = 0 ∨ j = 1 := by simp at hj; omega
          rcases this with rfl | rfl <;> rfl
        obtain ⟨b0, b1, b2, f0, f1, f2⟩ := three H6
        go_wp2_with (at_builtin; go_must (refine wpList_append_lies _ rfl _ _ _ rfl B 37 i0 _ 3 40 Tryd.underlying25 hi hz0 hz1 hz2 rfl (by omega) _ fs.length (rowF fs ps) rfl (L6.row.alloc _) ⟨w6.heap.size, 0, none⟩ 1 1 [.int .i64 2, .int .i64 z, .slice (some ⟨w5.heap.size, 0, none⟩) 2 2] rfl rfl (World.news_of_block (cs := #[.int .i64 2, .int .i64 z, .slice (some ⟨w5.heap.size, 0, none⟩) 2 2]) (t := 37) (fr := (0, 0)) (heap_alloc_new _ _)) (by simp [Value.oneCell']) (by omega) (by unfold maxLen; omega) (by omega) (by simp; omega) _ rfl ?_); intro gg cap1 w9 hown hgrow hat hlt9)
        have L9 := Lst.snoc (f := (2, z, [5, 6])) (p := (some ⟨w5.heap.size, 0, none⟩, 2)) L6 hI6 hoff hown hgrow (hat.imp id (fun e => e.trans (by simp)))
        have g9 := gr_own_row g6 L6.row (by omega) hgrow
        have h9 : Cur b n c w9 q := cur_own (c6.alloc _) (L6.row.alloc _) hq1 hgrow
        have hs9 := hgrow.size
        clear hgrow hat hown
        go_roundw
        case rel => exact ⟨m - 1, fs ++ [(2, z, [5, 6])], ps ++ [(some ⟨w5.heap.size, 0, none⟩, 2)], by congr 1; omega, by simp; omega, L9, Lib.hid (short_snoc hs.out (by simp)), g9, h9, by simp at hs9; omega⟩
        case measure => simp [intOf]; omega
    · obtain rfl : m = 0 := by omega
      have hm' : decide (0 < ((0 : Nat) : Int)) = false := by simp
      obtain ⟨a6, c6, e6⟩ := L.form
      subst e6
      go_wp2_with fail
      refine (from_ b n c q _ _ _ hn h2 (by omega) (by omega) (by omega) (by omega)).mono ?_
      rintro e w3 ⟨kd, _, rfl, g3, h3⟩
      replace L := L.grown g3 (fun r e => by injection e with e; omega)
      replace g0 := gr_past g0 g3 hq
      go_wp2_with fail
      refine (once b n c q _ 2 hn h3 (by omega)).mono ?_
      rintro e w4 ⟨v1, rfl, g4, h4⟩
      replace L := L.grown g4 (fun r e => by injection e with e; omega)
      replace g0 := gr_past g0 g4 hq
      clear g3 g4 h3
      cases v1
      all_goals go_wp2_with fail
      all_goals refine (from_ b n c q _ _ _ hn h4 (by omega) (by omega) (by omega) (by omega)).mono ?_
      all_goals rintro e w5 ⟨od, _, rfl, g5, h5⟩
      all_goals replace L := L.grown g5 (fun r e => by injection e with e; omega)
      all_goals go_wp2_with fail
      all_goals go_ret3
      all_goals exact ⟨fs, ps, a6, c6, _, od, rfl, by omega, L.frs, hs.out, gr_past g0 g5 hq⟩
end Go.Proofs.YtfobbjimcmjfkaaDoor.stm
