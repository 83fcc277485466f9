/- The law FnNewer. -/
import Derived.Test.YtfobbjimcmjfkaaDoorStHeardI
import Derived.Test.YtfobbjimcmjfkaaDoorStDraw
namespace Go.Proofs.YtfobbjimcmjfkaaDoor.stm
open Go.ChangeShapes Go.WideShapes Go.ChangeAt Go.RowKit
open Go.Proofs.YtfobbjimcmjfkaaDoor.nums Go.Proofs.YtfobbjimcmjfkaaDoor.mem Go.Proofs.YtfobbjimcmjfkaaDoor.txt Go.Proofs.YtfobbjimcmjfkaaDoor.fix Go.Proofs.YtfobbjimcmjfkaaDoor.frm
open Go.Proofs.YtfobbjimcmjfkaaDoor.cur (Cur Bytes)
open Go.Proofs.YtfobbjimcmjfkaaDoor.tab (Ret quiet_w wpList_make_has add_off)
set_option linter.unusedVariables false

theorem newer_self (a : Int) : newer a a = false := by
  rw [newer]
  by_cases h : a = -1
  · subst h; rfl
  · have e : (a - a + 100) % 100 = 0 := by omega
    rw [decide_eq_false h, e]
    simp [inb]
theorem newer_parts {a b : Int} (ha : 0 ≤ a) (h : newer a b = true) : a ≤ 99 ∧ 0 ≤ b ∧ b ≤ 99 ∧ 1 ≤ (b - a + 100) % 100 ∧ (b - a + 100) % 100 ≤ 50 := by
  have h1 : ¬ a = -1 := by omega
  rw [newer, decide_eq_false h1] at h
  simp only [Bool.and_eq_true, Bool.false_or] at h
  obtain ⟨h2, h3, h4⟩ := h
  have := inb_true h2
  have := inb_true h3
  have := inb_true h4
  omega
theorem newer_both {a b : Int} (ha : 0 ≤ a) (h1 : newer a b = true) (h2 : newer b a = true) : (b - a + 100).tmod 100 = 50 := by
  obtain ⟨a1, b0, b1, c0, c1⟩ := newer_parts ha h1
  obtain ⟨_, _, _, d0, d1⟩ := newer_parts b0 h2
  rw [Int.tmod_eq_emod_of_nonneg (by omega)]
  omega

set_option maxRecDepth 100000 in
set_option maxHeartbeats 8000000 in
theorem newerLaw (b0 : Option Addr) (n0 c0 : Nat) (w : World) (hb : Bytes w w.heap.size b0 n0) (hV : Vals w) :
    Calls Tryd.prog 4 #[.slice b0 n0 c0] w fun e w' => e = .returned (.bool true) ∧ Below w.heap.size w w' := by
  by_cases hn : n0 ≤ 4096
  · have hd : decide (4096 < n0) = false := by simp; omega
    go_enter Tryd.func4, Tryd.ntmps4
    go_wp2_with (go_at_call 7; refine (cur.big _ _ _ _).mono ?_; rintro e w' ⟨rfl, rfl⟩)
    refine (drawNewer b0 n0 c0 _ hn hb).mono ?_
    rintro e w1 ⟨a, b, a0, a1, bb0, bb1, rfl, g0⟩
    clear hd
    have hb1 : Bytes w1 w1.heap.size b0 n0 := (hb.below (Nat.le_refl _) (below_of_none g0)).more g0.size
    obtain ⟨N, hN⟩ : ∃ N, newer a b = N := ⟨_, rfl⟩
    have cI : ∀ W, Calls Tryd.prog 14 #[.int .i64 a, .int .i64 b] W fun e w' => e = .returned (.bool N) ∧ W = w' := fun W => hN ▸ implNewer a b W
    have cS : ∀ W, Calls Tryd.prog 17 #[.int .i64 a, .int .i64 b] W fun e w' => e = .returned (.bool N) ∧ W = w' := fun W => hN ▸ specNewer a b W
    have cA : ∀ W, Calls Tryd.prog 14 #[.int .i64 a, .int .i64 a] W fun e w' => e = .returned (.bool false) ∧ W = w' := fun W => newer_self a ▸ implNewer a a W
    obtain ⟨M, hM⟩ : ∃ M, newer b a = M := ⟨_, rfl⟩
    have cM : ∀ W, Calls Tryd.prog 14 #[.int .i64 b, .int .i64 a] W fun e w' => e = .returned (.bool M) ∧ W = w' := fun W => hM ▸ implNewer b a W
    have hNM : 0 ≤ a → N = true → M = true → (b - a + 100).tmod 100 = 50 := fun h1 h2 h3 => newer_both h1 (hN.trans h2) (hM.trans h3)
    replace hNM := Lib.hid hNM
    clear hN hM
    go_wp2_with fail
    refine (cI _).mono ?_
    rintro e w' ⟨rfl, rfl⟩
    go_wp2_with fail
    refine (drawHeard b0 n0 c0 _ hn hb1).mono ?_
    rintro e w2 ⟨fs, ps, af, cf, kind, old, rfl, hfl, F, hfv, g2⟩
    replace g0 := gr_trans g0 g2
    clear g2 hb hb1 cI
    have hfl' : fs.length ≤ 1048576 := by omega
    have hfv' : ∀ k, k < fs.length → (fv fs k).length ≤ 1048576 := fun k hk => by have := hfv k hk; omega
    clear hfl hfv
    obtain ⟨⟨kd, sq, vs, is⟩, hdc⟩ : ∃ q, dec (heard kind old fs) = q := ⟨_, rfl⟩
    have hout : vs.length ≤ 6 ∧ (is = false → kd = 0) ∧ (is = true → kd = kind ∧ okF kd sq vs = true) := by
      cases hr : heard kind old fs with
      | none =>
        rw [hr] at hdc
        simp only [dec, Prod.mk.injEq] at hdc
        obtain ⟨rfl, rfl, rfl, rfl⟩ := hdc
        exact ⟨by simp, fun _ => rfl, (fun h => by cases h)⟩
      | some f =>
        obtain ⟨h1, h2⟩ := hfold_ok kind old fs fs.length _ hr
        rw [hr] at hdc
        obtain ⟨k', sq', vs'⟩ := f
        simp only [dec, Prod.mk.injEq] at hdc
        obtain ⟨rfl, rfl, rfl, rfl⟩ := hdc
        exact ⟨okF_short h1, (fun h => by cases h), fun _ => ⟨h2, h1⟩⟩
    obtain ⟨h6, hno, hyes⟩ := hout
    have cHi := fun W hVW hW => (implHeard af cf fs ps kind old W hVW hW hfl' hfv').mono fun e w' h => ReadOut.got h hdc
    have cHs := fun W hW => (specHeard af cf fs ps kind old W hW hfl' hfv').mono fun e w' h => ReadOut.got h hdc
    clear hdc hfl' hfv'
    go_wp2_with fail
    refine (cHi _ (hV.kept g0) F).mono ?_
    rintro e w3 ⟨ag, cg, rfl, oG, g3⟩
    clear cHi
    have HG := Has.fresh w3 37 #[.int .i64 kd, .int .i64 sq, .slice ag vs.length cg]
    have a3 := World.grownBy_alloc w3 (Obj.cells #[.int .i64 kd, .int .i64 sq, .slice ag vs.length cg] 37) none
    replace g3 := gr_trans g3 a3
    have iG := (oG.kept a3).ints
    replace F := F.kept g3
    replace g0 := gr_trans g0 g3
    clear g3 a3 oG
    by_cases ha : 0 ≤ a
    · have ha' : decide (0 ≤ a) = true := decide_eq_true ha
      cases N
      · go_wp2_with fail
        refine (cS _).mono ?_
        rintro e w' ⟨rfl, rfl⟩
        go_wp2_with fail
        refine (cA _).mono ?_
        rintro e w' ⟨rfl, rfl⟩
        go_wp2_with fail
        clear cS cA cM hNM
        refine (cHs _ F).mono ?_
        rintro e w5 ⟨aw, cw, rfl, oW, g5⟩
        have HW := Has.fresh w5 37 #[.int .i64 kd, .int .i64 sq, .slice aw vs.length cw]
        have a5 := World.grownBy_alloc w5 (Obj.cells #[.int .i64 kd, .int .i64 sq, .slice aw vs.length cw] 37) none
        have iW := (oW.kept a5).ints
        have g6 := gr_trans g5 a5
        have HG6 := HG.grown g6 (by simp)
        have iG6 := iG.kept g6
        have g7 := gr_trans g0 g6
        clear g5 a5 oW g6 HG iG cHs F g0
        obtain ⟨x0, x1, x2, _, _, _⟩ := three HG6
        obtain ⟨y0, y1, y2, _, _, _⟩ := three HW
        go_wp2_with fail
        refine (likeFrame kd sq _ _ _ _ vs _ iG6 iW (by unfold maxLen; omega)).mono ?_
        rintro e w8 ⟨rfl, g8⟩
        have HG8 := HG6.grown g8 (by simp)
        have iG8 := iG6.kept g8
        have g9 := gr_trans g7 g8
        clear x0 x1 x2 y0 y1 y2 g8 g7 HG6 iG6 iW HW
        obtain ⟨x0, x1, x2, _, _, _⟩ := three HG8
        cases is
        · obtain rfl := hno rfl
          clear hyes hno
          go_wp2_with fail
          go_ret
          exact ⟨rfl, below_of_none g9⟩
        · obtain ⟨rfl, hok⟩ := hyes rfl
          have cF : ∀ W, Ints W ag vs → Calls Tryd.prog 20 #[fr kd sq ag vs.length cg] W (Ret (.bool true) W) := fun W hW => hok ▸ specFrameOk kd sq ag cg vs W hW (by unfold maxLen; omega)
          clear hyes hno hok
          go_wp2_with fail
          refine (cF _ iG8).mono ?_
          rintro e w10 ⟨rfl, g10⟩
          go_wp2_with fail
          go_ret
          exact ⟨rfl, below_of_none (gr_trans g9 g10)⟩
      · cases M
        · go_wp2_with fail
          refine (cS _).mono ?_
          rintro e w' ⟨rfl, rfl⟩
          go_wp2_with fail
          refine (cM _).mono ?_
          rintro e w' ⟨rfl, rfl⟩
          go_wp2_with fail
          refine (cA _).mono ?_
          rintro e w' ⟨rfl, rfl⟩
          go_wp2_with fail
          clear cS cA cM hNM
          refine (cHs _ F).mono ?_
          rintro e w5 ⟨aw, cw, rfl, oW, g5⟩
          have HW := Has.fresh w5 37 #[.int .i64 kd, .int .i64 sq, .slice aw vs.length cw]
          have a5 := World.grownBy_alloc w5 (Obj.cells #[.int .i64 kd, .int .i64 sq, .slice aw vs.length cw] 37) none
          have iW := (oW.kept a5).ints
          have g6 := gr_trans g5 a5
          have HG6 := HG.grown g6 (by simp)
          have iG6 := iG.kept g6
          have g7 := gr_trans g0 g6
          clear g5 a5 oW g6 HG iG cHs F g0
          obtain ⟨x0, x1, x2, _, _, _⟩ := three HG6
          obtain ⟨y0, y1, y2, _, _, _⟩ := three HW
          go_wp2_with fail
          refine (likeFrame kd sq _ _ _ _ vs _ iG6 iW (by unfold maxLen; omega)).mono ?_
          rintro e w8 ⟨rfl, g8⟩
          have HG8 := HG6.grown g8 (by simp)
          have iG8 := iG6.kept g8
          have g9 := gr_trans g7 g8
          clear x0 x1 x2 y0 y1 y2 g8 g7 HG6 iG6 iW HW
          obtain ⟨x0, x1, x2, _, _, _⟩ := three HG8
          cases is
          · obtain rfl := hno rfl
            clear hyes hno
            go_wp2_with fail
            go_ret
            exact ⟨rfl, below_of_none g9⟩
          · obtain ⟨rfl, hok⟩ := hyes rfl
            have cF : ∀ W, Ints W ag vs → Calls Tryd.prog 20 #[fr kd sq ag vs.length cg] W (Ret (.bool true) W) := fun W hW => hok ▸ specFrameOk kd sq ag cg vs W hW (by unfold maxLen; omega)
            clear hyes hno hok
            go_wp2_with fail
            refine (cF _ iG8).mono ?_
            rintro e w10 ⟨rfl, g10⟩
            go_wp2_with fail
            go_ret
            exact ⟨rfl, below_of_none (gr_trans g9 g10)⟩
        · have h50 := hNM.out ha rfl rfl
          have h50' : decide ((b - a + 100).tmod 100 = 50) = true := decide_eq_true h50
          go_wp2_with fail
          refine (cS _).mono ?_
          rintro e w' ⟨rfl, rfl⟩
          go_wp2_with fail
          refine (cM _).mono ?_
          rintro e w' ⟨rfl, rfl⟩
          go_wp2_with fail
          refine (cA _).mono ?_
          rintro e w' ⟨rfl, rfl⟩
          go_wp2_with fail
          clear cS cA cM hNM
          refine (cHs _ F).mono ?_
          rintro e w5 ⟨aw, cw, rfl, oW, g5⟩
          have HW := Has.fresh w5 37 #[.int .i64 kd, .int .i64 sq, .slice aw vs.length cw]
          have a5 := World.grownBy_alloc w5 (Obj.cells #[.int .i64 kd, .int .i64 sq, .slice aw vs.length cw] 37) none
          have iW := (oW.kept a5).ints
          have g6 := gr_trans g5 a5
          have HG6 := HG.grown g6 (by simp)
          have iG6 := iG.kept g6
          have g7 := gr_trans g0 g6
          clear g5 a5 oW g6 HG iG cHs F g0
          obtain ⟨x0, x1, x2, _, _, _⟩ := three HG6
          obtain ⟨y0, y1, y2, _, _, _⟩ := three HW
          go_wp2_with fail
          refine (likeFrame kd sq _ _ _ _ vs _ iG6 iW (by unfold maxLen; omega)).mono ?_
          rintro e w8 ⟨rfl, g8⟩
          have HG8 := HG6.grown g8 (by simp)
          have iG8 := iG6.kept g8
          have g9 := gr_trans g7 g8
          clear x0 x1 x2 y0 y1 y2 g8 g7 HG6 iG6 iW HW
          obtain ⟨x0, x1, x2, _, _, _⟩ := three HG8
          cases is
          · obtain rfl := hno rfl
            clear hyes hno
            go_wp2_with fail
            go_ret
            exact ⟨rfl, below_of_none g9⟩
          · obtain ⟨rfl, hok⟩ := hyes rfl
            have cF : ∀ W, Ints W ag vs → Calls Tryd.prog 20 #[fr kd sq ag vs.length cg] W (Ret (.bool true) W) := fun W hW => hok ▸ specFrameOk kd sq ag cg vs W hW (by unfold maxLen; omega)
            clear hyes hno hok
            go_wp2_with fail
            refine (cF _ iG8).mono ?_
            rintro e w10 ⟨rfl, g10⟩
            go_wp2_with fail
            go_ret
            exact ⟨rfl, below_of_none (gr_trans g9 g10)⟩
    · have ha' : decide (0 ≤ a) = false := decide_eq_false ha
      go_wp2_with fail
      refine (cS _).mono ?_
      rintro e w' ⟨rfl, rfl⟩
      cases N
      all_goals go_wp2_with fail
      all_goals refine (cA _).mono ?_
      all_goals rintro e w' ⟨rfl, rfl⟩
      all_goals go_wp2_with fail
      · skip
        clear cS cA cM hNM
        refine (cHs _ F).mono ?_
        rintro e w5 ⟨aw, cw, rfl, oW, g5⟩
        have HW := Has.fresh w5 37 #[.int .i64 kd, .int .i64 sq, .slice aw vs.length cw]
        have a5 := World.grownBy_alloc w5 (Obj.cells #[.int .i64 kd, .int .i64 sq, .slice aw vs.length cw] 37) none
        have iW := (oW.kept a5).ints
        have g6 := gr_trans g5 a5
        have HG6 := HG.grown g6 (by simp)
        have iG6 := iG.kept g6
        have g7 := gr_trans g0 g6
        clear g5 a5 oW g6 HG iG cHs F g0
        obtain ⟨x0, x1, x2, _, _, _⟩ := three HG6
        obtain ⟨y0, y1, y2, _, _, _⟩ := three HW
        go_wp2_with fail
        refine (likeFrame kd sq _ _ _ _ vs _ iG6 iW (by unfold maxLen; omega)).mono ?_
        rintro e w8 ⟨rfl, g8⟩
        have HG8 := HG6.grown g8 (by simp)
        have iG8 := iG6.kept g8
        have g9 := gr_trans g7 g8
        clear x0 x1 x2 y0 y1 y2 g8 g7 HG6 iG6 iW HW
        obtain ⟨x0, x1, x2, _, _, _⟩ := three HG8
        cases is
        · obtain rfl := hno rfl
          clear hyes hno
          go_wp2_with fail
          go_ret
          exact ⟨rfl, below_of_none g9⟩
        · obtain ⟨rfl, hok⟩ := hyes rfl
          have cF : ∀ W, Ints W ag vs → Calls Tryd.prog 20 #[fr kd sq ag vs.length cg] W (Ret (.bool true) W) := fun W hW => hok ▸ specFrameOk kd sq ag cg vs W hW (by unfold maxLen; omega)
          clear hyes hno hok
          go_wp2_with fail
          refine (cF _ iG8).mono ?_
          rintro e w10 ⟨rfl, g10⟩
          go_wp2_with fail
          go_ret
          exact ⟨rfl, below_of_none (gr_trans g9 g10)⟩
      · skip
        clear cS cA cM hNM
        refine (cHs _ F).mono ?_
        rintro e w5 ⟨aw, cw, rfl, oW, g5⟩
        have HW := Has.fresh w5 37 #[.int .i64 kd, .int .i64 sq, .slice aw vs.length cw]
        have a5 := World.grownBy_alloc w5 (Obj.cells #[.int .i64 kd, .int .i64 sq, .slice aw vs.length cw] 37) none
        have iW := (oW.kept a5).ints
        have g6 := gr_trans g5 a5
        have HG6 := HG.grown g6 (by simp)
        have iG6 := iG.kept g6
        have g7 := gr_trans g0 g6
        clear g5 a5 oW g6 HG iG cHs F g0
        obtain ⟨x0, x1, x2, _, _, _⟩ := three HG6
        obtain ⟨y0, y1, y2, _, _, _⟩ := three HW
        go_wp2_with fail
        refine (likeFrame kd sq _ _ _ _ vs _ iG6 iW (by unfold maxLen; omega)).mono ?_
        rintro e w8 ⟨rfl, g8⟩
        have HG8 := HG6.grown g8 (by simp)
        have iG8 := iG6.kept g8
        have g9 := gr_trans g7 g8
        clear x0 x1 x2 y0 y1 y2 g8 g7 HG6 iG6 iW HW
        obtain ⟨x0, x1, x2, _, _, _⟩ := three HG8
        cases is
        · obtain rfl := hno rfl
          clear hyes hno
          go_wp2_with fail
          go_ret
          exact ⟨rfl, below_of_none g9⟩
        · obtain ⟨rfl, hok⟩ := hyes rfl
          have cF : ∀ W, Ints W ag vs → Calls Tryd.prog 20 #[fr kd sq ag vs.length cg] W (Ret (.bool true) W) := fun W hW => hok ▸ specFrameOk kd sq ag cg vs W hW (by unfold maxLen; omega)
          clear hyes hno hok
          go_wp2_with fail
          refine (cF _ iG8).mono ?_
          rintro e w10 ⟨rfl, g10⟩
          go_wp2_with fail
          go_ret
          exact ⟨rfl, below_of_none (gr_trans g9 g10)⟩
  · have hd : decide (4096 < n0) = true := by simp; omega
    go_enter Tryd.func4, Tryd.ntmps4
    go_wp2_with (go_at_call 7; refine (cur.big _ _ _ _).mono ?_; rintro e w' ⟨rfl, rfl⟩)
    go_ret
    exact ⟨rfl, Below.refl _ _⟩
end Go.Proofs.YtfobbjimcmjfkaaDoor.stm
