/- The draws of chapter 11, continued: a fan, a case and a demand, a list of numbers. -/
import Derived.Test.YtekglhikojondaaDoorShDraw
namespace Go.Proofs.YtekglhikojondaaDoor.sh
open Go.ChangeShapes Go.WideShapes Go.ChangeAt Go.RowKit
open Go.Proofs.YtekglhikojondaaDoor.nums Go.Proofs.YtekglhikojondaaDoor.mem Go.Proofs.YtekglhikojondaaDoor.cur
open Go.Proofs.YtekglhikojondaaDoor.il (nth Own IRow vals vals_snoc gr_own row_base infoInt blk)
set_option linter.unusedVariables false

theorem drawWeightsOf (b : Option Addr) (n c : Nat) (w : World) (hn : n ≤ 4096) (hb : Bytes w w.heap.size b n) :
    Calls Tryd.prog 22 #[.slice b n c] w fun e w' => ∃ x : Int, (-1 ≤ x ∧ x ≤ 6) ∧ e = .returned (.int .i64 x) ∧ w.grownBy w' none := by
  go_enter Tryd.func22, Tryd.ntmps22
  go_wp2_with fail
  refine (new b n c _ hn hb).mono ?_
  rintro e w1 ⟨q, rfl, hq, g1, h1⟩
  go_wp2_with fail
  refine (from_ b n c q _ _ _ hn h1 (by omega) (by omega) (by omega) (by omega)).mono ?_
  rintro e w2 ⟨x, hx, rfl, g2, h2⟩
  go_wp2_with fail
  go_ret
  exact ⟨x, hx, rfl, gr_past g1 g2 hq⟩

set_option maxHeartbeats 1000000 in
theorem drawShared (b : Option Addr) (n c : Nat) (w : World) (hn : n ≤ 4096) (hb : Bytes w w.heap.size b n) :
    Calls Tryd.prog 10 #[.slice b n c] w fun e w' => ∃ k l r p : Int, (-1 ≤ k ∧ k ≤ 8) ∧ In64 l ∧ In64 r ∧ In64 p ∧ e = .returned (.tuple #[.int .i64 k, dem l r p]) ∧ w.grownBy w' none := by
  have a0 := Has.fresh w 25 #[.int .i64 0, .int .i64 0, .int .i64 0]
  have g0 : w.grownBy (w.alloc (Obj.cells #[.int .i64 0, .int .i64 0, .int .i64 0] 25)) none := World.grownBy_alloc _ _ _
  have hb0 : Bytes (w.alloc (Obj.cells #[.int .i64 0, .int .i64 0, .int .i64 0] 25)) (w.alloc (Obj.cells #[.int .i64 0, .int .i64 0, .int .i64 0] 25)).heap.size b n := (hb.below (Nat.le_refl _) ((Below.refl _ _).alloc (Nat.le_refl _) _)).more (by simp)
  go_enter Tryd.func10, Tryd.ntmps10
  go_wp2_with fail
  refine (new b n c _ hn hb0).mono ?_
  rintro e w1 ⟨q, rfl, hq, g1, h1⟩
  have hq' : w.heap.size < q := by simp at hq; omega
  replace a0 := a0.grown g1 (by simp)
  replace g0 := gr_trans g0 g1
  go_wp2_with fail
  refine (from_ b n c q _ _ _ hn h1 (by omega) (by omega) (by omega) (by omega)).mono ?_
  rintro e w2 ⟨k, hk, rfl, g2, h2⟩
  replace a0 := a0.grown g2 (fun e => by injection e with e; omega)
  replace g0 := gr_past g0 g2 (by omega)
  go_wp2_with fail
  refine (drawDemand b n c q _ hn h2).mono ?_
  rintro e w3 ⟨l, r, p, i1, i2, i3, rfl, g3, h3⟩
  replace a0 := a0.grown g3 (fun e => by injection e with e; omega)
  replace g0 := gr_past g0 g3 (by omega)
  obtain ⟨c0, c1, c2, f0, f1, f2⟩ := three a0
  go_wp2_with fail
  obtain ⟨k0, k1, k2, _, _, _⟩ := three (set3 a0 (.int .i64 l) (.int .i64 r) (.int .i64 p))
  exact bodyPost_ret (v := .tuple #[.int .i64 k, dem l r p]) (by simp [results, Tryd.results10, go_sem, k0, k1, k2]) rfl ⟨k, l, r, p, hk, i1, i2, i3, rfl, gr_new (gr_new (gr_new g0 (Nat.le_refl _) _ _) (Nat.le_refl _) _ _) (Nat.le_refl _) _ _⟩

/-- The draw of a list of numbers: it lies in memory of its own. -/
def DrawnL (w : World) (e : Ending) (w' : World) : Prop :=
  ∃ (a : Option Addr) (cap : Nat) (l : List Int), e = .returned (.slice a l.length cap) ∧ l.length ≤ 8 ∧ w.grownBy w' none ∧ Own w' a l ∧ (∀ x, blk a l = some x → w.heap.size ≤ x) ∧ ∀ j, 0 < j → j < l.length → 0 ≤ nth l j ∧ nth l j ≤ 1000

theorem own_set {cs : Array Value} {l : List Int} {v : Int} (hj : ∀ k, k < l.length → cs[0 + k]? = some (.int .i64 (nth l k))) (hcs : 0 < cs.size) (j : Nat) (h : j < (l.set 0 v).length) : (cs.setIfInBounds 0 (.int .i64 v))[0 + j]? = some (.int .i64 (nth (l.set 0 v) j)) := by
  rw [List.length_set] at h
  by_cases e : j = 0
  · subst e
    rw [Nat.zero_add, Array.getElem?_setIfInBounds_self_of_lt hcs]
    unfold nth; simp [List.getD, h]
  · rw [Array.getElem?_setIfInBounds_ne (by omega), hj j h]
    unfold nth; simp [List.getD, Ne.symm e]

set_option maxRecDepth 100000 in
set_option maxHeartbeats 4000000 in
theorem drawReached (b : Option Addr) (n c : Nat) (w : World) (hn : n ≤ 4096) (hb : Bytes w w.heap.size b n) :
    Calls Tryd.prog 21 #[.slice b n c] w (DrawnL w) := by
  obtain ⟨i0, hi, hz0, hz1, hz2⟩ := info_parts infoInt
  go_enter Tryd.func21, Tryd.ntmps21
  go_wp2_with fail
  refine (new b n c _ hn hb).mono ?_
  rintro e w1 ⟨q, rfl, hq, g1, h1⟩
  have hq1 := h1.lt
  have o0 := World.ownsRow_made (base := w1.heap.size) (e := 2) (size := 1) w1 #[] 0 (Nat.le_refl _) (Nat.zero_le _) rfl
  have g2 : w1.grownBy (w1.alloc (Obj.cells #[] 2)) (some q) := World.grownBy_alloc _ _ _
  have h2 := h1.alloc (Obj.cells #[] 2)
  have hs1 : w.heap.size ≤ w1.heap.size := g1.size
  go_wp2_with fail
  generalize (w1.alloc (Obj.cells #[] 2)) = w2 at *
  refine (once b n c q _ 14 hn h2 (by omega)).mono ?_
  rintro e w3 ⟨v, rfl, g3, h3⟩
  go_upto_if 10 with fail
  go_cut [5] (fun x wx => ∃ k : Nat, k ≤ 8 ∧ x = .int .i64 (k : Int) ∧ w2.grownBy wx (some q) ∧ Cur b n c wx q)
  case first =>
    cases v
    · go_wp2_with fail
      go_meet
      exact ⟨6, by omega, rfl, g3, h3⟩
    · go_wp2_with fail
      refine (below b n c q _ 8 hn h3 (by omega)).mono ?_
      rintro e w4 ⟨x, ⟨y0, y1⟩, rfl, g4, h4⟩
      obtain ⟨k, rfl⟩ := Int.eq_ofNat_of_zero_le y0
      go_wp2_with fail
      go_meet
      exact ⟨k, by omega, rfl, gr_trans g3 g4, h4⟩
  case rest =>
    clear g3 h3
    obtain ⟨m, hm, rfl, g3, h3⟩ := hcut
    have o1 := o0.kept g3 (.inr (by simp [Value.ownBlock]; omega))
    have g4 := gr_trans g2 g3
    clear o0 g2 g3 h2 h1 hb
    go_wp2_with fail
    go_loopw [4, 5] (fun t r wr => ∃ (k cap g : Nat) (l : List Int), k ≤ m ∧ r = .int .i64 (k : Int) ∧ t = .slice (some ⟨g, 0, none⟩) l.length cap ∧ Hid (l.length + k = m) ∧ l.length ≤ 8 ∧ w1.heap.size ≤ g ∧ Hid (∀ n ∈ l, 0 ≤ n ∧ n ≤ 1000) ∧ IRow wr w1.heap.size (.slice (some ⟨g, 0, none⟩) l.length cap) l ∧ w1.grownBy wr (some q) ∧ Cur b n c wr q) (fun _ r _ => (intOf r).toNat)
    case atStart => exact ⟨m, _, _, [], Nat.le_refl _, rfl, rfl, Lib.hid (by simp), by simp, Nat.le_refl _, Lib.hid (by simp), o1, g4, h3⟩
    case round =>
      clear o1 g4 h3
      obtain ⟨k, cap, g, l, hk, rfl, rfl, hlk, hl8, hgB, hr, hown, hg, hcur⟩ := hrel
      have hsz := hg.size
      have hqg : q ≠ g := by omega
      by_cases hm0 : 0 < k
      · have hd : decide (0 < (k : Int)) = true := by simp [hm0]
        go_wp2_with fail
        refine (below b n c q _ 1001 hn hcur (by omega)).mono ?_
        rintro e w5 ⟨x, ⟨x0, x1⟩, rfl, g5, h5⟩
        replace hg := gr_trans hg g5
        replace hown := hown.kept g5 (.inr (by simp [Value.ownBlock]; omega))
        have hsz2 := g5.size
        clear g5 hcur
        go_wp2_with (at_builtin; refine wpList_append_lies _ rfl _ _ _ rfl w1.heap.size 2 i0 _ 1 8 Tryd.underlying28 hi hz0 hz1 hz2 rfl (by omega) (.slice (some ⟨g, 0, none⟩) l.length cap) l.length _ rfl (hown.alloc _) ⟨w5.heap.size, 0, none⟩ 1 1 [.int .i64 x] rfl rfl (World.news_of_block (cs := #[.int .i64 x]) (t := 2) (fr := (0, 0)) (heap_alloc_new w5 _)) (by simp [Value.oneCell']) (by omega) (by unfold maxLen; omega) (by omega) (by simp; omega) (w5.heap.size + 1) (by simp) ?_; intro gg cap1 w6 hown3 hgrow hat hlt3)
        have hgw : w5.grownBy w6 (some g) := gr_trans (World.grownBy_alloc _ _ _) hgrow
        have hg03 := gr_past hg hgw hgB
        have hc3 : Cur b n c w6 q := h5.kept hgw (fun r e => by injection e with e; omega)
        clear hgrow hgw hown h5
        go_wp2_with fail
        go_roundw
        case rel => exact ⟨k - 1, cap1, gg, l ++ [x], by omega, by congr 1; omega, by simp, Lib.hid (by have := hlk.out; simp; omega), by have := hlk.out; simp; omega, by
          rcases hat with hat | hat
          · simp [Value.ownBlock] at hat; omega
          · omega, Lib.hid (fun y hy => by
          rcases List.mem_append.1 hy with hy | hy
          · exact hr.out y hy
          · obtain rfl := List.mem_singleton.1 hy
            omega), by unfold IRow; rw [vals_snoc]; simpa using hown3, hg03, hc3⟩
        case measure => simp [intOf]; omega
      · have hd : decide (0 < (k : Int)) = false := by simp; omega
        have hg1 := gr_past g1 hg hq
        by_cases h0 : 0 < l.length
        · obtain ⟨G, o, cs, eG, hc, hj⟩ := (il.IRow.own hown).resolve_left (by intro e; rw [e] at h0; simp at h0)
          injection eG with eG
          injection eG with eG1 eG2
          subst eG1 eG2
          have hd0 : decide (0 < (l.length : Int)) = true := decide_eq_true (by omega)
          have hb1 : w.heap.size ≤ g := by omega
          clear hown
          go_wp2_with fail
          refine (once b n c q _ 14 hn hcur (by omega)).mono ?_
          rintro e w5 ⟨v, rfl, g5, h5⟩
          replace hc := hc.grown g5 (fun e => by injection e with e; omega)
          replace hg1 := gr_past hg1 g5 hq
          cases v
          · go_wp2_with fail
            go_ret
            exact ⟨_, cap, l, rfl, hl8, hg1, Or.inr ⟨_, 0, cs, rfl, hc, hj⟩, fun x e => by rw [il.blk_some (by intro e2; rw [e2] at h0; simp at h0)] at e; injection e with e; omega, fun j _ hj => hr.out _ (il.nth_mem hj)⟩
          · go_wp2_with fail
            have hT := Has.fresh w5 2 #[.int .i64 (-1), .int .i64 1001]
            have hc1 := hc.alloc (Obj.cells #[.int .i64 (-1), .int .i64 1001] 2)
            replace hg1 := gr_alloc hg1 (Obj.cells #[.int .i64 (-1), .int .i64 1001] 2)
            refine (below b n c q _ 2 hn (h5.alloc _) (by omega)).mono ?_
            rintro e w6 ⟨x, ⟨x0, x1⟩, rfl, g6, h6⟩
            have hq5 := h5.lt
            replace hT := hT.grown g6 (fun e => by injection e with e; omega)
            replace hc := hc1.grown g6 (fun e => by injection e with e; omega)
            replace hg1 := gr_past hg1 g6 hq
            clear hc1 g6 h5 h6
            generalize w5.heap.size = Y at *
            have d0 := (hc.cell 0).trans (by have := hj 0 h0; simpa using this)
            have f0 := hc.frozen 0
            have hcs : 0 < cs.size := by have := hj 0 h0; exact Nat.lt_of_le_of_lt (Nat.zero_le _) (Array.getElem?_eq_some_iff.1 this).1
            have hx : x = 0 ∨ x = 1 := by omega
            clear x0 x1
            rcases hx with rfl | rfl
            · skip
              obtain ⟨t0, t1, _, _⟩ := two hT
              go_wp2_with fail
              go_ret
              refine ⟨_, cap, l.set 0 (-1), by rw [List.length_set]; rfl, by rw [List.length_set]; exact hl8, gr_new hg1 hb1 _ _, Or.inr ⟨_, 0, _, rfl, hc.set 0 (.int .i64 (-1)), fun j hj' => own_set hj hcs j hj'⟩, fun x e => ?_, fun j h0j hj' => ?_⟩
              · rw [il.blk_some (by intro e2; have := congrArg List.length e2; simp at this; rw [this] at h0; simp at h0)] at e; injection e with e; omega
              · rw [List.length_set] at hj'
                rw [show nth (l.set 0 (-1)) j = nth l j by unfold nth List.getD; rw [List.getElem?_set_ne (by omega)]]
                exact hr.out _ (il.nth_mem hj')
            · skip
              obtain ⟨t0, t1, _, _⟩ := two hT
              go_wp2_with fail
              go_ret
              refine ⟨_, cap, l.set 0 (1001), by rw [List.length_set]; rfl, by rw [List.length_set]; exact hl8, gr_new hg1 hb1 _ _, Or.inr ⟨_, 0, _, rfl, hc.set 0 (.int .i64 (1001)), fun j hj' => own_set hj hcs j hj'⟩, fun x e => ?_, fun j h0j hj' => ?_⟩
              · rw [il.blk_some (by intro e2; have := congrArg List.length e2; simp at this; rw [this] at h0; simp at h0)] at e; injection e with e; omega
              · rw [List.length_set] at hj'
                rw [show nth (l.set 0 (1001)) j = nth l j by unfold nth List.getD; rw [List.getElem?_set_ne (by omega)]]
                exact hr.out _ (il.nth_mem hj')
        · have hd0 : decide (0 < (l.length : Int)) = false := decide_eq_false (by omega)
          go_wp2_with fail
          go_ret
          exact ⟨_, cap, l, rfl, hl8, hg1, il.IRow.own hown, fun x e => Nat.le_trans hs1 (il.IRow.above hown e), fun j _ hj => hr.out _ (il.nth_mem hj)⟩
end Go.Proofs.YtekglhikojondaaDoor.sh
