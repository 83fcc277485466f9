/- The draws of chapter 12: whatever the bytes, a demand and a speed, a mode and a speed, two lists and a step; and nothing that was there is another. -/
import Derived.Test.YtgclhjfjoiiclaaShDraw
import Derived.Test.YtgclhjfjoiiclaaBl
import Derived.Test.YtgclhjfjoiiclaaIl
import Derived.Deep.DeepCutAuto
import Derived.Deep.AppendLies
import Derived.Deep.RegionHeld3
namespace Go.Proofs.Ytgclhjfjoiiclaa.bl
open Go.ChangeShapes Go.WideShapes Go.ChangeAt Go.RowKit
open Go.Proofs.Ytgclhjfjoiiclaa.nums Go.Proofs.Ytgclhjfjoiiclaa.mem Go.Proofs.Ytgclhjfjoiiclaa.cur
open Go.Proofs.Ytgclhjfjoiiclaa.sh (dem three set3 drawDemand)
open Go.Proofs.Ytgclhjfjoiiclaa.il (nth Own IRow vals vals_snoc gr_own row_base infoInt blk)
set_option linter.unusedVariables false

theorem hold3 {w : World} {g : Nat} {t : TypeId} {l r p : Int} (h : Has w g t #[.int .i64 l, .int .i64 r, .int .i64 p]) : w.cell? ⟨g, 0, none⟩ = some (.int .i64 l) ∧ w.cell? ⟨g, 1, none⟩ = some (.int .i64 r) ∧ w.cell? ⟨g, 2, none⟩ = some (.int .i64 p) := ⟨h.cell 0, h.cell 1, h.cell 2⟩

set_option maxHeartbeats 2000000 in
theorem drawBlended (b : Option Addr) (n c : Nat) (w : World) (hn : n ≤ 4096) (hb : Bytes w w.heap.size b n) :
    Calls Try.prog 10 #[.slice b n c] w fun e w' => ∃ l r p s : Int, (In64 l ∧ In64 r ∧ In64 p) ∧ (0 ≤ s ∧ s < 300) ∧ e = .returned (.tuple #[dem l r p, .int .i64 s]) ∧ w.grownBy w' none := by
  have a0 := Has.fresh w 25 #[.int .i64 0, .int .i64 0, .int .i64 0]
  have g0 : w.grownBy (w.alloc (Obj.cells #[.int .i64 0, .int .i64 0, .int .i64 0] 25)) none := World.grownBy_alloc _ _ _
  have hb0 : Bytes (w.alloc (Obj.cells #[.int .i64 0, .int .i64 0, .int .i64 0] 25)) (w.alloc (Obj.cells #[.int .i64 0, .int .i64 0, .int .i64 0] 25)).heap.size b n := (hb.below (Nat.le_refl _) ((Below.refl _ _).alloc (Nat.le_refl _) _)).more (by simp)
  go_enter Try.func10, Try.ntmps10
  go_wp2_with fail
  refine (new b n c _ hn hb0).mono ?_
  rintro e w1 ⟨q, rfl, hq, g1, h1⟩
  have hq' : w.heap.size < q := by simp at hq; omega
  replace a0 := a0.grown g1 (by simp)
  replace g0 := gr_trans g0 g1
  clear g1 hb0
  go_wp2_with fail
  refine (drawDemand b n c q _ hn h1).mono ?_
  rintro e w2 ⟨l, r, p, i1, i2, i3, rfl, g2, h2⟩
  replace a0 := (a0.grown g2 (fun e => by injection e with e; omega)).alloc (Obj.cells #[.int .i64 l, .int .i64 r, .int .i64 p] 25)
  have a1 := Has.fresh w2 25 #[.int .i64 l, .int .i64 r, .int .i64 p]
  replace g0 := gr_alloc (gr_past g0 g2 (by omega)) (Obj.cells #[.int .i64 l, .int .i64 r, .int .i64 p] 25)
  have hq2 := h2.lt
  have hcur := h2.alloc (Obj.cells #[.int .i64 l, .int .i64 r, .int .i64 p] 25)
  clear g2 h1 h2
  go_upto_region 3 with fail
  generalize hX : w2.heap.size = X at *
  generalize w2.alloc (Obj.cells #[.int .i64 l, .int .i64 r, .int .i64 p] 25) = w3 at *
  have hcd : Cur b n c w3.drew q := hcur
  have E0 : Has w3.drew X 25 #[.int .i64 l, .int .i64 r, .int .i64 p] := a1
  have A0 : Has w3.drew w.heap.size 25 #[.int .i64 0, .int .i64 0, .int .i64 0] := a0
  obtain ⟨c0, c1, c2⟩ := hold3 E0
  go_region_held3 (fun W => W.cell? ⟨X, 0, none⟩ = some (.int .i64 l) ∧ W.cell? ⟨X, 1, none⟩ = some (.int .i64 r) ∧ W.cell? ⟨X, 2, none⟩ = some (.int .i64 p))
    (first | with_reducible exact hold3 E2 | with_reducible exact hold3 E1 | with_reducible exact hold3 E0)
    (first | (go_at_call 32; refine (below b n c q _ 300 hn hcd (by omega)).mono ?_; rintro e w4 ⟨s, hs, rfl, g4, h4⟩; have E1 := E0.grown g4 (fun e => by injection e with e; omega); have A1 := A0.grown g4 (fun e => by injection e with e; omega); obtain ⟨_, _, _, f0, f1, f2⟩ := three A1; obtain ⟨k0, k1, k2⟩ := hold3 A1; have E2 := ((E1.set_other (g' := w.heap.size) (by omega) 0 (.int .i64 l)).set_other (g' := w.heap.size) (by omega) 1 (.int .i64 r)).set_other (g' := w.heap.size) (by omega) 2 (.int .i64 p)))
  obtain ⟨r0, r1, r2⟩ := hold3 (set3 A1 (.int .i64 l) (.int .i64 r) (.int .i64 p))
  have gE := gr_new (gr_new (gr_new (gr_past (gr_drewN g0 1) g4 (by omega)) (Nat.le_refl _) 0 (.int .i64 l)) (Nat.le_refl _) 1 (.int .i64 r)) (Nat.le_refl _) 2 (.int .i64 p)
  clear E0 E1 E2 A0 A1 c0 c1 c2 f0 f1 f2 k0 k1 k2 g4 h4 hcd hcur a0 a1 g0
  go_wp2_with fail
  exact bodyPost_ret (v := .tuple #[dem l r p, .int .i64 s]) (by simp [results, Try.results10, go_sem, r0, r1, r2]) rfl ⟨l, r, p, s, ⟨i1, i2, i3⟩, hs, rfl, gE⟩

theorem drawPushFor (b : Option Addr) (n c : Nat) (w : World) (hn : n ≤ 4096) (hb : Bytes w w.heap.size b n) :
    Calls Try.prog 13 #[.slice b n c] w fun e w' => ∃ m s : Int, e = .returned (.tuple #[.int .i64 m, .int .i64 s]) ∧ w.grownBy w' none := by
  go_enter Try.func13, Try.ntmps13
  go_wp2_with fail
  refine (new b n c _ hn hb).mono ?_
  rintro e w1 ⟨q, rfl, hq, g1, h1⟩
  go_wp2_with fail
  refine (from_ b n c q _ _ _ hn h1 (by omega) (by omega) (by omega) (by omega)).mono ?_
  rintro e w2 ⟨m, hm, rfl, g2, h2⟩
  go_wp2_with fail
  refine (once b n c q _ 2 hn h2 (by omega)).mono ?_
  rintro e w3 ⟨v, rfl, g3, h3⟩
  cases v
  · go_wp2_with fail
    refine (size b n c q _ hn h3).mono ?_
    rintro e w4 ⟨s, hs, rfl, g4, h4⟩
    go_wp2_with fail
    go_ret2
    exact ⟨m, s, rfl, gr_past (gr_past (gr_past g1 g2 hq) g3 hq) g4 hq⟩
  · go_wp2_with fail
    refine (size b n c q _ hn h3).mono ?_
    rintro e w4 ⟨s, hs, rfl, g4, h4⟩
    go_wp2_with fail
    go_ret2
    exact ⟨3, s, rfl, gr_past (gr_past (gr_past g1 g2 hq) g3 hq) g4 hq⟩

/-- All are Outs. -/
def RngO (l : List Int) : Prop := ∀ n ∈ l, 0 ≤ n ∧ n ≤ 1000
/-- So many Outs are drawn from the cursor in block q; they lie in memory of their own. -/
def DrawnO (k : Nat) (b : Option Addr) (n c : Nat) (w : World) (q : Nat) (e : Ending) (w' : World) : Prop :=
  ∃ (a : Option Addr) (cap : Nat) (l : List Int), e = .returned (.slice a l.length cap) ∧ l.length ≤ 8 ∧ RngO l ∧ w.grownBy w' (some q) ∧ Cur b n c w' q ∧ Own w' a l ∧ ∀ x, blk a l = some x → w.heap.size ≤ x

set_option maxRecDepth 100000 in
set_option maxHeartbeats 2000000 in
theorem drawOuts (b : Option Addr) (n c q m : Nat) (w : World) (hn : n ≤ 4096) (h : Cur b n c w q) (hm : m ≤ 8) :
    Calls Try.prog 49 #[.pointer (some ⟨q, 0, none⟩), .int .i64 (m : Int)] w (DrawnO m b n c w q) := by
  obtain ⟨i0, hi, hz0, hz1, hz2⟩ := info_parts infoInt
  have hq := h.lt
  have o0 := World.ownsRow_made (base := w.heap.size) (e := 2) (size := 1) w #[] 0 (Nat.le_refl _) (Nat.zero_le _) rfl
  have g0 : w.grownBy (w.alloc (Obj.cells #[] 2)) (some q) := World.grownBy_alloc _ _ _
  have h0 := h.alloc (Obj.cells #[] 2)
  go_enter Try.func49, Try.ntmps49
  go_wp2_with fail
  go_loopw [1, 5] (fun r t wr => ∃ (k cap g : Nat) (l : List Int), k ≤ m ∧ r = .int .i64 (k : Int) ∧ t = .slice (some ⟨g, 0, none⟩) l.length cap ∧ Hid (l.length + k = m) ∧ l.length ≤ 8 ∧ w.heap.size ≤ g ∧ Hid (RngO l) ∧ IRow wr w.heap.size (.slice (some ⟨g, 0, none⟩) l.length cap) l ∧ w.grownBy wr (some q) ∧ Cur b n c wr q) (fun r _ _ => (intOf r).toNat)
  case atStart => exact ⟨m, _, _, [], Nat.le_refl _, rfl, rfl, Lib.hid (by simp), by simp, Nat.le_refl _, Lib.hid (fun n hn => by simp at hn), o0, g0, h0⟩
  case round =>
    clear o0 g0 h0 h
    obtain ⟨k, cap, g, l, hk, rfl, rfl, hlk, hl8, hgB, hr, hown, hg, hcur⟩ := hrel
    have hsz := hg.size
    have hqg : q ≠ g := by omega
    by_cases hm0 : 0 < k
    · have hd : decide (0 < (k : Int)) = true := by simp [hm0]
      have hl7 : l.length ≤ 7 := by have := hlk.out; omega
      go_wp2_with fail
      refine (below b n c q _ 1001 hn hcur (by omega)).mono ?_
      rintro e w5 ⟨x, ⟨x0, x1⟩, rfl, g5, h5⟩
      replace hg := gr_trans hg g5
      replace hown := hown.kept g5 (.inr (by simp [Value.ownBlock]; omega))
      have hsz2 := g5.size
      clear g5 hcur
      go_wp2_with fail
      refine (once b n c q _ 5 hn h5 (by omega)).mono ?_
      rintro e w6 ⟨v, rfl, g6, h6⟩
      replace hg := gr_trans hg g6
      replace hown := hown.kept g6 (.inr (by simp [Value.ownBlock]; omega))
      replace hsz2 := Nat.le_trans hsz2 g6.size
      clear g6 h5
      cases v
      · go_wp2_with (at_builtin; refine wpList_append_lies _ rfl _ _ _ rfl w.heap.size 2 i0 _ 1 8 Try.underlying34 hi hz0 hz1 hz2 rfl (by omega) (.slice (some ⟨g, 0, none⟩) l.length cap) l.length _ rfl (hown.alloc _) ⟨w6.heap.size, 0, none⟩ 1 1 [.int .i64 x] rfl rfl (World.news_of_block (cs := #[.int .i64 x]) (t := 2) (fr := (0, 0)) (heap_alloc_new w6 _)) (by simp [Value.oneCell']) (by omega) (by unfold maxLen; omega) (by omega) (by simp; omega) (w6.heap.size + 1) (by simp) ?_; intro gg cap1 w7 hown3 hgrow hat hlt3)
        have hgw : w6.grownBy w7 (some g) := gr_trans (World.grownBy_alloc _ _ _) hgrow
        have hg03 : w.grownBy w7 (some q) := gr_past hg hgw hgB
        have hc3 : Cur b n c w7 q := h6.kept hgw (fun r e => by injection e with e; omega)
        clear hgrow hgw hown h6
        go_wp2_with fail
        go_roundw
        case rel => exact ⟨k - 1, cap1, gg, l ++ [x], by omega, by congr 1; omega, by simp, Lib.hid (by have := hlk.out; simp; omega), by simp; omega, by
          rcases hat with hat | hat
          · simp [Value.ownBlock] at hat; omega
          · omega, Lib.hid (fun y hy => by
          rcases List.mem_append.1 hy with hy | hy
          · exact hr.out y hy
          · obtain rfl := List.mem_singleton.1 hy
            omega), by unfold IRow; rw [vals_snoc]; simpa using hown3, hg03, hc3⟩
        case measure => simp [intOf]; omega
      · go_wp2_with (at_builtin; refine wpList_append_lies _ rfl _ _ _ rfl w.heap.size 2 i0 _ 1 8 Try.underlying34 hi hz0 hz1 hz2 rfl (by omega) (.slice (some ⟨g, 0, none⟩) l.length cap) l.length _ rfl (hown.alloc _) ⟨w6.heap.size, 0, none⟩ 1 1 [.int .i64 0] rfl rfl (World.news_of_block (cs := #[.int .i64 0]) (t := 2) (fr := (0, 0)) (heap_alloc_new w6 _)) (by simp [Value.oneCell']) (by omega) (by unfold maxLen; omega) (by omega) (by simp; omega) (w6.heap.size + 1) (by simp) ?_; intro gg cap1 w7 hown3 hgrow hat hlt3)
        have hgw : w6.grownBy w7 (some g) := gr_trans (World.grownBy_alloc _ _ _) hgrow
        have hg03 : w.grownBy w7 (some q) := gr_past hg hgw hgB
        have hc3 : Cur b n c w7 q := h6.kept hgw (fun r e => by injection e with e; omega)
        clear hgrow hgw hown h6
        go_wp2_with fail
        go_roundw
        case rel => exact ⟨k - 1, cap1, gg, l ++ [0], by omega, by congr 1; omega, by simp, Lib.hid (by have := hlk.out; simp; omega), by simp; omega, by
          rcases hat with hat | hat
          · simp [Value.ownBlock] at hat; omega
          · omega, Lib.hid (fun y hy => by
          rcases List.mem_append.1 hy with hy | hy
          · exact hr.out y hy
          · obtain rfl := List.mem_singleton.1 hy
            omega), by unfold IRow; rw [vals_snoc]; simpa using hown3, hg03, hc3⟩
        case measure => simp [intOf]; omega
    · have hd : decide (0 < (k : Int)) = false := by simp; omega
      go_wp2_with fail
      go_ret
      exact ⟨_, cap, l, rfl, hl8, hr.out, hg, hcur, il.IRow.own hown, fun x e => il.IRow.above hown e⟩

/-- Two lists of Outs, and a step. -/
def DrawnS (w : World) (e : Ending) (w' : World) : Prop :=
  ∃ (a : Option Addr) (c1 : Nat) (x : List Int) (b : Option Addr) (c2 : Nat) (y : List Int) (s : Int), e = .returned (.tuple #[.slice a x.length c1, .slice b y.length c2, .int .i64 s]) ∧ (x.length ≤ 8 ∧ y.length ≤ 8) ∧ (RngO x ∧ RngO y) ∧ (-1 ≤ s ∧ s ≤ 200) ∧ Own w' a x ∧ Own w' b y ∧ w.grownBy w' none

set_option maxHeartbeats 2000000 in
theorem drawSlewed (b : Option Addr) (n c : Nat) (w : World) (hn : n ≤ 4096) (hb : Bytes w w.heap.size b n) :
    Calls Try.prog 20 #[.slice b n c] w (DrawnS w) := by
  go_enter Try.func20, Try.ntmps20
  go_wp2_with fail
  refine (new b n c _ hn hb).mono ?_
  rintro e w1 ⟨q, rfl, hq, g1, h1⟩
  go_wp2_with fail
  refine (below b n c q _ 8 hn h1 (by omega)).mono ?_
  rintro e w2 ⟨x, ⟨x0, x1⟩, rfl, g2, h2⟩
  replace g1 := gr_past g1 g2 hq
  clear g2 h1
  go_wp2_with fail
  refine (once b n c q _ 20 hn h2 (by omega)).mono ?_
  rintro e w3 ⟨v, rfl, g3, h3⟩
  replace g1 := gr_past g1 g3 hq
  clear g3 h2
  go_upto_if 14 with fail
  go_cut [6] (fun u wx => ∃ m : Nat, m ≤ 8 ∧ u = .int .i64 (m : Int) ∧ w3 = wx)
  case first =>
    obtain ⟨m, rfl⟩ := Int.eq_ofNat_of_zero_le x0
    cases v
    · go_wp2_with fail
      go_meet
      exact ⟨m, by omega, rfl, rfl⟩
    · go_wp2_with fail
      go_meet
      exact ⟨8, by omega, rfl, rfl⟩
  case rest =>
    obtain ⟨m, hm, rfl, rfl⟩ := hcut
    clear x0 x1
    go_wp2_with fail
    refine (drawOuts b n c q m _ hn h3 hm).mono ?_
    rintro e w4 ⟨a, c1, L, rfl, hL8, hLr, g4, h4, oL, bL⟩
    have hq3 := h3.lt
    have nL : ∀ x, blk a L = some x → some x ≠ some q := fun x hx e => by have := bL x hx; injection e with e; omega
    replace g1 := gr_past g1 g4 hq
    clear g4 h3
    go_wp2_with fail
    refine (drawOuts b n c q m _ hn h4 hm).mono ?_
    rintro e w5 ⟨a2, c2, K, rfl, hK8, hKr, g5, h5, oK, bK⟩
    have hq4 := h4.lt
    have nK : ∀ x, blk a2 K = some x → some x ≠ some q := fun x hx e => by have := bK x hx; injection e with e; omega
    replace oL := oL.grown g5 nL
    replace g1 := gr_past g1 g5 hq
    clear g5 h4
    go_wp2_with fail
    refine (once b n c q _ 14 hn h5 (by omega)).mono ?_
    rintro e w6 ⟨v, rfl, g6, h6⟩
    replace oL := oL.grown g6 nL
    replace oK := oK.grown g6 nK
    replace g1 := gr_past g1 g6 hq
    clear g6 h5
    cases v
    · go_wp2_with fail
      refine (from_ b n c q _ _ _ hn h6 (by omega) (by omega) (by omega) (by omega)).mono ?_
      rintro e w7 ⟨s, hs, rfl, g7, h7⟩
      go_wp2_with fail
      go_ret3
      exact ⟨a, c1, L, a2, c2, K, s, rfl, ⟨hL8, hK8⟩, ⟨hLr, hKr⟩, hs, oL.grown g7 nL, oK.grown g7 nK, gr_past g1 g7 hq⟩
    · clear oK nK bK hKr
      go_wp2_with fail
      refine (below b n c q _ 8 hn h6 (by omega)).mono ?_
      rintro e w7 ⟨x, ⟨x0, x1⟩, rfl, g7, h7⟩
      obtain ⟨m2, rfl⟩ := Int.eq_ofNat_of_zero_le x0
      replace oL := oL.grown g7 nL
      replace g1 := gr_past g1 g7 hq
      clear g7 h6
      go_wp2_with fail
      refine (drawOuts b n c q m2 _ hn h7 (by omega)).mono ?_
      rintro e w8 ⟨a3, c3, J, rfl, hJ8, hJr, g8, h8, oJ, bJ⟩
      have hq7 := h7.lt
      have nJ : ∀ x, blk a3 J = some x → some x ≠ some q := fun x hx e => by have := bJ x hx; injection e with e; omega
      replace oL := oL.grown g8 nL
      replace g1 := gr_past g1 g8 hq
      clear g8 h7
      go_wp2_with fail
      refine (from_ b n c q _ _ _ hn h8 (by omega) (by omega) (by omega) (by omega)).mono ?_
      rintro e w9 ⟨s, hs, rfl, g9, h9⟩
      go_wp2_with fail
      go_ret3
      exact ⟨a, c1, L, a3, c3, J, s, rfl, ⟨hL8, hJ8⟩, ⟨hLr, hJr⟩, hs, oL.grown g9 nL, oJ.grown g9 nJ, gr_past g1 g9 hq⟩
end Go.Proofs.Ytgclhjfjoiiclaa.bl
