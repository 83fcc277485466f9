/- The draws of chapter 9: whatever the bytes, a fan, a wish, a reading, lists of fans; and nothing that was there is another. -/
import Derived.Test.YtdpoecebjjcicaaFaLst
import Derived.Test.YtdpoecebjjcicaaBncDraw
import Derived.Test.YtdpoecebjjcicaaRdDraw
import Derived.Deep.DeepCutAuto
namespace Go.Proofs.Ytdpoecebjjcicaa.fan
open Go.ChangeShapes Go.WideShapes Go.ChangeAt Go.RowKit
open Go.Proofs.Ytdpoecebjjcicaa.nums Go.Proofs.Ytdpoecebjjcicaa.mem Go.Proofs.Ytdpoecebjjcicaa.cur
open Go.Proofs.Ytdpoecebjjcicaa.rd (three set3 fresh1)
open Go.Proofs.Ytdpoecebjjcicaa.tab (Ret quiet_w wpList_make_has add_off)
set_option linter.unusedVariables false

/-- A draw of a fan from the cursor in block q. -/
def DrawnK (b : Option Addr) (n c : Nat) (w : World) (q : Nat) (e : Ending) (w' : World) : Prop :=
  ∃ (N : Int) (on out : Bool), (-1 ≤ N ∧ N ≤ 101) ∧ e = .returned (.agg #[.int .i64 N, .bool on, .bool out]) ∧ w.grownBy w' (some q) ∧ Cur b n c w' q

set_option maxHeartbeats 2000000 in
theorem draw (b : Option Addr) (n c q : Nat) (w : World) (hn : n ≤ 4096) (h : Cur b n c w q) :
    Calls Try.prog 31 #[.pointer (some ⟨q, 0, none⟩)] w (DrawnK b n c w q) := by
  have hq := h.lt
  have a0 := Has.fresh w 27 #[.int .i64 0, .bool false, .bool false]
  have g0 : w.grownBy (w.alloc (Obj.cells #[.int .i64 0, .bool false, .bool false] 27)) (some q) := World.grownBy_alloc _ _ _
  go_enter Try.func31, Try.ntmps31
  go_wp2_with fail
  refine (bnc.draw b n c q _ hn (h.alloc _)).mono ?_
  rintro e w1 ⟨N, on, ⟨n0, n1⟩, rfl, g1, h1⟩
  replace a0 := a0.grown g1 (fun e => by injection e with e; omega)
  replace g0 := gr_trans g0 g1
  go_wp2_with fail
  refine (once b n c q _ 5 hn h1 (by omega)).mono ?_
  rintro e w2 ⟨out, rfl, g2, h2⟩
  have hlt : w.heap.size < w2.heap.size := by have := (gr_trans g1 g2).size; simp at this; omega
  replace a0 := (a0.grown g2 (fun e => by injection e with e; omega)).alloc (Obj.cells #[.int .i64 N, .bool on, .bool out] 27)
  have a1 := Has.fresh w2 27 #[.int .i64 N, .bool on, .bool out]
  replace g0 := gr_alloc (gr_trans g0 g2) (Obj.cells #[.int .i64 N, .bool on, .bool out] 27)
  have hq2 := h2.lt
  have hcur := h2.alloc (Obj.cells #[.int .i64 N, .bool on, .bool out] 27)
  clear g1 g2 h1 h2
  go_upto_region 2 with fail
  generalize (w2.alloc (Obj.cells #[.int .i64 N, .bool on, .bool out] 27)) = wb at *
  by_cases h5 : 5 < N
  · have hd : decide (5 < N) = true := by simp [h5]
    obtain ⟨d0, d1, d2, e0, e1, e2⟩ := three a1
    go_wp2_with fail
    refine (once b n c q _ 3 hn hcur (by omega)).mono ?_
    rintro e w3 ⟨v, rfl, g3, h3⟩
    replace a0 := a0.grown g3 (fun e => by injection e with e; omega)
    replace a1 := a1.grown g3 (fun e => by injection e with e; omega)
    replace g0 := gr_trans g0 g3
    clear g3 d0 d1 d2 e0 e1 e2 hcur
    cases v
    · skip
      obtain ⟨c0, c1, c2, f0, f1, f2⟩ := three a0
      obtain ⟨d0, d1, d2, e0, e1, e2⟩ := three a1
      have hc3 : Cur b n c (w3.setCell ⟨w2.heap.size, 0, none⟩ (.int .i64 3)) q := h3.kept (row := some w2.heap.size) (gr_set (gr_refl _ _) _ _) (fun r e => by injection e with e; omega)
      replace a0 := a0.set_other (g' := w2.heap.size) (by omega) 0 (.int .i64 3)
      have b1 := a1.put 0 (.int .i64 3) rfl
      replace g0 := gr_new g0 (g := w2.heap.size) (by omega) 0 (.int .i64 3)
      obtain ⟨m0, m1, m2, p0, p1, p2⟩ := three b1
      go_wp2_with fail
      obtain ⟨k0, k1, k2, _, _, _⟩ := three (set3 a0 (.int .i64 3) (.bool on) (.bool out))
      exact bodyPost_ret (v := .agg #[.int .i64 3, .bool on, .bool out]) (by simp [results, Try.results31, go_sem, k0, k1, k2]) rfl ⟨3, on, out, ⟨by omega, by omega⟩, rfl, gr_new (gr_new (gr_new g0 (by omega) _ _) (by omega) _ _) (by omega) _ _, hc3.kept (row := some w.heap.size) (gr_set (gr_set (gr_set (gr_refl _ _) _ _) _ _) _ _) (fun r e => by injection e with e; omega)⟩
    · skip
      obtain ⟨c0, c1, c2, f0, f1, f2⟩ := three a0
      obtain ⟨d0, d1, d2, e0, e1, e2⟩ := three a1
      go_wp2_with fail
      obtain ⟨k0, k1, k2, _, _, _⟩ := three (set3 a0 (.int .i64 N) (.bool on) (.bool out))
      exact bodyPost_ret (v := .agg #[.int .i64 N, .bool on, .bool out]) (by simp [results, Try.results31, go_sem, k0, k1, k2]) rfl ⟨N, on, out, ⟨n0, n1⟩, rfl, gr_new (gr_new (gr_new g0 (by omega) _ _) (by omega) _ _) (by omega) _ _, h3.kept (row := some w.heap.size) (gr_set (gr_set (gr_set (gr_refl _ _) _ _) _ _) _ _) (fun r e => by injection e with e; omega)⟩
  · have hd : decide (5 < N) = false := by simp [h5]
    obtain ⟨c0, c1, c2, f0, f1, f2⟩ := three a0
    obtain ⟨d0, d1, d2, e0, e1, e2⟩ := three a1
    go_wp2_with fail
    obtain ⟨k0, k1, k2, _, _, _⟩ := three (set3 a0 (.int .i64 N) (.bool on) (.bool out))
    exact bodyPost_ret (v := .agg #[.int .i64 N, .bool on, .bool out]) (by simp [results, Try.results31, go_sem, k0, k1, k2]) rfl ⟨N, on, out, ⟨n0, n1⟩, rfl, gr_new (gr_new (gr_new g0 (by omega) _ _) (by omega) _ _) (by omega) _ _, hcur.kept (row := some w.heap.size) (gr_set (gr_set (gr_set (gr_refl _ _) _ _) _ _) _ _) (fun r e => by injection e with e; omega)⟩

/-- All are numbers that a draw gives. -/
def RngL (l : List F) : Prop := ∀ r ∈ l, -1 ≤ r.1 ∧ r.1 ≤ 101
/-- The draw of a list of fans. -/
def DrawnLs (w : World) (e : Ending) (w' : World) : Prop :=
  ∃ (a : Option Addr) (cap : Nat) (l : List F), e = .returned (.slice a l.length cap) ∧ l.length ≤ 8 ∧ w.grownBy w' none ∧ Arg w' a l
theorem row_kept {w w' : World} {base k cap g q : Nat} {e : TypeId} {xs : List Value} (h : w.ownsRow base e 3 (.slice (some ⟨g, 0, none⟩) k cap) k xs) (hg : w.grownBy w' (some q)) (hq : some q ≠ some g) : w'.ownsRow base e 3 (.slice (some ⟨g, 0, none⟩) k cap) k xs := by
  exact h.kept hg (.inr (by simp [Value.ownBlock]; intro e; exact hq (by rw [e])))

set_option maxRecDepth 100000 in
set_option maxHeartbeats 4000000 in
theorem drawOutIn (b : Option Addr) (n c : Nat) (w : World) (hn : n ≤ 4096) (hb : Bytes w w.heap.size b n) :
    Calls Try.prog 11 #[.slice b n c] w (DrawnLs w) := by
  obtain ⟨i0, hi, hz0, hz1, hz2⟩ := info_parts infoFan
  go_enter Try.func11, Try.ntmps11
  go_wp2_with fail
  refine (new b n c _ hn hb).mono ?_
  rintro e w1 ⟨q, rfl, hq, g1, h1⟩
  have hq1 := h1.lt
  have o0 := World.ownsRow_made (base := w1.heap.size) (e := 27) (size := 3) w1 #[] 0 (Nat.le_refl _) (Nat.zero_le _) rfl
  have g2 : w1.grownBy (w1.alloc (Obj.cells #[] 27)) (some q) := World.grownBy_alloc _ _ _
  have h2 := h1.alloc (Obj.cells #[] 27)
  go_wp2_with fail
  generalize (w1.alloc (Obj.cells #[] 27)) = w2 at *
  refine (once b n c q _ 4 hn h2 (by omega)).mono ?_
  rintro e w3 ⟨v, rfl, g3, h3⟩
  go_upto_if 10 with fail
  go_cut [5] (fun x wx => ∃ k : Nat, k ≤ 8 ∧ x = .int .i64 (k : Int) ∧ w2.grownBy wx (some q) ∧ Cur b n c wx q)
  case first =>
    cases v
    · go_wp2_with fail
      go_meet
      exact ⟨6, by omega, rfl, g3, h3⟩
    · go_wp2_with fail
      refine (below b n c q _ 9 hn h3 (by omega)).mono ?_
      rintro e w4 ⟨x, ⟨y0, y1⟩, rfl, g4, h4⟩
      obtain ⟨k, rfl⟩ := Int.eq_ofNat_of_zero_le y0
      go_wp2_with fail
      go_meet
      exact ⟨k, by omega, rfl, gr_trans g3 g4, h4⟩
  case rest =>
    clear g3 h3
    obtain ⟨m, hm, rfl, g3, h3⟩ := hcut
    have o1 := row_kept o0 g3 (by intro e; injection e with e; omega)
    have g4 := gr_trans g2 g3
    clear o0 g2 g3 h2 h1 hb
    go_wp2_with fail
    go_loopw [4, 5] (fun t r wr => ∃ (k g cap : Nat) (l : List F), k ≤ m ∧ r = .int .i64 (k : Int) ∧ t = .slice (some ⟨g, 0, none⟩) l.length cap ∧ l.length + k = m ∧ w1.heap.size ≤ g ∧ wr.ownsRow w1.heap.size 27 3 (.slice (some ⟨g, 0, none⟩) l.length cap) l.length (rowF l) ∧ w1.grownBy wr (some q) ∧ Cur b n c wr q) (fun _ r _ => (intOf r).toNat)
    case atStart => exact ⟨m, _, _, [], Nat.le_refl _, rfl, rfl, by simp, Nat.le_refl _, o1, g4, h3⟩
    case round =>
      clear o1 g4 h3
      obtain ⟨k, g, cap, l, hk, rfl, rfl, hlk, hge, hown, hg, hcur⟩ := hrel
      have HLK := Lib.hid hlk
      have hl : l.length ≤ 1000 := by omega
      clear hlk
      have hsz := hg.size
      by_cases hm0 : 0 < k
      · have hd : decide (0 < (k : Int)) = true := by simp [hm0]
        go_wp2_with fail
        refine (draw b n c q _ hn hcur).mono ?_
        rintro e w5 ⟨N, on, out, hva, rfl, g5, h5⟩
        replace hg := gr_trans hg g5
        replace hown := row_kept hown g5 (by intro e; injection e with e; omega)
        have hsz2 := g5.size
        clear g5 hcur hva
        go_wp2_with (at_builtin; refine wpList_append_lies _ rfl _ _ _ rfl w1.heap.size 27 i0 _ 3 24 Try.underlying33 hi hz0 hz1 hz2 rfl (by omega) (.slice (some ⟨g, 0, none⟩) l.length cap) l.length _ rfl (hown.alloc _) ⟨w5.heap.size, 0, none⟩ 1 1 [.int .i64 N, .bool on, .bool out] rfl rfl (World.news_of_block (cs := #[.int .i64 N, .bool on, .bool out]) (t := 27) (fr := (0, 0)) (heap_alloc_new w5 _)) (by simp [Value.oneCell']) (by omega) (by unfold maxLen; omega) (by omega) (by simp; omega) (w5.heap.size + 1) (by simp) ?_; intro gg cap1 w6 hown3 hgrow hat hlt3)
        have hgw : w5.grownBy w6 (some g) := gr_trans (World.grownBy_alloc _ _ _) hgrow
        have hg03 := gr_past hg hgw hge
        have hc3 : Cur b n c w6 q := h5.kept hgw (fun r e => by injection e with e; omega)
        clear hgrow hgw hown h5
        go_wp2_with fail
        go_roundw
        case rel => exact ⟨k - 1, gg, cap1, l ++ [(N, on, out)], by omega, by congr 1; omega, by simp, by have := HLK.out; simp; omega, by
          rcases hat with hat | hat
          · simp [Value.ownBlock] at hat; omega
          · omega, by rw [rowF_snoc]; simpa using hown3, hg03, hc3⟩
        case measure => simp [intOf]; omega
      · have hd : decide (0 < (k : Int)) = false := by simp; omega
        go_wp2_with fail
        go_ret
        exact ⟨_, cap, l, rfl, by have := HLK.out; omega, gr_past g1 hg hq, arg_of_row hown⟩

end Go.Proofs.Ytdpoecebjjcicaa.fan
