/- The walk of the law of the liar. -/
import Derived.Test.YtpnldabphflgeaaVtVote
import Derived.Test.YtpnldabphflgeaaVtDraw
import Derived.Test.YtpnldabphflgeaaPick
import Derived.Deep.DeepCutAuto
namespace Go.Proofs.Ytpnldabphflgeaa.vt
open Go.ChangeShapes Go.WideShapes Go.ChangeAt Go.RowKit
open Go.Proofs.Ytpnldabphflgeaa.nums Go.Proofs.Ytpnldabphflgeaa.mem Go.Proofs.Ytpnldabphflgeaa.cur Go.Proofs.Ytpnldabphflgeaa.rd
open Go.Proofs.Ytpnldabphflgeaa.tab (Ret quiet_w)
set_option linter.unusedVariables false

theorem fresh_now {x m : Int} (h1 : -1000000 ≤ x) (h2 : x ≤ 1000000) (hm : 0 ≤ m) : fresh (x, 0, true) m = true := by
  have : okR (x, 0, true) = true := okR_iff.2 ⟨⟨h1, h2⟩, by omega, by omega⟩
  unfold fresh; rw [this]; simpa using hm
theorem vote_now {x y z : Int} (hx : -1000000 ≤ x ∧ x ≤ 1000000) (hy : -1000000 ≤ y ∧ y ≤ 1000000) (hz : -1000000 ≤ z ∧ z ≤ 1000000) :
    voteThree [(x, 0, true), (y, 0, true), (z, 0, true)] 3 = (mid x y z, true) := by
  have kx : okR (x, 0, true) = true := okR_iff.2 ⟨hx, by omega, by omega⟩
  have ky : okR (y, 0, true) = true := okR_iff.2 ⟨hy, by omega, by omega⟩
  have kz : okR (z, 0, true) = true := okR_iff.2 ⟨hz, by omega, by omega⟩
  unfold voteThree
  rw [voters_ok (l := [(x, 0, true), (y, 0, true), (z, 0, true)]) (many := 3) rfl (by simp [kx, ky, kz])]
  unfold frv
  simp [fresh_now hx.1 hx.2 (show (0 : Int) ≤ 3 by omega), fresh_now hy.1 hy.2 (show (0 : Int) ≤ 3 by omega), fresh_now hz.1 hz.2 (show (0 : Int) ≤ 3 by omega), v3]
theorem now_arg {W : World} {g : Nat} {x y z : Int} {cs : Array Value} (h : Has W g 37 cs) (e : cs = #[.int .i64 x, .int .i64 0, .bool true, .int .i64 y, .int .i64 0, .bool true, .int .i64 z, .int .i64 0, .bool true]) : Arg W (some ⟨g, 0, none⟩) [(x, 0, true), (y, 0, true), (z, 0, true)] := by
  subst e
  refine OwnR.arg (Or.inr ⟨g, _, rfl, h, fun k hk => ?_⟩)
  obtain rfl | rfl | rfl : k = 0 ∨ k = 1 ∨ k = 2 := by simp at hk; omega
  all_goals exact ⟨rfl, rfl, rfl⟩
theorem set3g {W : World} {g k : Nat} {t : TypeId} {cs cs' : Array Value} {a b d : Value} (h : Has W g t cs) (e : ((cs.setIfInBounds k a).setIfInBounds (k + 1) b).setIfInBounds (k + 2) d = cs') : Has (((W.setCell ⟨g, k, none⟩ a).setCell ⟨g, k + 1, none⟩ b).setCell ⟨g, k + 2, none⟩ d) g t cs' :=
  e ▸ ((h.set k a).set (k + 1) b).set (k + 2) d
theorem nine {W : World} {g : Nat} {t : TypeId} {v0 v1 v2 v3 v4 v5 v6 v7 v8 : Value} (h : Has W g t #[v0, v1, v2, v3, v4, v5, v6, v7, v8]) :
    (W.cell? ⟨g, 0, none⟩ = some v0 ∧ W.cell? ⟨g, 1, none⟩ = some v1 ∧ W.cell? ⟨g, 2, none⟩ = some v2) ∧ (W.cell? ⟨g, 3, none⟩ = some v3 ∧ W.cell? ⟨g, 4, none⟩ = some v4 ∧ W.cell? ⟨g, 5, none⟩ = some v5) ∧ (W.cell? ⟨g, 6, none⟩ = some v6 ∧ W.cell? ⟨g, 7, none⟩ = some v7 ∧ W.cell? ⟨g, 8, none⟩ = some v8) ∧
    (W.frozen? ⟨g, 0, none⟩ = false ∧ W.frozen? ⟨g, 1, none⟩ = false ∧ W.frozen? ⟨g, 2, none⟩ = false) ∧ (W.frozen? ⟨g, 3, none⟩ = false ∧ W.frozen? ⟨g, 4, none⟩ = false ∧ W.frozen? ⟨g, 5, none⟩ = false) ∧ (W.frozen? ⟨g, 6, none⟩ = false ∧ W.frozen? ⟨g, 7, none⟩ = false ∧ W.frozen? ⟨g, 8, none⟩ = false) :=
  ⟨⟨h.cell 0, h.cell 1, h.cell 2⟩, ⟨h.cell 3, h.cell 4, h.cell 5⟩, ⟨h.cell 6, h.cell 7, h.cell 8⟩, ⟨h.frozen 0, h.frozen 1, h.frozen 2⟩, ⟨h.frozen 3, h.frozen 4, h.frozen 5⟩, ⟨h.frozen 6, h.frozen 7, h.frozen 8⟩⟩

set_option maxRecDepth 100000 in
set_option maxHeartbeats 1500000 in
theorem liar (b : Option Addr) (n c : Nat) (w : World) (hb : Bytes w w.heap.size b n) :
    Calls Try.prog 4 #[.slice b n c] w fun e w' => e = .returned (.bool true) ∧ Below w.heap.size w w' := by
  go_enter Try.func4, Try.ntmps4
  go_wp2_with fail
  refine (big b n c w).mono ?_
  rintro e w1 ⟨rfl, rfl⟩
  by_cases hbig : 4096 < n
  · have hd : decide (4096 < n) = true := by simp [hbig]
    go_wp2_with fail
    go_ret
    exact ⟨rfl, Below.refl _ _⟩
  · have hd : decide (4096 < n) = false := by simp [hbig]
    have hn : n ≤ 4096 := by omega
    go_wp2_with fail
    refine (drawMiddle b n c _ hn hb).mono ?_
    rintro e w1 ⟨p, q, r, ⟨p0, p1⟩, ⟨q0, q1⟩, ⟨r0, r1⟩, rfl, g1⟩
    have hb1 := bytes_grown hb g1
    clear hd hbig hb
    go_wp2_with fail
    refine (pick b n c _ 1 900 _ hn hb1 (by omega) (by omega) (by omega) (by omega)).mono ?_
    rintro e w2 ⟨s, s0, s1, rfl, rfl⟩
    by_cases hlt : q < p
    · have hd : decide (q < p) = true := by simp [hlt]
      have H := Has.fresh w1 37 #[.int .i64 p, .int .i64 0, .bool true, .int .i64 q, .int .i64 0, .bool true, .int .i64 q, .int .i64 0, .bool true]
      have g2 := gr_alloc g1 (Obj.cells #[.int .i64 p, .int .i64 0, .bool true, .int .i64 q, .int .i64 0, .bool true, .int .i64 q, .int .i64 0, .bool true] 37)
      have hb2 := bytes_grown hb1 (World.grownBy_alloc w1 (Obj.cells #[.int .i64 p, .int .i64 0, .bool true, .int .i64 q, .int .i64 0, .bool true, .int .i64 q, .int .i64 0, .bool true] 37) none)
      have hw1 := g1.size
      go_wp2_with fail
      refine (pick b n c _ 2 3 _ hn hb2 (by omega) (by omega) (by omega) (by omega)).mono ?_
      rintro e w2 ⟨k, k0, k1, rfl, rfl⟩
      generalize w1.alloc (Obj.cells #[.int .i64 p, .int .i64 0, .bool true, .int .i64 q, .int .i64 0, .bool true, .int .i64 q, .int .i64 0, .bool true] 37) = w2 at *
      obtain ⟨⟨a0, a1, a2⟩, ⟨a3, a4, a5⟩, ⟨a6, a7, a8⟩, ⟨f0, f1, f2⟩, ⟨f3, f4, f5⟩, ⟨f6, f7, f8⟩⟩ := nine H
      clear hb1 hb2 g1
      obtain rfl | rfl | rfl : k = 0 ∨ k = 1 ∨ k = 2 := by omega
      · have hv := vote_now (x := s - 300) (y := q) (z := p) (by omega) (by omega) (by omega)
        have H0 : Has (((w2.setCell ⟨w1.heap.size, 6, none⟩ (.int .i64 (p))).setCell ⟨w1.heap.size, 7, none⟩ (.int .i64 0)).setCell ⟨w1.heap.size, 8, none⟩ (.bool true)) w1.heap.size 37 #[.int .i64 (p), .int .i64 0, .bool true, .int .i64 (q), .int .i64 0, .bool true, .int .i64 (p), .int .i64 0, .bool true] := set3g H rfl
        have H1 : Has ((((((w2.setCell ⟨w1.heap.size, 6, none⟩ (.int .i64 (p))).setCell ⟨w1.heap.size, 7, none⟩ (.int .i64 0)).setCell ⟨w1.heap.size, 8, none⟩ (.bool true)).setCell ⟨w1.heap.size, 0, none⟩ (.int .i64 (s - 300))).setCell ⟨w1.heap.size, 1, none⟩ (.int .i64 0)).setCell ⟨w1.heap.size, 2, none⟩ (.bool true)) w1.heap.size 37 #[.int .i64 (s - 300), .int .i64 0, .bool true, .int .i64 (q), .int .i64 0, .bool true, .int .i64 (p), .int .i64 0, .bool true] := set3g H0 rfl
        have A := now_arg H1 rfl
        have g3 := (show w.grownBy ((((((w2.setCell ⟨w1.heap.size, 6, none⟩ (.int .i64 (p))).setCell ⟨w1.heap.size, 7, none⟩ (.int .i64 0)).setCell ⟨w1.heap.size, 8, none⟩ (.bool true)).setCell ⟨w1.heap.size, 0, none⟩ (.int .i64 (s - 300))).setCell ⟨w1.heap.size, 1, none⟩ (.int .i64 0)).setCell ⟨w1.heap.size, 2, none⟩ (.bool true)) none from gr_new (gr_new (gr_new (gr_new (gr_new (gr_new (g2) hw1 6 _) hw1 7 _) hw1 8 _) hw1 0 _) hw1 1 _) hw1 2 _)
        have hm1 : q ≤ mid (s - 300) (q) (p) := by unfold mid; omega
        have hm2 : mid (s - 300) (q) (p) ≤ p := by unfold mid; omega
        generalize mid (s - 300) (q) (p) = v at *
        go_wp2_with fail
        refine (implVoteThree _ _ _ _ _ A (by simp)).mono ?_
        rw [hv]
        rintro e w5 ⟨rfl, g4⟩
        go_wp2_with fail
        refine (specVoteThree _ _ _ _ _ (A.kept g4) (by simp)).mono ?_
        rw [hv]
        rintro e w6 ⟨rfl, g5⟩
        go_wp2_with fail
        go_ret
        exact ⟨rfl, below_of_none (gr_trans (gr_trans g3 g4) g5)⟩
      · have hv := vote_now (x := p) (y := s - 300) (z := q) (by omega) (by omega) (by omega)
        have H0 : Has (((w2.setCell ⟨w1.heap.size, 6, none⟩ (.int .i64 (q))).setCell ⟨w1.heap.size, 7, none⟩ (.int .i64 0)).setCell ⟨w1.heap.size, 8, none⟩ (.bool true)) w1.heap.size 37 #[.int .i64 (p), .int .i64 0, .bool true, .int .i64 (q), .int .i64 0, .bool true, .int .i64 (q), .int .i64 0, .bool true] := set3g H rfl
        have H1 : Has ((((((w2.setCell ⟨w1.heap.size, 6, none⟩ (.int .i64 (q))).setCell ⟨w1.heap.size, 7, none⟩ (.int .i64 0)).setCell ⟨w1.heap.size, 8, none⟩ (.bool true)).setCell ⟨w1.heap.size, 3, none⟩ (.int .i64 (s - 300))).setCell ⟨w1.heap.size, 4, none⟩ (.int .i64 0)).setCell ⟨w1.heap.size, 5, none⟩ (.bool true)) w1.heap.size 37 #[.int .i64 (p), .int .i64 0, .bool true, .int .i64 (s - 300), .int .i64 0, .bool true, .int .i64 (q), .int .i64 0, .bool true] := set3g H0 rfl
        have A := now_arg H1 rfl
        have g3 := (show w.grownBy ((((((w2.setCell ⟨w1.heap.size, 6, none⟩ (.int .i64 (q))).setCell ⟨w1.heap.size, 7, none⟩ (.int .i64 0)).setCell ⟨w1.heap.size, 8, none⟩ (.bool true)).setCell ⟨w1.heap.size, 3, none⟩ (.int .i64 (s - 300))).setCell ⟨w1.heap.size, 4, none⟩ (.int .i64 0)).setCell ⟨w1.heap.size, 5, none⟩ (.bool true)) none from gr_new (gr_new (gr_new (gr_new (gr_new (gr_new (g2) hw1 6 _) hw1 7 _) hw1 8 _) hw1 3 _) hw1 4 _) hw1 5 _)
        have hm1 : q ≤ mid (p) (s - 300) (q) := by unfold mid; omega
        have hm2 : mid (p) (s - 300) (q) ≤ p := by unfold mid; omega
        generalize mid (p) (s - 300) (q) = v at *
        go_wp2_with fail
        refine (implVoteThree _ _ _ _ _ A (by simp)).mono ?_
        rw [hv]
        rintro e w5 ⟨rfl, g4⟩
        go_wp2_with fail
        refine (specVoteThree _ _ _ _ _ (A.kept g4) (by simp)).mono ?_
        rw [hv]
        rintro e w6 ⟨rfl, g5⟩
        go_wp2_with fail
        go_ret
        exact ⟨rfl, below_of_none (gr_trans (gr_trans g3 g4) g5)⟩
      · have hv := vote_now (x := p) (y := q) (z := s - 300) (by omega) (by omega) (by omega)
        have H0 : Has (((w2.setCell ⟨w1.heap.size, 6, none⟩ (.int .i64 (q))).setCell ⟨w1.heap.size, 7, none⟩ (.int .i64 0)).setCell ⟨w1.heap.size, 8, none⟩ (.bool true)) w1.heap.size 37 #[.int .i64 (p), .int .i64 0, .bool true, .int .i64 (q), .int .i64 0, .bool true, .int .i64 (q), .int .i64 0, .bool true] := set3g H rfl
        have H1 : Has ((((((w2.setCell ⟨w1.heap.size, 6, none⟩ (.int .i64 (q))).setCell ⟨w1.heap.size, 7, none⟩ (.int .i64 0)).setCell ⟨w1.heap.size, 8, none⟩ (.bool true)).setCell ⟨w1.heap.size, 6, none⟩ (.int .i64 (s - 300))).setCell ⟨w1.heap.size, 7, none⟩ (.int .i64 0)).setCell ⟨w1.heap.size, 8, none⟩ (.bool true)) w1.heap.size 37 #[.int .i64 (p), .int .i64 0, .bool true, .int .i64 (q), .int .i64 0, .bool true, .int .i64 (s - 300), .int .i64 0, .bool true] := set3g H0 rfl
        have H2 : Has (((((((((w2.setCell ⟨w1.heap.size, 6, none⟩ (.int .i64 (q))).setCell ⟨w1.heap.size, 7, none⟩ (.int .i64 0)).setCell ⟨w1.heap.size, 8, none⟩ (.bool true)).setCell ⟨w1.heap.size, 6, none⟩ (.int .i64 (s - 300))).setCell ⟨w1.heap.size, 7, none⟩ (.int .i64 0)).setCell ⟨w1.heap.size, 8, none⟩ (.bool true)).setCell ⟨w1.heap.size, 6, none⟩ (.int .i64 (s - 300))).setCell ⟨w1.heap.size, 7, none⟩ (.int .i64 0)).setCell ⟨w1.heap.size, 8, none⟩ (.bool true)) w1.heap.size 37 #[.int .i64 (p), .int .i64 0, .bool true, .int .i64 (q), .int .i64 0, .bool true, .int .i64 (s - 300), .int .i64 0, .bool true] := set3g H1 rfl
        have A := now_arg H2 rfl
        have g3 := (show w.grownBy (((((((((w2.setCell ⟨w1.heap.size, 6, none⟩ (.int .i64 (q))).setCell ⟨w1.heap.size, 7, none⟩ (.int .i64 0)).setCell ⟨w1.heap.size, 8, none⟩ (.bool true)).setCell ⟨w1.heap.size, 6, none⟩ (.int .i64 (s - 300))).setCell ⟨w1.heap.size, 7, none⟩ (.int .i64 0)).setCell ⟨w1.heap.size, 8, none⟩ (.bool true)).setCell ⟨w1.heap.size, 6, none⟩ (.int .i64 (s - 300))).setCell ⟨w1.heap.size, 7, none⟩ (.int .i64 0)).setCell ⟨w1.heap.size, 8, none⟩ (.bool true)) none from gr_new (gr_new (gr_new (gr_new (gr_new (gr_new (gr_new (gr_new (gr_new (g2) hw1 6 _) hw1 7 _) hw1 8 _) hw1 6 _) hw1 7 _) hw1 8 _) hw1 6 _) hw1 7 _) hw1 8 _)
        have hm1 : q ≤ mid (p) (q) (s - 300) := by unfold mid; omega
        have hm2 : mid (p) (q) (s - 300) ≤ p := by unfold mid; omega
        generalize mid (p) (q) (s - 300) = v at *
        go_upto_region 13 with fail
        generalize (((w2.setCell ⟨w1.heap.size, 6, none⟩ (.int .i64 (q))).setCell ⟨w1.heap.size, 7, none⟩ (.int .i64 0)).setCell ⟨w1.heap.size, 8, none⟩ (.bool true)) = w3 at *
        clear a0 a1 a2 a3 a4 a5 a6 a7 a8 f0 f1 f2 f3 f4 f5 f6 f7 f8
        obtain ⟨⟨a0, a1, a2⟩, ⟨a3, a4, a5⟩, ⟨a6, a7, a8⟩, ⟨f0, f1, f2⟩, ⟨f3, f4, f5⟩, ⟨f6, f7, f8⟩⟩ := nine H0
        go_upto_region 14 with fail
        generalize (((w3.setCell ⟨w1.heap.size, 6, none⟩ (.int .i64 (s - 300))).setCell ⟨w1.heap.size, 7, none⟩ (.int .i64 0)).setCell ⟨w1.heap.size, 8, none⟩ (.bool true)) = w4 at *
        clear a0 a1 a2 a3 a4 a5 a6 a7 a8 f0 f1 f2 f3 f4 f5 f6 f7 f8
        obtain ⟨⟨a0, a1, a2⟩, ⟨a3, a4, a5⟩, ⟨a6, a7, a8⟩, ⟨f0, f1, f2⟩, ⟨f3, f4, f5⟩, ⟨f6, f7, f8⟩⟩ := nine H1
        go_wp2_with fail
        refine (implVoteThree _ _ _ _ _ A (by simp)).mono ?_
        rw [hv]
        rintro e w5 ⟨rfl, g4⟩
        go_wp2_with fail
        refine (specVoteThree _ _ _ _ _ (A.kept g4) (by simp)).mono ?_
        rw [hv]
        rintro e w6 ⟨rfl, g5⟩
        go_wp2_with fail
        go_ret
        exact ⟨rfl, below_of_none (gr_trans (gr_trans g3 g4) g5)⟩
    · have hd : decide (q < p) = false := by simp [hlt]
      have H := Has.fresh w1 37 #[.int .i64 p, .int .i64 0, .bool true, .int .i64 q, .int .i64 0, .bool true, .int .i64 q, .int .i64 0, .bool true]
      have g2 := gr_alloc g1 (Obj.cells #[.int .i64 p, .int .i64 0, .bool true, .int .i64 q, .int .i64 0, .bool true, .int .i64 q, .int .i64 0, .bool true] 37)
      have hb2 := bytes_grown hb1 (World.grownBy_alloc w1 (Obj.cells #[.int .i64 p, .int .i64 0, .bool true, .int .i64 q, .int .i64 0, .bool true, .int .i64 q, .int .i64 0, .bool true] 37) none)
      have hw1 := g1.size
      go_wp2_with fail
      refine (pick b n c _ 2 3 _ hn hb2 (by omega) (by omega) (by omega) (by omega)).mono ?_
      rintro e w2 ⟨k, k0, k1, rfl, rfl⟩
      generalize w1.alloc (Obj.cells #[.int .i64 p, .int .i64 0, .bool true, .int .i64 q, .int .i64 0, .bool true, .int .i64 q, .int .i64 0, .bool true] 37) = w2 at *
      obtain ⟨⟨a0, a1, a2⟩, ⟨a3, a4, a5⟩, ⟨a6, a7, a8⟩, ⟨f0, f1, f2⟩, ⟨f3, f4, f5⟩, ⟨f6, f7, f8⟩⟩ := nine H
      clear hb1 hb2 g1
      obtain rfl | rfl | rfl : k = 0 ∨ k = 1 ∨ k = 2 := by omega
      · have hv := vote_now (x := s - 300) (y := q) (z := p) (by omega) (by omega) (by omega)
        have H0 : Has (((w2.setCell ⟨w1.heap.size, 6, none⟩ (.int .i64 (p))).setCell ⟨w1.heap.size, 7, none⟩ (.int .i64 0)).setCell ⟨w1.heap.size, 8, none⟩ (.bool true)) w1.heap.size 37 #[.int .i64 (p), .int .i64 0, .bool true, .int .i64 (q), .int .i64 0, .bool true, .int .i64 (p), .int .i64 0, .bool true] := set3g H rfl
        have H1 : Has ((((((w2.setCell ⟨w1.heap.size, 6, none⟩ (.int .i64 (p))).setCell ⟨w1.heap.size, 7, none⟩ (.int .i64 0)).setCell ⟨w1.heap.size, 8, none⟩ (.bool true)).setCell ⟨w1.heap.size, 0, none⟩ (.int .i64 (s - 300))).setCell ⟨w1.heap.size, 1, none⟩ (.int .i64 0)).setCell ⟨w1.heap.size, 2, none⟩ (.bool true)) w1.heap.size 37 #[.int .i64 (s - 300), .int .i64 0, .bool true, .int .i64 (q), .int .i64 0, .bool true, .int .i64 (p), .int .i64 0, .bool true] := set3g H0 rfl
        have A := now_arg H1 rfl
        have g3 := (show w.grownBy ((((((w2.setCell ⟨w1.heap.size, 6, none⟩ (.int .i64 (p))).setCell ⟨w1.heap.size, 7, none⟩ (.int .i64 0)).setCell ⟨w1.heap.size, 8, none⟩ (.bool true)).setCell ⟨w1.heap.size, 0, none⟩ (.int .i64 (s - 300))).setCell ⟨w1.heap.size, 1, none⟩ (.int .i64 0)).setCell ⟨w1.heap.size, 2, none⟩ (.bool true)) none from gr_new (gr_new (gr_new (gr_new (gr_new (gr_new (g2) hw1 6 _) hw1 7 _) hw1 8 _) hw1 0 _) hw1 1 _) hw1 2 _)
        have hm1 : p ≤ mid (s - 300) (q) (p) := by unfold mid; omega
        have hm2 : mid (s - 300) (q) (p) ≤ q := by unfold mid; omega
        generalize mid (s - 300) (q) (p) = v at *
        go_wp2_with fail
        refine (implVoteThree _ _ _ _ _ A (by simp)).mono ?_
        rw [hv]
        rintro e w5 ⟨rfl, g4⟩
        go_wp2_with fail
        refine (specVoteThree _ _ _ _ _ (A.kept g4) (by simp)).mono ?_
        rw [hv]
        rintro e w6 ⟨rfl, g5⟩
        go_wp2_with fail
        go_ret
        exact ⟨rfl, below_of_none (gr_trans (gr_trans g3 g4) g5)⟩
      · have hv := vote_now (x := p) (y := s - 300) (z := q) (by omega) (by omega) (by omega)
        have H0 : Has (((w2.setCell ⟨w1.heap.size, 6, none⟩ (.int .i64 (q))).setCell ⟨w1.heap.size, 7, none⟩ (.int .i64 0)).setCell ⟨w1.heap.size, 8, none⟩ (.bool true)) w1.heap.size 37 #[.int .i64 (p), .int .i64 0, .bool true, .int .i64 (q), .int .i64 0, .bool true, .int .i64 (q), .int .i64 0, .bool true] := set3g H rfl
        have H1 : Has ((((((w2.setCell ⟨w1.heap.size, 6, none⟩ (.int .i64 (q))).setCell ⟨w1.heap.size, 7, none⟩ (.int .i64 0)).setCell ⟨w1.heap.size, 8, none⟩ (.bool true)).setCell ⟨w1.heap.size, 3, none⟩ (.int .i64 (s - 300))).setCell ⟨w1.heap.size, 4, none⟩ (.int .i64 0)).setCell ⟨w1.heap.size, 5, none⟩ (.bool true)) w1.heap.size 37 #[.int .i64 (p), .int .i64 0, .bool true, .int .i64 (s - 300), .int .i64 0, .bool true, .int .i64 (q), .int .i64 0, .bool true] := set3g H0 rfl
        have A := now_arg H1 rfl
        have g3 := (show w.grownBy ((((((w2.setCell ⟨w1.heap.size, 6, none⟩ (.int .i64 (q))).setCell ⟨w1.heap.size, 7, none⟩ (.int .i64 0)).setCell ⟨w1.heap.size, 8, none⟩ (.bool true)).setCell ⟨w1.heap.size, 3, none⟩ (.int .i64 (s - 300))).setCell ⟨w1.heap.size, 4, none⟩ (.int .i64 0)).setCell ⟨w1.heap.size, 5, none⟩ (.bool true)) none from gr_new (gr_new (gr_new (gr_new (gr_new (gr_new (g2) hw1 6 _) hw1 7 _) hw1 8 _) hw1 3 _) hw1 4 _) hw1 5 _)
        have hm1 : p ≤ mid (p) (s - 300) (q) := by unfold mid; omega
        have hm2 : mid (p) (s - 300) (q) ≤ q := by unfold mid; omega
        generalize mid (p) (s - 300) (q) = v at *
        go_wp2_with fail
        refine (implVoteThree _ _ _ _ _ A (by simp)).mono ?_
        rw [hv]
        rintro e w5 ⟨rfl, g4⟩
        go_wp2_with fail
        refine (specVoteThree _ _ _ _ _ (A.kept g4) (by simp)).mono ?_
        rw [hv]
        rintro e w6 ⟨rfl, g5⟩
        go_wp2_with fail
        go_ret
        exact ⟨rfl, below_of_none (gr_trans (gr_trans g3 g4) g5)⟩
      · have hv := vote_now (x := p) (y := q) (z := s - 300) (by omega) (by omega) (by omega)
        have H0 : Has (((w2.setCell ⟨w1.heap.size, 6, none⟩ (.int .i64 (q))).setCell ⟨w1.heap.size, 7, none⟩ (.int .i64 0)).setCell ⟨w1.heap.size, 8, none⟩ (.bool true)) w1.heap.size 37 #[.int .i64 (p), .int .i64 0, .bool true, .int .i64 (q), .int .i64 0, .bool true, .int .i64 (q), .int .i64 0, .bool true] := set3g H rfl
        have H1 : Has ((((((w2.setCell ⟨w1.heap.size, 6, none⟩ (.int .i64 (q))).setCell ⟨w1.heap.size, 7, none⟩ (.int .i64 0)).setCell ⟨w1.heap.size, 8, none⟩ (.bool true)).setCell ⟨w1.heap.size, 6, none⟩ (.int .i64 (s - 300))).setCell ⟨w1.heap.size, 7, none⟩ (.int .i64 0)).setCell ⟨w1.heap.size, 8, none⟩ (.bool true)) w1.heap.size 37 #[.int .i64 (p), .int .i64 0, .bool true, .int .i64 (q), .int .i64 0, .bool true, .int .i64 (s - 300), .int .i64 0, .bool true] := set3g H0 rfl
        have H2 : Has (((((((((w2.setCell ⟨w1.heap.size, 6, none⟩ (.int .i64 (q))).setCell ⟨w1.heap.size, 7, none⟩ (.int .i64 0)).setCell ⟨w1.heap.size, 8, none⟩ (.bool true)).setCell ⟨w1.heap.size, 6, none⟩ (.int .i64 (s - 300))).setCell ⟨w1.heap.size, 7, none⟩ (.int .i64 0)).setCell ⟨w1.heap.size, 8, none⟩ (.bool true)).setCell ⟨w1.heap.size, 6, none⟩ (.int .i64 (s - 300))).setCell ⟨w1.heap.size, 7, none⟩ (.int .i64 0)).setCell ⟨w1.heap.size, 8, none⟩ (.bool true)) w1.heap.size 37 #[.int .i64 (p), .int .i64 0, .bool true, .int .i64 (q), .int .i64 0, .bool true, .int .i64 (s - 300), .int .i64 0, .bool true] := set3g H1 rfl
        have A := now_arg H2 rfl
        have g3 := (show w.grownBy (((((((((w2.setCell ⟨w1.heap.size, 6, none⟩ (.int .i64 (q))).setCell ⟨w1.heap.size, 7, none⟩ (.int .i64 0)).setCell ⟨w1.heap.size, 8, none⟩ (.bool true)).setCell ⟨w1.heap.size, 6, none⟩ (.int .i64 (s - 300))).setCell ⟨w1.heap.size, 7, none⟩ (.int .i64 0)).setCell ⟨w1.heap.size, 8, none⟩ (.bool true)).setCell ⟨w1.heap.size, 6, none⟩ (.int .i64 (s - 300))).setCell ⟨w1.heap.size, 7, none⟩ (.int .i64 0)).setCell ⟨w1.heap.size, 8, none⟩ (.bool true)) none from gr_new (gr_new (gr_new (gr_new (gr_new (gr_new (gr_new (gr_new (gr_new (g2) hw1 6 _) hw1 7 _) hw1 8 _) hw1 6 _) hw1 7 _) hw1 8 _) hw1 6 _) hw1 7 _) hw1 8 _)
        have hm1 : p ≤ mid (p) (q) (s - 300) := by unfold mid; omega
        have hm2 : mid (p) (q) (s - 300) ≤ q := by unfold mid; omega
        generalize mid (p) (q) (s - 300) = v at *
        go_upto_region 13 with fail
        generalize (((w2.setCell ⟨w1.heap.size, 6, none⟩ (.int .i64 (q))).setCell ⟨w1.heap.size, 7, none⟩ (.int .i64 0)).setCell ⟨w1.heap.size, 8, none⟩ (.bool true)) = w3 at *
        clear a0 a1 a2 a3 a4 a5 a6 a7 a8 f0 f1 f2 f3 f4 f5 f6 f7 f8
        obtain ⟨⟨a0, a1, a2⟩, ⟨a3, a4, a5⟩, ⟨a6, a7, a8⟩, ⟨f0, f1, f2⟩, ⟨f3, f4, f5⟩, ⟨f6, f7, f8⟩⟩ := nine H0
        go_upto_region 14 with fail
        generalize (((w3.setCell ⟨w1.heap.size, 6, none⟩ (.int .i64 (s - 300))).setCell ⟨w1.heap.size, 7, none⟩ (.int .i64 0)).setCell ⟨w1.heap.size, 8, none⟩ (.bool true)) = w4 at *
        clear a0 a1 a2 a3 a4 a5 a6 a7 a8 f0 f1 f2 f3 f4 f5 f6 f7 f8
        obtain ⟨⟨a0, a1, a2⟩, ⟨a3, a4, a5⟩, ⟨a6, a7, a8⟩, ⟨f0, f1, f2⟩, ⟨f3, f4, f5⟩, ⟨f6, f7, f8⟩⟩ := nine H1
        go_wp2_with fail
        refine (implVoteThree _ _ _ _ _ A (by simp)).mono ?_
        rw [hv]
        rintro e w5 ⟨rfl, g4⟩
        go_wp2_with fail
        refine (specVoteThree _ _ _ _ _ (A.kept g4) (by simp)).mono ?_
        rw [hv]
        rintro e w6 ⟨rfl, g5⟩
        go_wp2_with fail
        go_ret
        exact ⟨rfl, below_of_none (gr_trans (gr_trans g3 g4) g5)⟩
end Go.Proofs.Ytpnldabphflgeaa.vt
