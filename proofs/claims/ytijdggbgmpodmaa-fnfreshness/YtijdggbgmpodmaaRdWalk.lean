/- The walk of the law of freshness. -/
import Derived.Test.YtijdggbgmpodmaaRdLike
namespace Go.Proofs.Ytijdggbgmpodmaa.rd
open Go.ChangeShapes Go.WideShapes Go.ChangeAt Go.RowKit
open Go.Proofs.Ytijdggbgmpodmaa.nums Go.Proofs.Ytijdggbgmpodmaa.mem Go.Proofs.Ytijdggbgmpodmaa.cur
open Go.Proofs.Ytijdggbgmpodmaa.tab (Ret)
set_option linter.unusedVariables false

theorem bytes_on {w w' : World} {b : Option Addr} {n : Nat} (h : Bytes w w.heap.size b n) (hg : w.grownBy w' none) : Bytes w' w'.heap.size b n :=
  (h.below (Nat.le_refl _) (below_of_none hg)).more hg.size

/-- Four readings in their boxes. -/
def Four (W : World) (p r q g : Nat) (p1 p2 r1 r2 q1 q2 g1 g2 : Int) (p3 r3 q3 g3 : Bool) : Prop :=
  Has W p 25 #[.int .i64 p1, .int .i64 p2, .bool p3] ∧ Has W r 25 #[.int .i64 r1, .int .i64 r2, .bool r3] ∧ Has W q 25 #[.int .i64 q1, .int .i64 q2, .bool q3] ∧ Has W g 25 #[.int .i64 g1, .int .i64 g2, .bool g3]
theorem Four.kept {W W' : World} {p r q g : Nat} {p1 p2 r1 r2 q1 q2 g1 g2 : Int} {p3 r3 q3 g3 : Bool} (h : Four W p r q g p1 p2 r1 r2 q1 q2 g1 g2 p3 r3 q3 g3) (k : W.grownBy W' none) : Four W' p r q g p1 p2 r1 r2 q1 q2 g1 g2 p3 r3 q3 g3 :=
  ⟨h.1.grown k (by simp), h.2.1.grown k (by simp), h.2.2.1.grown k (by simp), h.2.2.2.grown k (by simp)⟩
theorem Four.cells {W : World} {p r q g : Nat} {p1 p2 r1 r2 q1 q2 g1 g2 : Int} {p3 r3 q3 g3 : Bool} (h : Four W p r q g p1 p2 r1 r2 q1 q2 g1 g2 p3 r3 q3 g3) :
    (W.cell? ⟨p, 0, none⟩ = some (.int .i64 p1) ∧ W.cell? ⟨p, 1, none⟩ = some (.int .i64 p2) ∧ W.cell? ⟨p, 2, none⟩ = some (.bool p3)) ∧ (W.cell? ⟨r, 0, none⟩ = some (.int .i64 r1) ∧ W.cell? ⟨r, 1, none⟩ = some (.int .i64 r2) ∧ W.cell? ⟨r, 2, none⟩ = some (.bool r3)) ∧
    (W.cell? ⟨q, 0, none⟩ = some (.int .i64 q1) ∧ W.cell? ⟨q, 1, none⟩ = some (.int .i64 q2) ∧ W.cell? ⟨q, 2, none⟩ = some (.bool q3)) ∧ (W.cell? ⟨g, 0, none⟩ = some (.int .i64 g1) ∧ W.cell? ⟨g, 1, none⟩ = some (.int .i64 g2) ∧ W.cell? ⟨g, 2, none⟩ = some (.bool g3)) :=
  ⟨⟨h.1.cell 0, h.1.cell 1, h.1.cell 2⟩, ⟨h.2.1.cell 0, h.2.1.cell 1, h.2.1.cell 2⟩, ⟨h.2.2.1.cell 0, h.2.2.1.cell 1, h.2.2.1.cell 2⟩, ⟨h.2.2.2.cell 0, h.2.2.2.cell 1, h.2.2.2.cell 2⟩⟩

theorem fresh_call {v a m : Int} {o f : Bool} (h : fresh (v, a, o) m = f) (W : World) : Calls Try.prog 11 #[.agg #[.int .i64 v, .int .i64 a, .bool o], .int .i64 m] W (Ret (.bool f) W) := h ▸ implIsFresh v a m o W
theorem eql_zero (W : World) : (binOp .eql 25 (.agg #[.int .i64 0, .int .i64 0, .bool false]) (.agg #[.int .i64 0, .int .i64 0, .bool false])).run Try.prog W = .ok (.bool true) W := by rw [eqlR, eqR_same]
theorem eql_was (x : Int) (W : World) : (binOp .eql 25 (.agg #[.int .i64 x, .int .i64 0, .bool true]) (.agg #[.int .i64 0, .int .i64 0, .bool false])).run Try.prog W = .ok (.bool false) W := by rw [eqlR]; simp [eqR]

set_option maxRecDepth 100000 in
set_option maxHeartbeats 8000000 in
theorem walk (b : Option Addr) (n c : Nat) (w : World) (hb : Bytes w w.heap.size b n) :
    Calls Try.prog 3 #[.slice b n c] w fun e w' => e = .returned (.bool true) ∧ Below w.heap.size w w' := by
  go_enter Try.func3, Try.ntmps3
  go_wp2_with fail
  refine (big b n c w).mono ?_
  rintro e w1 ⟨rfl, rfl⟩
  by_cases hbig : 4096 < n
  · have hd : decide (4096 < n) = true := by simp [hbig]
    go_wp2_with fail
    go_ret
    exact ⟨rfl, Below.refl _ _⟩
  · have hd : decide (4096 < n) = false := by simp [hbig]
    have hn : n ≤ 4096 := by omega
    go_wp2_with fail
    refine (drawIsFresh b n c _ hn hb).mono ?_
    rintro e w1 ⟨p1, p2, p3, m, rfl, _, hm, g0⟩
    have hm1 := hm.1
    have hm2 := hm.2
    clear hm hd hbig
    obtain ⟨⟨r1, r2, r3⟩, hA⟩ : ∃ X, aged (p1, p2, p3) = X := ⟨_, rfl⟩
    obtain ⟨f1, hF1⟩ : ∃ X, fresh (p1, p2, p3) m = X := ⟨_, rfl⟩
    obtain ⟨f2, hF2⟩ : ∃ X, fresh (r1, r2, r3) m = X := ⟨_, rfl⟩
    obtain ⟨k1, hK1⟩ : ∃ X, okR (p1, p2, p3) = X := ⟨_, rfl⟩
    have cFi : ∀ W, Calls Try.prog 11 #[.agg #[.int .i64 p1, .int .i64 p2, .bool p3], .int .i64 m] W (Ret (.bool f1) W) := fun W => hF1 ▸ implIsFresh p1 p2 m p3 W
    have cFs : ∀ W, Calls Try.prog 16 #[.agg #[.int .i64 p1, .int .i64 p2, .bool p3], .int .i64 m] W (Ret (.bool f1) W) := fun W => hF1 ▸ specIsFresh p1 p2 m p3 W
    have cAi : ∀ W, Calls Try.prog 12 #[.agg #[.int .i64 p1, .int .i64 p2, .bool p3]] W (RetR (r1, r2, r3) W) := fun W => hA ▸ implAged p1 p2 p3 W
    have cAs : ∀ W, Calls Try.prog 17 #[.agg #[.int .i64 p1, .int .i64 p2, .bool p3]] W (RetR (r1, r2, r3) W) := fun W => hA ▸ specAged p1 p2 p3 W
    have cKi : ∀ W, Calls Try.prog 19 #[.agg #[.int .i64 p1, .int .i64 p2, .bool p3]] W (Ret (.bool k1) W) := fun W => hK1 ▸ implReadingOk p1 p2 p3 W
    have cKs : ∀ W, Calls Try.prog 20 #[.agg #[.int .i64 p1, .int .i64 p2, .bool p3]] W (Ret (.bool k1) W) := fun W => hK1 ▸ specReadingOk p1 p2 p3 W
    have cF2 : ∀ W, Calls Try.prog 11 #[.agg #[.int .i64 r1, .int .i64 r2, .bool r3], .int .i64 m] W (Ret (.bool f2) W) := fun W => hF2 ▸ implIsFresh r1 r2 m r3 W
    have h21 : f1 = false → f2 = false := fun e => by rw [← hF2, ← hA]; exact fresh_aged (hF1.trans e)
    have h13 : f1 = true → ∀ W, Calls Try.prog 11 #[.agg #[.int .i64 p1, .int .i64 p2, .bool p3], .int .i64 (m + 1)] W (Ret (.bool true) W) := fun e W => fresh_call (fresh_more (hF1.trans e)) W
    have HA : Hid (f1 = false → f2 = false) := Lib.hid h21
    clear hA hF1 hF2 hK1 h21
    have a3 := Has.fresh w1 25 #[.int .i64 p1, .int .i64 p2, .bool p3]
    replace g0 := gr_alloc g0 (Obj.cells #[.int .i64 p1, .int .i64 p2, .bool p3] 25)
    go_wp2_with fail
    refine (cFi _).mono ?_
    rintro e w2 ⟨rfl, hg⟩
    replace a3 := a3.grown hg (by simp)
    replace g0 := gr_trans g0 hg
    clear hg cFi
    obtain ⟨c0, c1, c2, _, _, _⟩ := three a3
    go_wp2_with fail
    refine (cAi _).mono ?_
    rintro e w3 ⟨rfl, hg⟩
    replace a3 := (a3.grown hg (by simp)).alloc (Obj.cells #[.int .i64 r1, .int .i64 r2, .bool r3] 25)
    have a6 := Has.fresh w3 25 #[.int .i64 r1, .int .i64 r2, .bool r3]
    replace g0 := gr_alloc (gr_trans g0 hg) (Obj.cells #[.int .i64 r1, .int .i64 r2, .bool r3] 25)
    clear hg cAi c0 c1 c2
    go_wp2_with fail
    refine (drawGot b n c _ hn (bytes_on hb g0)).mono ?_
    rintro e w4 ⟨q1, q2, q3, x, rfl, _, _, hg⟩
    obtain ⟨⟨y1, y2, y3⟩, hG⟩ : ∃ X, got (q1, q2, q3) x = X := ⟨_, rfl⟩
    have cGi : ∀ W, Calls Try.prog 14 #[.agg #[.int .i64 q1, .int .i64 q2, .bool q3], .int .i64 x] W (RetR (y1, y2, y3) W) := fun W => hG ▸ implGot q1 q2 x q3 W
    have cGs : ∀ W, Calls Try.prog 18 #[.agg #[.int .i64 q1, .int .i64 q2, .bool q3], .int .i64 x] W (RetR (y1, y2, y3) W) := fun W => hG ▸ specGot q1 q2 x q3 W
    have HG := Lib.hid (hG ▸ fresh_got (v := q1) (a := q2) (x := x) (o := q3) : (y1, y2, y3) = zR ∨ ((y1, y2, y3) = (x, 0, true) ∧ fresh (x, 0, true) 0 = true))
    clear hG
    replace a3 := (a3.grown hg (by simp)).alloc (Obj.cells #[.int .i64 q1, .int .i64 q2, .bool q3] 25)
    replace a6 := (a6.grown hg (by simp)).alloc (Obj.cells #[.int .i64 q1, .int .i64 q2, .bool q3] 25)
    have a7 := Has.fresh w4 25 #[.int .i64 q1, .int .i64 q2, .bool q3]
    replace g0 := gr_alloc (gr_trans g0 hg) (Obj.cells #[.int .i64 q1, .int .i64 q2, .bool q3] 25)
    clear hg
    go_wp2_with fail
    refine (cGi _).mono ?_
    rintro e w5 ⟨rfl, hg⟩
    replace a3 := (a3.grown hg (by simp)).alloc (Obj.cells #[.int .i64 y1, .int .i64 y2, .bool y3] 25)
    replace a6 := (a6.grown hg (by simp)).alloc (Obj.cells #[.int .i64 y1, .int .i64 y2, .bool y3] 25)
    replace a7 := (a7.grown hg (by simp)).alloc (Obj.cells #[.int .i64 y1, .int .i64 y2, .bool y3] 25)
    have a9 := Has.fresh w5 25 #[.int .i64 y1, .int .i64 y2, .bool y3]
    replace g0 := gr_alloc (gr_trans g0 hg) (Obj.cells #[.int .i64 y1, .int .i64 y2, .bool y3] 25)
    clear hg cGi
    go_wp2_with fail
    refine (drawAgedAll b n c _ hn (bytes_on hb g0)).mono ?_
    rintro e w6 ⟨al, cl, l, rfl, hl4, _, hg, hL⟩
    have F0 : Four w6 w1.heap.size w3.heap.size w4.heap.size w5.heap.size p1 p2 r1 r2 q1 q2 y1 y2 p3 r3 q3 y3 := ⟨a3.grown hg (by simp), a6.grown hg (by simp), a7.grown hg (by simp), a9.grown hg (by simp)⟩
    replace g0 := gr_trans g0 hg
    obtain ⟨l2, hl2⟩ : ∃ X, agedAll l = X := ⟨_, rfl⟩
    have hl2l : l2.length ≤ 1048576 := by
      rw [← hl2]; unfold agedAll; split
      · simp; omega
      · simp
    have cLi : ∀ W, Arg W al l → Calls Try.prog 22 #[.slice al l.length cl] W (RetO l2 W) := fun W h => hl2 ▸ implAgedAll al cl l W h (by omega)
    have cLs : ∀ W, Arg W al l → Calls Try.prog 23 #[.slice al l.length cl] W (RetL l2 W) := fun W h => hl2 ▸ specAgedAll al cl l W h (by omega)
    clear hl2 hg a3 a6 a7 a9 hb
    have hqA := fun W => neqR_same W r1 r2 r3
    have hqG := fun W => neqR_same W y1 y2 y3
    have hGd := guardR
    go_wp2_with fail
    generalize w1.heap.size = bp at *
    generalize w3.heap.size = br at *
    generalize w4.heap.size = bq at *
    generalize w5.heap.size = bg at *
    have L0 : Arg w6.drew al l := hL
    have E0 : Four w6.drew bp br bq bg p1 p2 r1 r2 q1 q2 y1 y2 p3 r3 q3 y3 := F0
    obtain ⟨⟨c30, c31, c32⟩, ⟨c60, c61, c62⟩, ⟨c70, c71, c72⟩, c90, c91, c92⟩ := F0.cells
    go_region_held3 (fun W => (W.cell? ⟨bp, 0, none⟩ = some (.int .i64 p1) ∧ W.cell? ⟨bp, 1, none⟩ = some (.int .i64 p2) ∧ W.cell? ⟨bp, 2, none⟩ = some (.bool p3)) ∧ (W.cell? ⟨br, 0, none⟩ = some (.int .i64 r1) ∧ W.cell? ⟨br, 1, none⟩ = some (.int .i64 r2) ∧ W.cell? ⟨br, 2, none⟩ = some (.bool r3)) ∧ (W.cell? ⟨bq, 0, none⟩ = some (.int .i64 q1) ∧ W.cell? ⟨bq, 1, none⟩ = some (.int .i64 q2) ∧ W.cell? ⟨bq, 2, none⟩ = some (.bool q3)) ∧ (W.cell? ⟨bg, 0, none⟩ = some (.int .i64 y1) ∧ W.cell? ⟨bg, 1, none⟩ = some (.int .i64 y2) ∧ W.cell? ⟨bg, 2, none⟩ = some (.bool y3)))
      (first | exact E8.cells | exact E7.cells | exact E6.cells | exact E5.cells | exact E4.cells | exact E3.cells | exact E2.cells | exact E1.cells | exact E0.cells)
      (first | (go_at_call 16; refine (cFs _).mono ?_; rintro e v1 ⟨rfl, hg1⟩; have E1 := E0.kept hg1; have L1 := L0.kept hg1) | (go_at_call 17; refine (cAs _).mono ?_; rintro e v2 ⟨rfl, hg2⟩; have E2 := E1.kept hg2; have L2 := L1.kept hg2) | (go_at_call 18; refine (cGs _).mono ?_; rintro e v3 ⟨rfl, hg3⟩; have E3 := E2.kept hg3; have L3 := L2.kept hg3) | (go_at_call 19; refine (cKi _).mono ?_; rintro e v4 ⟨rfl, hg4⟩; have E4 := E3.kept hg4; have L4 := L3.kept hg4) | (go_at_call 20; refine (cKs _).mono ?_; rintro e v5 ⟨rfl, hg5⟩; have E5 := E4.kept hg5; have L5 := L4.kept hg5) | (go_at_call 22; refine (cLi _ L5).mono ?_; rintro e v6 ⟨a6, ca6, rfl, hg6, O6, _⟩; have E6 := E5.kept hg6; have L6 := L5.kept hg6) | (go_at_call 23; refine (cLs _ L6).mono ?_; rintro e v7 ⟨a7, ca7, rfl, hg7, O7⟩; have E7 := E6.kept hg7; have L7 := O6.arg.kept hg7) | (go_at_call 21; refine (likeReadings _ _ _ _ _ _ L7 O7 hl2l).mono ?_; rintro e v8 ⟨rfl, hg8⟩; have E8 := E7.kept hg8))
    replace g0 := gr_trans (gr_trans (gr_trans (gr_trans (gr_trans (gr_trans (gr_trans (gr_trans (gr_drewN g0 1) hg1) hg2) hg3) hg4) hg5) hg6) hg7) hg8
    clear E0 E1 E2 E3 E4 E5 E6 E7 L0 L1 L2 L3 L4 L5 L6 L7 O6 O7 hg1 hg2 hg3 hg4 hg5 hg6 hg7 hg8 cLi cLs hqA hqG F0 hL cFs cAs cKi cKs cGs c30 c31 c32 c60 c61 c62 c70 c71 c72 c90 c91 c92
    obtain ⟨⟨c30, c31, c32⟩, ⟨c60, c61, c62⟩, _, c90, c91, c92⟩ := E8.cells
    cases f1
    · obtain rfl := HA.out rfl
      clear h13 HA
      go_wp2_with fail
      refine (cF2 _).mono ?_
      rintro e u1 ⟨rfl, hg⟩
      replace E8 := E8.kept hg
      replace g0 := gr_trans g0 hg
      clear hg c30 c31 c32 c60 c61 c62 c90 c91 c92
      obtain ⟨_, _, _, c90, c91, c92⟩ := E8.cells
      rcases HG.out with hz | ⟨hz, hfr⟩
      · obtain ⟨rfl, rfl, rfl⟩ : y1 = 0 ∧ y2 = 0 ∧ y3 = false := by unfold zR at hz; simpa using hz
        have hE : ∀ W : World, (binOp .eql 25 (.agg #[.int .i64 0, .int .i64 0, .bool false]) (.agg #[.int .i64 0, .int .i64 0, .bool false])).run Try.prog W = .ok (.bool true) W := eql_zero
        clear hz HG
        go_wp2_with fail
        go_ret
        exact ⟨rfl, below_of_none g0⟩
      · obtain ⟨rfl, rfl, rfl⟩ : y1 = x ∧ y2 = 0 ∧ y3 = true := by simpa using hz
        have hE : ∀ W : World, (binOp .eql 25 (.agg #[.int .i64 y1, .int .i64 0, .bool true]) (.agg #[.int .i64 0, .int .i64 0, .bool false])).run Try.prog W = .ok (.bool false) W := eql_was y1
        have cZ : ∀ W, Calls Try.prog 11 #[.agg #[.int .i64 y1, .int .i64 0, .bool true], .int .i64 0] W (Ret (.bool true) W) := fresh_call hfr
        clear hz HG hfr
        go_wp2_with fail
        refine (cZ _).mono ?_
        rintro e vz ⟨rfl, hg⟩
        replace E8 := E8.kept hg
        replace g0 := gr_trans g0 hg
        clear hg c90 c91 c92
        obtain ⟨_, _, _, c90, c91, c92⟩ := E8.cells
        go_wp2_with fail
        go_ret
        exact ⟨rfl, below_of_none g0⟩
    · replace h13 := h13 rfl
      clear HA
      cases f2
      · go_wp2_with fail
        refine (cF2 _).mono ?_
        rintro e u1 ⟨rfl, hg⟩
        replace E8 := E8.kept hg
        replace g0 := gr_trans g0 hg
        clear hg c30 c31 c32 c60 c61 c62 c90 c91 c92
        obtain ⟨⟨c30, c31, c32⟩, ⟨c60, c61, c62⟩, _, c90, c91, c92⟩ := E8.cells
        go_wp2_with fail
        refine (h13 _).mono ?_
        rintro e u2 ⟨rfl, hg⟩
        replace E8 := E8.kept hg
        replace g0 := gr_trans g0 hg
        clear hg c30 c31 c32 c60 c61 c62 c90 c91 c92
        obtain ⟨_, _, _, c90, c91, c92⟩ := E8.cells
        rcases HG.out with hz | ⟨hz, hfr⟩
        · obtain ⟨rfl, rfl, rfl⟩ : y1 = 0 ∧ y2 = 0 ∧ y3 = false := by unfold zR at hz; simpa using hz
          have hE : ∀ W : World, (binOp .eql 25 (.agg #[.int .i64 0, .int .i64 0, .bool false]) (.agg #[.int .i64 0, .int .i64 0, .bool false])).run Try.prog W = .ok (.bool true) W := eql_zero
          clear hz HG
          go_wp2_with fail
          go_ret
          exact ⟨rfl, below_of_none g0⟩
        · obtain ⟨rfl, rfl, rfl⟩ : y1 = x ∧ y2 = 0 ∧ y3 = true := by simpa using hz
          have hE : ∀ W : World, (binOp .eql 25 (.agg #[.int .i64 y1, .int .i64 0, .bool true]) (.agg #[.int .i64 0, .int .i64 0, .bool false])).run Try.prog W = .ok (.bool false) W := eql_was y1
          have cZ : ∀ W, Calls Try.prog 11 #[.agg #[.int .i64 y1, .int .i64 0, .bool true], .int .i64 0] W (Ret (.bool true) W) := fresh_call hfr
          clear hz HG hfr
          go_wp2_with fail
          refine (cZ _).mono ?_
          rintro e vz ⟨rfl, hg⟩
          replace E8 := E8.kept hg
          replace g0 := gr_trans g0 hg
          clear hg c90 c91 c92
          obtain ⟨_, _, _, c90, c91, c92⟩ := E8.cells
          go_wp2_with fail
          go_ret
          exact ⟨rfl, below_of_none g0⟩
      · go_wp2_with fail
        refine (cF2 _).mono ?_
        rintro e u1 ⟨rfl, hg⟩
        replace E8 := E8.kept hg
        replace g0 := gr_trans g0 hg
        clear hg c30 c31 c32 c60 c61 c62 c90 c91 c92
        obtain ⟨⟨c30, c31, c32⟩, ⟨c60, c61, c62⟩, _, c90, c91, c92⟩ := E8.cells
        go_wp2_with fail
        refine (h13 _).mono ?_
        rintro e u2 ⟨rfl, hg⟩
        replace E8 := E8.kept hg
        replace g0 := gr_trans g0 hg
        clear hg c30 c31 c32 c60 c61 c62 c90 c91 c92
        obtain ⟨_, _, _, c90, c91, c92⟩ := E8.cells
        rcases HG.out with hz | ⟨hz, hfr⟩
        · obtain ⟨rfl, rfl, rfl⟩ : y1 = 0 ∧ y2 = 0 ∧ y3 = false := by unfold zR at hz; simpa using hz
          have hE : ∀ W : World, (binOp .eql 25 (.agg #[.int .i64 0, .int .i64 0, .bool false]) (.agg #[.int .i64 0, .int .i64 0, .bool false])).run Try.prog W = .ok (.bool true) W := eql_zero
          clear hz HG
          go_wp2_with fail
          go_ret
          exact ⟨rfl, below_of_none g0⟩
        · obtain ⟨rfl, rfl, rfl⟩ : y1 = x ∧ y2 = 0 ∧ y3 = true := by simpa using hz
          have hE : ∀ W : World, (binOp .eql 25 (.agg #[.int .i64 y1, .int .i64 0, .bool true]) (.agg #[.int .i64 0, .int .i64 0, .bool false])).run Try.prog W = .ok (.bool false) W := eql_was y1
          have cZ : ∀ W, Calls Try.prog 11 #[.agg #[.int .i64 y1, .int .i64 0, .bool true], .int .i64 0] W (Ret (.bool true) W) := fresh_call hfr
          clear hz HG hfr
          go_wp2_with fail
          refine (cZ _).mono ?_
          rintro e vz ⟨rfl, hg⟩
          replace E8 := E8.kept hg
          replace g0 := gr_trans g0 hg
          clear hg c90 c91 c92
          obtain ⟨_, _, _, c90, c91, c92⟩ := E8.cells
          go_wp2_with fail
          go_ret
          exact ⟨rfl, below_of_none g0⟩
end Go.Proofs.Ytijdggbgmpodmaa.rd
