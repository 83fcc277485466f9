/- The walk of the law of what can be. -/
import Derived.Test.YtdjaikjakdidcaaDoorSnDraw2
import Derived.Test.YtdjaikjakdidcaaDoorSnTaken
namespace Go.Proofs.YtdjaikjakdidcaaDoor.sane
open Go.ChangeShapes Go.WideShapes Go.ChangeAt Go.RowKit
open Go.Proofs.YtdjaikjakdidcaaDoor.nums Go.Proofs.YtdjaikjakdidcaaDoor.mem Go.Proofs.YtdjaikjakdidcaaDoor.cur
open Go.Proofs.YtdjaikjakdidcaaDoor.tab (Ret quiet_w)
open Go.Proofs.YtdjaikjakdidcaaDoor.rd (okR okR_iff RetR aged eqlR neqR guardR eqR)
set_option linter.unusedVariables false

def kAbs (n : Int) : Int := if n < 0 then -n else n
theorem abs (n : Int) (w : World) (h1 : -9000000000000000000 ≤ n) (h2 : n ≤ 9000000000000000000) :
    Calls Tryd.prog 16 #[.int .i64 n] w fun e w' => e = .returned (.int .i64 (kAbs n)) ∧ w = w' := by
  go_enter Tryd.func16, Tryd.ntmps16
  go_wp2
  all_goals go_ret
  all_goals exact ⟨fix.ret_int (by unfold kAbs; simp; try omega), rfl⟩
theorem near_abs {ra v a x : Int} (h : nearB ra v a x = true) : kAbs (x - v) ≤ ra * (a + 1) := by
  have h' : max (x - v) (-(x - v)) ≤ ra * (a + 1) := by unfold nearB at h; simpa using h
  generalize ra * (a + 1) = p at *
  unfold kAbs
  split <;> omega
theorem eqR_same (r : rd.R) : eqR r r = true := by simp [eqR]
theorem neqR_same (w : World) (v a : Int) (o : Bool) : (binOp .neq 27 (.agg #[.int .i64 v, .int .i64 a, .bool o]) (.agg #[.int .i64 v, .int .i64 a, .bool o])).run Tryd.prog w = .ok (.bool false) w := by
  rw [neqR, eqR_same]; rfl
theorem eqlR_same (w : World) (v a : Int) (o : Bool) : (binOp .eql 27 (.agg #[.int .i64 v, .int .i64 a, .bool o]) (.agg #[.int .i64 v, .int .i64 a, .bool o])).run Tryd.prog w = .ok (.bool true) w := by
  rw [eqlR, eqR_same]
theorem eql_zero (W : World) : (binOp .eql 27 (.agg #[.int .i64 0, .int .i64 0, .bool false]) (.agg #[.int .i64 0, .int .i64 0, .bool false])).run Tryd.prog W = .ok (.bool true) W := eqlR_same W 0 0 false

/-- A range, a reading and what was taken, in their boxes. -/
def Tri (W : World) (g r x : Nat) (lo hi ra v a y1 y2 : Int) (o y3 : Bool) : Prop := Bx W g r 25 27 lo hi ra v a o ∧ Has W x 27 #[.int .i64 y1, .int .i64 y2, .bool y3]
theorem Tri.kept {W W' : World} {g r x : Nat} {lo hi ra v a y1 y2 : Int} {o y3 : Bool} (h : Tri W g r x lo hi ra v a y1 y2 o y3) (k : W.grownBy W' none) : Tri W' g r x lo hi ra v a y1 y2 o y3 := ⟨h.1.kept k, h.2.grown k (by simp)⟩
theorem Tri.cells {W : World} {g r x : Nat} {lo hi ra v a y1 y2 : Int} {o y3 : Bool} (h : Tri W g r x lo hi ra v a y1 y2 o y3) :
    ((W.cell? ⟨g, 0, none⟩ = some (.int .i64 lo) ∧ W.cell? ⟨g, 1, none⟩ = some (.int .i64 hi) ∧ W.cell? ⟨g, 2, none⟩ = some (.int .i64 ra)) ∧ W.cell? ⟨r, 0, none⟩ = some (.int .i64 v) ∧ W.cell? ⟨r, 1, none⟩ = some (.int .i64 a) ∧ W.cell? ⟨r, 2, none⟩ = some (.bool o)) ∧ W.cell? ⟨x, 0, none⟩ = some (.int .i64 y1) ∧ W.cell? ⟨x, 1, none⟩ = some (.int .i64 y2) ∧ W.cell? ⟨x, 2, none⟩ = some (.bool y3) :=
  ⟨h.1.cells, h.2.cell 0, h.2.cell 1, h.2.cell 2⟩

/-- What the law asks of what was taken, by the ways. -/
inductive Way (lo hi ra v a x y1 y2 : Int) (o y3 kg kr s : Bool) : Prop
  | no (h : (kg && kr) = false) (hs : s = false) (h1 : y1 = 0) (h2 : y2 = 0) (h3 : y3 = false)
  | old (hg : kg = true) (hr : kr = true) (hs : s = false) (h : aged (v, a, o) = (y1, y2, y3))
  | got (hg : kg = true) (hr : kr = true) (hs : s = true) (h1 : y1 = x) (h2 : y2 = 0) (h3 : y3 = true) (hl : lo ≤ x ∧ x ≤ hi) (bv : -1000000 ≤ v ∧ v ≤ 1000000) (ba : 0 ≤ a ∧ a ≤ 1000) (bx : -1000000 ≤ x ∧ x ≤ 1000000) (br : 1 ≤ ra ∧ ra ≤ 1000000) (hn : o = true → kAbs (x - v) ≤ ra * (a + 1))
theorem way (lo hi ra v a x : Int) (o : Bool) : Way lo hi ra v a x (taken lo hi ra v a x o).1 (taken lo hi ra v a x o).2.1 o (taken lo hi ra v a x o).2.2 (okG lo hi ra) (okR (v, a, o)) (saneB lo hi ra v a x o) := by
  cases hk : okG lo hi ra && okR (v, a, o) with
  | false =>
    rw [taken_no hk]
    refine .no hk ?_ rfl rfl rfl
    unfold saneB
    cases h1 : okG lo hi ra <;> cases h2 : okR (v, a, o) <;> simp_all
  | true =>
    obtain ⟨h1, h2⟩ : okG lo hi ra = true ∧ okR (v, a, o) = true := by simpa using hk
    cases hs : saneB lo hi ra v a x o with
    | false =>
      rw [taken_old h1 h2 hs]
      refine .old h1 h2 rfl ?_
      unfold aged rd.ageR; rw [if_pos h2]
    | true =>
      rw [taken_got h1 h2 hs]
      obtain ⟨l0, l1⟩ := sane_in hs
      obtain ⟨⟨b0, b1⟩, ⟨b2, b3⟩, b4, b5, b6⟩ := okG_iff.1 h1
      obtain ⟨⟨d0, d1⟩, d2, d3⟩ := okR_iff.1 h2
      refine .got h1 h2 rfl rfl rfl rfl ⟨l0, l1⟩ ⟨d0, d1⟩ ⟨d2, d3⟩ ⟨by omega, by omega⟩ ⟨b5, b6⟩ ?_
      rintro rfl
      refine near_abs ?_
      unfold saneB at hs
      rw [h1, h2] at hs
      simp at hs
      exact hs.2

set_option maxRecDepth 100000 in
set_option maxHeartbeats 4000000 in
theorem sane (b : Option Addr) (n c : Nat) (en ef eq : Addr) (w : World) (hb : Bytes w w.heap.size b n) (he : ErrB w en ef eq) (ht : ErrT w) :
    Calls Tryd.prog 3 #[.slice b n c] w fun e w' => e = .returned (.bool true) ∧ Below w.heap.size w w' := by
  go_enter Tryd.func3, Tryd.ntmps3
  go_wp2_with fail
  refine (big b n c w).mono ?_
  rintro e w1 ⟨rfl, rfl⟩
  by_cases hbig : 4096 < n
  · have hd : decide (4096 < n) = true := by simp [hbig]
    go_wp2_with fail
    go_ret
    exact ⟨rfl, Below.refl _ _⟩
  · have hd : decide (4096 < n) = false := by simp [hbig]
    have hn : n ≤ 4096 := by omega
    go_wp2_with fail
    refine (drawTaken b n c _ hn hb).mono ?_
    rintro e w1 ⟨lo, hi, ra, v, a, o, x, rfl, g0⟩
    have hW := way lo hi ra v a x o
    obtain ⟨⟨y1, y2, y3⟩, hT⟩ : ∃ X, taken lo hi ra v a x o = X := ⟨_, rfl⟩
    obtain ⟨s, hS⟩ : ∃ X, saneB lo hi ra v a x o = X := ⟨_, rfl⟩
    obtain ⟨kg, hG⟩ : ∃ X, okG lo hi ra = X := ⟨_, rfl⟩
    obtain ⟨kr, hR⟩ : ∃ X, okR (v, a, o) = X := ⟨_, rfl⟩
    have cTi : ∀ W, ErrB W en ef eq → ErrT W → Calls Tryd.prog 8 #[.agg #[.int .i64 lo, .int .i64 hi, .int .i64 ra], .agg #[.int .i64 v, .int .i64 a, .bool o], .int .i64 x] W (RetR (y1, y2, y3) W) := fun W e t => hT ▸ implTaken lo hi ra v a x o en ef eq W e t
    have cTs : ∀ W, Calls Tryd.prog 10 #[.agg #[.int .i64 lo, .int .i64 hi, .int .i64 ra], .agg #[.int .i64 v, .int .i64 a, .bool o], .int .i64 x] W (RetR (y1, y2, y3) W) := fun W => hT ▸ specTaken lo hi ra v a x o W
    have cSi : ∀ W, ErrB W en ef eq → Calls Tryd.prog 9 #[.agg #[.int .i64 lo, .int .i64 hi, .int .i64 ra], .agg #[.int .i64 v, .int .i64 a, .bool o], .int .i64 x] W (Ret (.bool s) W) := fun W e => hS ▸ implIsSane lo hi ra v a x o en ef eq W e.vars
    have cSs : ∀ W, Calls Tryd.prog 11 #[.agg #[.int .i64 lo, .int .i64 hi, .int .i64 ra], .agg #[.int .i64 v, .int .i64 a, .bool o], .int .i64 x] W (Ret (.bool s) W) := fun W => hS ▸ specIsSane lo hi ra v a x o W
    have cGi : ∀ W, Calls Tryd.prog 12 #[.agg #[.int .i64 lo, .int .i64 hi, .int .i64 ra]] W (Ret (.bool kg) W) := fun W => hG ▸ implRangeOk lo hi ra W
    have cGs : ∀ W, Calls Tryd.prog 13 #[.agg #[.int .i64 lo, .int .i64 hi, .int .i64 ra]] W (Ret (.bool kg) W) := fun W => hG ▸ specRangeOk lo hi ra W
    have cRs : ∀ W, Calls Tryd.prog 14 #[.agg #[.int .i64 v, .int .i64 a, .bool o]] W (Ret (.bool kr) W) := fun W => hR ▸ rd.specReadingOk v a o W
    have HW : Hid (Way lo hi ra v a x y1 y2 o y3 kg kr s) := Lib.hid (by rw [hT, hS, hG, hR] at hW; exact hW)
    clear hW hT hS hG hR hd hbig
    have aG := (Has.fresh w1 25 #[.int .i64 lo, .int .i64 hi, .int .i64 ra]).alloc (Obj.cells #[.int .i64 v, .int .i64 a, .bool o] 27)
    have aR := rd.fresh1 w1 (Obj.cells #[.int .i64 lo, .int .i64 hi, .int .i64 ra] 25) 27 #[.int .i64 v, .int .i64 a, .bool o]
    replace g0 := gr_alloc (gr_alloc g0 (Obj.cells #[.int .i64 lo, .int .i64 hi, .int .i64 ra] 25)) (Obj.cells #[.int .i64 v, .int .i64 a, .bool o] 27)
    go_upto_region 4 with fail
    generalize (w1.alloc (Obj.cells #[.int .i64 lo, .int .i64 hi, .int .i64 ra] 25)).alloc (Obj.cells #[.int .i64 v, .int .i64 a, .bool o] 27) = w2 at *
    replace he := he.kept g0
    replace ht := ht.kept g0
    obtain ⟨c0, c1, c2, _, _, _⟩ := rd.three aG
    obtain ⟨d0, d1, d2, _, _, _⟩ := rd.three aR
    go_wp2_with fail
    refine (cTi _ he ht).mono ?_
    rintro e w3 ⟨rfl, hg⟩
    replace aG := (aG.grown hg (by simp)).alloc (Obj.cells #[.int .i64 y1, .int .i64 y2, .bool y3] 27)
    replace aR := (aR.grown hg (by simp)).alloc (Obj.cells #[.int .i64 y1, .int .i64 y2, .bool y3] 27)
    have aX := Has.fresh w3 27 #[.int .i64 y1, .int .i64 y2, .bool y3]
    replace g0 := gr_alloc (gr_trans g0 hg) (Obj.cells #[.int .i64 y1, .int .i64 y2, .bool y3] 27)
    replace he := (he.kept hg).kept (World.grownBy_alloc w3 (Obj.cells #[.int .i64 y1, .int .i64 y2, .bool y3] 27) none)
    clear hg cTi c0 c1 c2 d0 d1 d2 ht hb
    go_upto_region 5 with fail
    have E : Tri (w3.alloc (Obj.cells #[.int .i64 y1, .int .i64 y2, .bool y3] 27)) w1.heap.size (w1.heap.size + 1) w3.heap.size lo hi ra v a y1 y2 o y3 := ⟨⟨aG, aR⟩, aX⟩
    clear aG aR aX
    generalize w3.alloc (Obj.cells #[.int .i64 y1, .int .i64 y2, .bool y3] 27) = w4 at *
    generalize w3.heap.size = bx at *
    obtain ⟨bg, hbg⟩ : ∃ y, y = w1.heap.size := ⟨_, rfl⟩
    obtain ⟨br, hbr⟩ : ∃ y, y = w1.heap.size + 1 := ⟨_, rfl⟩
    rw [← hbr, ← hbg] at E ⊢
    clear hbg hbr
    obtain ⟨⟨⟨c0, c1, c2⟩, d0, d1, d2⟩, e0, e1, e2⟩ := E.cells
    go_wp2_with fail
    refine (cSi _ he).mono ?_
    rintro e w5 ⟨rfl, hg⟩
    replace E := E.kept hg
    replace g0 := gr_trans g0 hg
    clear hg cSi he c0 c1 c2 d0 d1 d2 e0 e1 e2
    have hqA := fun W => neqR_same W y1 y2 y3
    have hGd := guardR
    obtain ⟨⟨⟨c0, c1, c2⟩, d0, d1, d2⟩, e0, e1, e2⟩ := E.cells
    go_wp2_with fail
    have E0 : Tri w5.drew bg br bx lo hi ra v a y1 y2 o y3 := E
    go_region_held3 (fun W => ((W.cell? ⟨bg, 0, none⟩ = some (.int .i64 lo) ∧ W.cell? ⟨bg, 1, none⟩ = some (.int .i64 hi) ∧ W.cell? ⟨bg, 2, none⟩ = some (.int .i64 ra)) ∧ W.cell? ⟨br, 0, none⟩ = some (.int .i64 v) ∧ W.cell? ⟨br, 1, none⟩ = some (.int .i64 a) ∧ W.cell? ⟨br, 2, none⟩ = some (.bool o)) ∧ W.cell? ⟨bx, 0, none⟩ = some (.int .i64 y1) ∧ W.cell? ⟨bx, 1, none⟩ = some (.int .i64 y2) ∧ W.cell? ⟨bx, 2, none⟩ = some (.bool y3))
      (first | with_reducible exact E4.cells | with_reducible exact E3.cells | with_reducible exact E2.cells | with_reducible exact E1.cells | with_reducible exact E0.cells)
      (first | (go_at_call 10; refine (cTs _).mono ?_; rintro e v1 ⟨rfl, hg1⟩; have E1 := E0.kept hg1) | (go_at_call 11; refine (cSs _).mono ?_; rintro e v2 ⟨rfl, hg2⟩; have E2 := E1.kept hg2) | (go_at_call 12; refine (cGi _).mono ?_; rintro e v3 ⟨rfl, hg3⟩; have E3 := E2.kept hg3) | (go_at_call 13; refine (cGs _).mono ?_; rintro e v4 ⟨rfl, hg4⟩; have E4 := E3.kept hg4))
    replace g0 := gr_trans (gr_trans (gr_trans (gr_trans (gr_drewN g0 1) hg1) hg2) hg3) hg4
    clear E E0 E1 E2 E3 hg1 hg2 hg3 hg4 cTs cSs cGi hqA c0 c1 c2 d0 d1 d2 e0 e1 e2
    rcases HW.out with ⟨hk, rfl, rfl, rfl, rfl⟩ | ⟨rfl, rfl, rfl, hA⟩ | ⟨rfl, rfl, rfl, rfl, rfl, rfl, ⟨l0, l1⟩, ⟨bv0, bv1⟩, ⟨ba0, ba1⟩, ⟨bx0, bx1⟩, ⟨br0, br1⟩, hn⟩
    · clear HW
      have hE : ∀ W : World, (binOp .eql 27 (.agg #[.int .i64 0, .int .i64 0, .bool false]) (.agg #[.int .i64 0, .int .i64 0, .bool false])).run Tryd.prog W = .ok (.bool true) W := eql_zero
      cases kg
      · clear hk
        obtain ⟨⟨⟨c0, c1, c2⟩, d0, d1, d2⟩, e0, e1, e2⟩ := E4.cells
        go_wp2_with fail
        refine (cGs _).mono ?_
        rintro e u1 ⟨rfl, hg⟩
        replace E4 := E4.kept hg
        replace g0 := gr_trans g0 hg
        clear hg cGs c0 c1 c2 d0 d1 d2 e0 e1 e2
        obtain ⟨⟨⟨c0, c1, c2⟩, d0, d1, d2⟩, e0, e1, e2⟩ := E4.cells
        go_wp2_with fail
        go_ret
        exact ⟨rfl, below_of_none g0⟩
      · obtain rfl : kr = false := (by simpa using hk)
        clear hk
        obtain ⟨⟨⟨c0, c1, c2⟩, d0, d1, d2⟩, e0, e1, e2⟩ := E4.cells
        go_wp2_with fail
        refine (cGs _).mono ?_
        rintro e u1 ⟨rfl, hg⟩
        replace E4 := E4.kept hg
        replace g0 := gr_trans g0 hg
        clear hg cGs c0 c1 c2 d0 d1 d2 e0 e1 e2
        obtain ⟨⟨⟨c0, c1, c2⟩, d0, d1, d2⟩, e0, e1, e2⟩ := E4.cells
        go_wp2_with fail
        refine (cRs _).mono ?_
        rintro e u2 ⟨rfl, hg⟩
        replace E4 := E4.kept hg
        replace g0 := gr_trans g0 hg
        clear hg cRs c0 c1 c2 d0 d1 d2 e0 e1 e2
        obtain ⟨⟨⟨c0, c1, c2⟩, d0, d1, d2⟩, e0, e1, e2⟩ := E4.cells
        go_wp2_with fail
        go_ret
        exact ⟨rfl, below_of_none g0⟩
    · clear HW
      have cA : ∀ W, Calls Tryd.prog 15 #[.agg #[.int .i64 v, .int .i64 a, .bool o]] W (RetR (y1, y2, y3) W) := fun W => hA ▸ rd.specAged v a o W
      have hE := fun W => eqlR_same W y1 y2 y3
      clear hA
      obtain ⟨⟨⟨c0, c1, c2⟩, d0, d1, d2⟩, e0, e1, e2⟩ := E4.cells
      go_wp2_with fail
      refine (cGs _).mono ?_
      rintro e u1 ⟨rfl, hg⟩
      replace E4 := E4.kept hg
      replace g0 := gr_trans g0 hg
      clear hg cGs c0 c1 c2 d0 d1 d2 e0 e1 e2
      obtain ⟨⟨⟨c0, c1, c2⟩, d0, d1, d2⟩, e0, e1, e2⟩ := E4.cells
      go_wp2_with fail
      refine (cRs _).mono ?_
      rintro e u2 ⟨rfl, hg⟩
      replace E4 := E4.kept hg
      replace g0 := gr_trans g0 hg
      clear hg cRs c0 c1 c2 d0 d1 d2 e0 e1 e2
      obtain ⟨⟨⟨c0, c1, c2⟩, d0, d1, d2⟩, e0, e1, e2⟩ := E4.cells
      go_wp2_with fail
      have F0 : Tri u2.drew bg br bx lo hi ra v a y1 y2 o y3 := E4
      go_region_held3 (fun W => ((W.cell? ⟨bg, 0, none⟩ = some (.int .i64 lo) ∧ W.cell? ⟨bg, 1, none⟩ = some (.int .i64 hi) ∧ W.cell? ⟨bg, 2, none⟩ = some (.int .i64 ra)) ∧ W.cell? ⟨br, 0, none⟩ = some (.int .i64 v) ∧ W.cell? ⟨br, 1, none⟩ = some (.int .i64 a) ∧ W.cell? ⟨br, 2, none⟩ = some (.bool o)) ∧ W.cell? ⟨bx, 0, none⟩ = some (.int .i64 y1) ∧ W.cell? ⟨bx, 1, none⟩ = some (.int .i64 y2) ∧ W.cell? ⟨bx, 2, none⟩ = some (.bool y3))
        (first | with_reducible exact F1.cells | with_reducible exact F0.cells)
        (first | (go_at_call 15; refine (cA _).mono ?_; rintro e v5 ⟨rfl, hg⟩; have F1 := F0.kept hg))
      go_wp2_with fail
      go_ret
      exact ⟨rfl, below_of_none (gr_trans (gr_drewN g0 1) hg)⟩
    · clear HW
      obtain ⟨p0, p1⟩ := prod_bd br0 br1 ba0 ba1
      obtain ⟨⟨⟨c0, c1, c2⟩, d0, d1, d2⟩, e0, e1, e2⟩ := E4.cells
      go_wp2_with fail
      refine (cGs _).mono ?_
      rintro e u1 ⟨rfl, hg⟩
      replace E4 := E4.kept hg
      replace g0 := gr_trans g0 hg
      clear hg cGs c0 c1 c2 d0 d1 d2 e0 e1 e2
      obtain ⟨⟨⟨c0, c1, c2⟩, d0, d1, d2⟩, e0, e1, e2⟩ := E4.cells
      go_wp2_with fail
      refine (cRs _).mono ?_
      rintro e u2 ⟨rfl, hg⟩
      replace E4 := E4.kept hg
      replace g0 := gr_trans g0 hg
      clear hg cRs c0 c1 c2 d0 d1 d2 e0 e1 e2
      obtain ⟨⟨⟨c0, c1, c2⟩, d0, d1, d2⟩, e0, e1, e2⟩ := E4.cells
      cases o
      · go_wp2_with fail
        go_quiet (fail)
        go_wp2_with fail
        go_ret
        exact ⟨rfl, below_of_none (gr_drewN g0 _)⟩
      · have hN := hn rfl
        clear hn
        go_wp2_with fail
        go_quiet ((go_at_call 16; exact quiet_w (abs _ _ (by omega) (by omega))))
        go_wp2_with fail
        go_ret
        exact ⟨rfl, below_of_none (gr_drewN g0 _)⟩
end Go.Proofs.YtdjaikjakdidcaaDoor.sane
