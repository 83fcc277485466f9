/- Chapter 18 of the model: Turned, TurnedMany of a right world. -/
import Derived.Test.YtdikhdfpcipdbaaGreatDoorTu
namespace Go.Proofs.YtdikhdfpcipdbaaGreatDoor.wd
open Go.ChangeShapes Go.WideShapes Go.ChangeAt Go.RowKit
open Go.Proofs.YtdikhdfpcipdbaaGreatDoor.nums Go.Proofs.YtdikhdfpcipdbaaGreatDoor.mem
open Go.Proofs.YtdikhdfpcipdbaaGreatDoor.tab (Ret)
open Go.Proofs.YtdikhdfpcipdbaaGreatDoor.br (B P OkB Arg OwnB str bv Seven)
set_option linter.unusedVariables false

set_option maxRecDepth 100000 in
set_option maxHeartbeats 2000000 in
theorem specTurned (x : V) (p : P) (g : Int) (w : World) (h : Arg w x.br p) (ho : OkW x) (hg1 : -1000 ≤ g) (hg2 : g ≤ 1000) : Calls Tryz.prog 113 #[wv x p, .int .i64 g] w (RetW w) := by
  have K := (Has.fresh w 92 (cs23 x p)).alloc (Obj.cells z23 92)
  have R := Has.fresh (w.alloc (Obj.cells (cs23 x p) 92)) 92 z23
  have G := gr_alloc (World.grownBy_alloc w (Obj.cells (cs23 x p) 92) none) (Obj.cells z23 92)
  simp only [World.size_alloc] at R
  have hsW : w.heap.size + 1 < ((w.alloc (Obj.cells (cs23 x p) 92)).alloc (Obj.cells z23 92)).heap.size := by simp
  have cO := fun W k => specWorldOk x p W k ho
  have cT := fun W k => specTurn x p g W k ho hg1 hg2
  clear ho
  go_enter Tryz.func113, Tryz.ntmps113
  go_upto_region 1 with fail
  generalize (w.alloc (Obj.cells (cs23 x p) 92)).alloc (Obj.cells z23 92) = v0 at *
  go_wp2_with (refine ld_row rfl _ rfl w.heap.size x p rfl K ?_)
  refine (cO _ (h.kept G)).mono ?_
  rintro e v1 ⟨rfl, r⟩
  replace G := gr_trans G r
  replace K := K.grown r (by simp)
  replace R := R.grown r (by simp)
  replace hsW := Nat.lt_of_lt_of_le hsW r.size
  clear r cO
  go_wp2_with (refine ld_row rfl _ rfl w.heap.size x p rfl K ?_)
  refine (cT _ (h.kept G)).mono ?_
  rintro e v2 ⟨y, q, rfl, r, O, ok⟩
  replace G := gr_trans G r
  replace R := R.grown r (by simp)
  clear r cT
  go_wp2_with (refine st_row rfl _ _ rfl rfl (w.heap.size + 1) y q z23 rfl rfl R rfl ?_; intro v3 c3 R3)
  replace O := O.low c3 hsW
  replace G := gr_past G c3 (show w.heap.size ≤ w.heap.size + 1 by omega)
  refine bodyPost_ret (v := wv y q) ?_ rfl ⟨y, q, rfl, G, O.below (by omega), ok⟩
  exact rs_row rfl _ _ (w.heap.size + 1) y q rfl R3

/-- A right world lies in this box, its lists in memory of its own. -/
def Lies (z zo : Nat) (wr : World) : Prop := ∃ y q, Has wr zo 92 (cs23 y q) ∧ OwnB z wr y.br q ∧ OkW y
set_option maxRecDepth 100000 in
set_option maxHeartbeats 2000000 in
theorem specTurnedMany (x : V) (p : P) (n : Nat) (g : Int) (w : World) (h : Arg w x.br p) (ho : OkW x) (hn : n ≤ 500) (hg1 : -1000 ≤ g) (hg2 : g ≤ 1000) : Calls Tryz.prog 112 #[wv x p, .int .i64 n, .int .i64 g] w (RetW w) := by
  have K := (Has.fresh w 92 (cs23 x p)).alloc (Obj.cells z23 92)
  have R := Has.fresh (w.alloc (Obj.cells (cs23 x p) 92)) 92 z23
  have G := gr_alloc (World.grownBy_alloc w (Obj.cells (cs23 x p) 92) none) (Obj.cells z23 92)
  simp only [World.size_alloc] at R
  have hsW : w.heap.size + 1 < ((w.alloc (Obj.cells (cs23 x p) 92)).alloc (Obj.cells z23 92)).heap.size := by simp
  have cO := fun W k => specWorldOk x p W k ho
  have cC := fun W k => specCopyW x p W k ho
  have q1 := fun W => fix.specIn n 0 500 W
  rw [inb_of (show (0 : Int) ≤ (n : Int) ∧ (n : Int) ≤ 500 by omega)] at q1
  have HO := Lib.hid ho
  clear ho
  go_enter Tryz.func112, Tryz.ntmps112
  go_upto_region 1 with fail
  generalize (w.alloc (Obj.cells (cs23 x p) 92)).alloc (Obj.cells z23 92) = v0 at *
  go_wp2_with (refine ld_row rfl _ rfl w.heap.size x p rfl K ?_)
  refine (cO _ (h.kept G)).mono ?_
  rintro e v1 ⟨rfl, r⟩
  replace G := gr_trans G r
  replace K := K.grown r (by simp)
  replace R := R.grown r (by simp)
  replace hsW := Nat.lt_of_lt_of_le hsW r.size
  clear r cO
  go_wp2_with fail
  refine (q1 _).mono ?_
  rintro e v1' ⟨rfl, rfl⟩
  clear q1
  go_wp2_with (refine ld_row rfl _ rfl w.heap.size x p rfl K ?_)
  refine (cC _ (h.kept G)).mono ?_
  rintro e v2 ⟨q, rfl, r, O⟩
  replace G := gr_trans G r
  replace R := R.grown r (by simp)
  have hs2 := Nat.lt_of_lt_of_le hsW r.size
  have hv12 := r.size
  clear r cC K
  go_wp2_with (refine st_row rfl _ _ rfl rfl v2.heap.size x q _ rfl rfl (Has.fresh v2 92 _) rfl ?_; intro v3 c3 K5)
  have ga := World.grownBy_alloc v2 (Obj.cells z23 92) none
  replace O := (O.kept ga).far (Has.fresh v2 92 z23) (by decide) (by decide) (by decide) c3
  have G1 := gr_past ga c3 (Nat.le_refl _)
  replace G := gr_trans G G1
  replace R := R.grown G1 (by simp)
  have lz := K5.lt
  clear c3 G1 ga
  generalize v2.heap.size = zo at *
  have hL : Lies v1.heap.size zo v3 := ⟨x, q, K5, O, HO.out⟩
  clear K5 O
  go_loopw [1] (fun i wr => ∃ k : Nat, k ≤ n ∧ i = .int .i64 k ∧ Has wr (w.heap.size + 1) 92 z23 ∧ w.grownBy wr none ∧ Lies v1.heap.size zo wr) (fun i _ => (intOf i).toNat)
  case atStart => exact ⟨n, Nat.le_refl _, rfl, R, G, hL⟩
  case round =>
    clear R G hL lz
    obtain ⟨k, hk, rfl, R, G, y, q2, K5, O, ok⟩ := hrel
    by_cases hlt : 0 < k
    · have cT := fun W k => specTurn y q2 g W k ok hg1 hg2
      go_wp2_with (refine ld_row rfl _ rfl zo y q2 rfl K5 ?_)
      refine (cT _ O.arg).mono ?_
      rintro e v5 ⟨y3, q3, rfl, r, O3, ok3⟩
      have hsz := r.size
      have l5 := K5.lt
      go_wp2_with (refine st_row rfl _ _ rfl rfl zo y3 q3 _ rfl rfl (K5.grown r (by simp)) rfl ?_; intro v6 c6 K6)
      have O6 := (O3.below (show v1.heap.size ≤ wr.heap.size by omega)).far (K5.grown r (by simp)) (by decide) (by decide) (by decide) c6
      have hG : w.grownBy v6 none := gr_past (gr_trans G r) c6 (by omega)
      have hR : Has v6 (w.heap.size + 1) 92 z23 := (R.grown r (by simp)).grown c6 (by simp; omega)
      have hL : Lies v1.heap.size zo v6 := ⟨y3, q3, K6, O6, ok3⟩
      clear O3 O6 K6 cT
      go_roundw
      case rel => exact ⟨k - 1, by omega, by go_num, hR, hG, hL⟩
      case measure => simp [intOf]; omega
    · obtain rfl : k = 0 := by omega
      go_wp2_with (first | (refine ld_row rfl _ rfl zo y q2 rfl K5 ?_) | (refine st_row rfl _ _ rfl rfl (w.heap.size + 1) y q2 z23 rfl rfl R rfl ?_; intro v7 c7 R7))
      replace O := O.low c7 hsW
      replace G := gr_past G c7 (show w.heap.size ≤ w.heap.size + 1 by omega)
      refine bodyPost_ret (v := wv y q2) ?_ rfl ⟨y, q2, rfl, G, O.below (by omega), ok⟩
      exact rs_row rfl _ _ (w.heap.size + 1) y q2 rfl R7
end Go.Proofs.YtdikhdfpcipdbaaGreatDoor.wd
