/- Chapter 19 of the model: an act happens to a right world. -/
import Derived.Test.YtdikhdfpcipdbaaGreatDoorHp
namespace Go.Proofs.YtdikhdfpcipdbaaGreatDoor.wd
open Go Go.ChangeShapes Go.WideShapes Go.ChangeAt Go.RowKit
open Go.Proofs.YtdikhdfpcipdbaaGreatDoor.nums Go.Proofs.YtdikhdfpcipdbaaGreatDoor.mem
open Go.Proofs.YtdikhdfpcipdbaaGreatDoor.tab (Ret)
open Go.Proofs.YtdikhdfpcipdbaaGreatDoor.il (nth)
open Go.Proofs.YtdikhdfpcipdbaaGreatDoor.br (B P OkB Arg OwnB str bv Seven)
set_option linter.unusedVariables false

/-- A right world comes back, and whether it was done. -/
def RetH (w : World) (e : Ending) (w' : World) : Prop := ∃ y q b, e = .returned (.tuple #[wv y q, .bool b]) ∧ w.grownBy w' none ∧ OwnB w.heap.size w' y.br q ∧ OkW y
theorem rs_row2 {fn : Func} {t s : Tmp} (h : fn.results = #[.cell t 92, .tmp s]) (tmps : Array Value) (w : World) (g : Nat) (x : V) (p : P) (v : Value) (hp : tmps.getD t undef = .pointer (some ⟨g, 0, none⟩)) (hv : tmps.getD s undef = v) (H : Has w g 92 (cs23 x p)) :
    (results fn tmps).run Tryz.prog w = .ok (.tuple #[wv x p, v]) w := by
  have hp' : tmps[t]?.getD undef = .pointer (some ⟨g, 0, none⟩) := by simpa using hp
  have hv' : tmps[s]?.getD undef = v := by simpa using hv
  have hl := run_loadVar_row (P := Tryz.prog) w g _ 92 (cs23 x p) (0, 0) _ H Tryz.underlying92 rfl (by rw [infoW]; rfl)
  simp [results, h, hp', hv', asAddr, hl]
/-- One more is broken. -/
def brk (b : Int) (n : Nat) : Int := bits BinOp.or IntKind.i64 b (wrap64 (2 ^ n))
theorem brk_all : ((List.range 64).all fun b => (List.range 6).all fun n => decide (0 ≤ brk (b : Int) n) && decide (brk (b : Int) n ≤ 63)) = true := by kernel_rfl
theorem brk_in {b : Int} (hb : 0 ≤ b ∧ b ≤ 63) {n : Nat} (hn : n ≤ 5) : 0 ≤ brk b n ∧ brk b n ≤ 63 := by
  obtain ⟨m, rfl⟩ : ∃ m : Nat, b = m := ⟨b.toNat, by omega⟩
  have h1 := List.all_eq_true.1 brk_all m (List.mem_range.2 (by omega))
  have h2 := List.all_eq_true.1 h1 n (List.mem_range.2 (by omega))
  simpa using h2
theorem nat_of {x : Int} (h0 : 0 ≤ x) : ∃ n : Nat, x = n := ⟨x.toNat, by omega⟩

set_option maxRecDepth 100000 in
set_option maxHeartbeats 4000000 in
theorem specHappen (x : V) (p : P) (k N : Int) (w : World) (h : Arg w x.br p) (ho : OkW x) : Calls Tryz.prog 87 #[wv x p, .agg #[.int .i64 k, .int .i64 N]] w (RetH w) := by
  have K := ((Has.fresh w 92 (cs23 x p)).alloc (Obj.cells #[.int .i64 k, .int .i64 N] 118)).alloc (Obj.cells z23 92)
  have A := (Has.fresh (w.alloc (Obj.cells (cs23 x p) 92)) 118 #[.int .i64 k, .int .i64 N]).alloc (Obj.cells z23 92)
  have R := Has.fresh ((w.alloc (Obj.cells (cs23 x p) 92)).alloc (Obj.cells #[.int .i64 k, .int .i64 N] 118)) 92 z23
  have G := gr_alloc (gr_alloc (World.grownBy_alloc w (Obj.cells (cs23 x p) 92) none) (Obj.cells #[.int .i64 k, .int .i64 N] 118)) (Obj.cells z23 92)
  simp only [World.size_alloc] at R A
  have hsW : w.heap.size + 1 + 1 < (((w.alloc (Obj.cells (cs23 x p) 92)).alloc (Obj.cells #[.int .i64 k, .int .i64 N] 118)).alloc (Obj.cells z23 92)).heap.size := by simp
  have cO := fun W k => specWorldOk x p W k ho
  have cC := fun W k => specCopyW x p W k ho
  have HO := Lib.hid ho
  clear ho
  have q1 := fun W => fix.specIn k 1 8 W
  go_enter Tryz.func87, Tryz.ntmps87
  go_upto_region 1 with fail
  generalize ((w.alloc (Obj.cells (cs23 x p) 92)).alloc (Obj.cells #[.int .i64 k, .int .i64 N] 118)).alloc (Obj.cells z23 92) = v0 at *
  go_wp2_with (refine ld_row rfl _ rfl w.heap.size x p rfl K ?_)
  refine (cO _ (h.kept G)).mono ?_
  rintro e v1 ⟨rfl, r⟩
  replace G := gr_trans G r
  replace K := K.grown r (by simp)
  replace A := A.grown r (by simp)
  replace R := R.grown r (by simp)
  replace hsW := Nat.lt_of_lt_of_le hsW r.size
  clear r cO
  go_wp2_with (refine ld_row rfl _ rfl w.heap.size x p rfl K ?_)
  refine (cC _ (h.kept G)).mono ?_
  rintro e v2 ⟨q, rfl, r, O⟩
  replace G := gr_trans G r
  replace K := K.grown r (by simp)
  replace A := A.grown r (by simp)
  replace R := R.grown r (by simp)
  have hv12 := r.size
  clear r cC
  go_upto_region 4 with (refine st_row rfl _ _ rfl rfl v2.heap.size x q _ rfl rfl (Has.fresh v2 92 _) rfl ?_; intro v3 c3 K5)
  have ga := World.grownBy_alloc v2 (Obj.cells z23 92) none
  replace O := (O.kept ga).far (Has.fresh v2 92 z23) (by decide) (by decide) (by decide) c3
  have G1 := gr_past ga c3 (Nat.le_refl _)
  replace G := gr_trans G G1
  replace K := K.grown G1 (by simp)
  replace A := A.grown G1 (by simp)
  replace R := R.grown G1 (by simp)
  have lz := K5.lt
  have lzo : w.heap.size + 1 + 1 < v2.heap.size := by omega
  clear c3 G1 ga
  generalize v2.heap.size = zo at *
  have a0 : v3.cell? ⟨w.heap.size + 1, 0, none⟩ = some (.int .i64 k) := A.cell 0
  have a1 : v3.cell? ⟨w.heap.size + 1, 1, none⟩ = some (.int .i64 N) := A.cell 1
  cases hk : inb k 1 8
  · rw [hk] at q1
    go_wp2_with fail
    refine (q1 _).mono ?_
    rintro e v4 ⟨rfl, rfl⟩
    clear a0 a1
    go_wp2_with (first | (refine ld_row rfl _ rfl zo x q rfl K5 ?_) | (refine st_row rfl _ _ rfl rfl (w.heap.size + 1 + 1) x q z23 rfl rfl R rfl ?_; intro v7 c7 R7))
    replace O := O.low c7 hsW
    replace G := gr_past G c7 (show w.heap.size ≤ w.heap.size + 1 + 1 by omega)
    refine bodyPost_ret (v := .tuple #[wv x q, .bool false]) ?_ rfl ⟨x, q, false, rfl, G, O.below (by omega), HO.out⟩
    exact rs_row2 rfl _ _ (w.heap.size + 1 + 1) x q (.bool false) rfl rfl R7
  · rw [hk] at q1
    obtain ⟨j, hj, rfl⟩ : ∃ j : Nat, j < 8 ∧ k = (j : Int) + 1 := ⟨(k - 1).toNat, by unfold inb at hk; simp at hk; omega, by unfold inb at hk; simp at hk; omega⟩
    clear hk
    have cR := fun W => specRange j W hj
    have q2 := fun W => fix.specIn N (nth lows j) (nth highs j) W
    go_wp2_with fail
    refine (q1 _).mono ?_
    rintro e v4 ⟨rfl, rfl⟩
    go_wp2_with fail
    refine (cR _).mono ?_
    rintro e v5 ⟨rfl, r⟩
    replace G := gr_trans G r
    replace K := K.grown r (by simp)
    replace A := A.grown r (by simp)
    replace R := R.grown r (by simp)
    replace K5 := K5.grown r (by simp)
    replace O := O.kept r
    have lz5 := K5.lt
    clear r cR q1 a0 a1
    have a0 : v5.cell? ⟨w.heap.size + 1, 0, none⟩ = some (.int .i64 ((j : Int) + 1)) := A.cell 0
    have a1 : v5.cell? ⟨w.heap.size + 1, 1, none⟩ = some (.int .i64 N) := A.cell 1
    cases hN : inb N (nth lows j) (nth highs j)
    · rw [hN] at q2
      go_wp2_with fail
      refine (q2 _).mono ?_
      rintro e v6 ⟨rfl, rfl⟩
      clear a0 a1
      go_wp2_with (first | (refine ld_row rfl _ rfl zo x q rfl K5 ?_) | (refine st_row rfl _ _ rfl rfl (w.heap.size + 1 + 1) x q z23 rfl rfl R rfl ?_; intro v7 c7 R7))
      replace O := O.low c7 hsW
      replace G := gr_past G c7 (show w.heap.size ≤ w.heap.size + 1 + 1 by omega)
      refine bodyPost_ret (v := .tuple #[wv x q, .bool false]) ?_ rfl ⟨x, q, false, rfl, G, O.below (by omega), HO.out⟩
      exact rs_row2 rfl _ _ (w.heap.size + 1 + 1) x q (.bool false) rfl rfl R7
    · rw [hN] at q2
      have hN2 : nth lows j ≤ N ∧ N ≤ nth highs j := by unfold inb at hN; simpa using hN
      clear hN
      go_wp2_with fail
      refine (q2 _).mono ?_
      rintro e v6 ⟨rfl, rfl⟩
      clear q2
      rcases (show j = 0 ∨ j = 1 ∨ j = 2 ∨ j = 3 ∨ j = 4 ∨ j = 5 ∨ j = 6 ∨ j = 7 by omega) with rfl | rfl | rfl | rfl | rfl | rfl | rfl | rfl
      · replace a0 : v5.cell? ⟨w.heap.size + 1, 0, none⟩ = some (.int .i64 1) := a0
        have hN3 : 0 ≤ N ∧ N ≤ 1 := hN2
        clear hN2
        rcases (show N = 0 ∨ N = 1 by omega) with rfl | rfl
        · skip
          have m : v5.cell? ⟨zo, 20, none⟩ = some (.bool x.ar) := K5.cell 20
          have f := K5.frozen 20
          go_upto_region 26 with fail
          replace O := O.far K5 (by decide) (by decide) (by decide) (gr_set (gr_refl v5 (some zo)) 20 (.bool false))
          replace G := gr_new G (show w.heap.size ≤ zo by omega) 20 (.bool false)
          replace R := R.set_other (show w.heap.size + 1 + 1 ≠ zo by omega) 20 (.bool false)
          have K6 : Has (v5.setCell ⟨zo, 20, none⟩ (.bool false)) zo 92 (cs23 ⟨x.br, x.he, x.ri, x.sp, x.bk, x.li, x.ly, x.wa, false, x.sq, x.lo⟩ q) := put20 K5 (.bool false)
          clear K5 K A a0 a1 m f
          generalize v5.setCell ⟨zo, 20, none⟩ (.bool false) = v6 at *
          go_wp2_with (first | (refine ld_row rfl _ rfl zo ⟨x.br, x.he, x.ri, x.sp, x.bk, x.li, x.ly, x.wa, false, x.sq, x.lo⟩ q rfl K6 ?_) | (refine st_row rfl _ _ rfl rfl (w.heap.size + 1 + 1) ⟨x.br, x.he, x.ri, x.sp, x.bk, x.li, x.ly, x.wa, false, x.sq, x.lo⟩ q z23 rfl rfl R rfl ?_; intro v7 c7 R7))
          replace O := O.low c7 hsW
          replace G := gr_past G c7 (show w.heap.size ≤ w.heap.size + 1 + 1 by omega)
          refine bodyPost_ret (v := .tuple #[wv ⟨x.br, x.he, x.ri, x.sp, x.bk, x.li, x.ly, x.wa, false, x.sq, x.lo⟩ q, .bool true]) ?_ rfl ⟨⟨x.br, x.he, x.ri, x.sp, x.bk, x.li, x.ly, x.wa, false, x.sq, x.lo⟩, q, true, rfl, G, O.below (by omega), ⟨HO.out.br, HO.out.he, HO.out.ri, HO.out.sp, HO.out.bk, HO.out.li, HO.out.ly, HO.out.wa, HO.out.sq, HO.out.lo⟩⟩
          exact rs_row2 rfl _ _ (w.heap.size + 1 + 1) ⟨x.br, x.he, x.ri, x.sp, x.bk, x.li, x.ly, x.wa, false, x.sq, x.lo⟩ q (.bool true) rfl rfl R7
        · skip
          have m : v5.cell? ⟨zo, 20, none⟩ = some (.bool x.ar) := K5.cell 20
          have f := K5.frozen 20
          go_upto_region 26 with fail
          replace O := O.far K5 (by decide) (by decide) (by decide) (gr_set (gr_refl v5 (some zo)) 20 (.bool true))
          replace G := gr_new G (show w.heap.size ≤ zo by omega) 20 (.bool true)
          replace R := R.set_other (show w.heap.size + 1 + 1 ≠ zo by omega) 20 (.bool true)
          have K6 : Has (v5.setCell ⟨zo, 20, none⟩ (.bool true)) zo 92 (cs23 ⟨x.br, x.he, x.ri, x.sp, x.bk, x.li, x.ly, x.wa, true, x.sq, x.lo⟩ q) := put20 K5 (.bool true)
          clear K5 K A a0 a1 m f
          generalize v5.setCell ⟨zo, 20, none⟩ (.bool true) = v6 at *
          go_wp2_with (first | (refine ld_row rfl _ rfl zo ⟨x.br, x.he, x.ri, x.sp, x.bk, x.li, x.ly, x.wa, true, x.sq, x.lo⟩ q rfl K6 ?_) | (refine st_row rfl _ _ rfl rfl (w.heap.size + 1 + 1) ⟨x.br, x.he, x.ri, x.sp, x.bk, x.li, x.ly, x.wa, true, x.sq, x.lo⟩ q z23 rfl rfl R rfl ?_; intro v7 c7 R7))
          replace O := O.low c7 hsW
          replace G := gr_past G c7 (show w.heap.size ≤ w.heap.size + 1 + 1 by omega)
          refine bodyPost_ret (v := .tuple #[wv ⟨x.br, x.he, x.ri, x.sp, x.bk, x.li, x.ly, x.wa, true, x.sq, x.lo⟩ q, .bool true]) ?_ rfl ⟨⟨x.br, x.he, x.ri, x.sp, x.bk, x.li, x.ly, x.wa, true, x.sq, x.lo⟩, q, true, rfl, G, O.below (by omega), ⟨HO.out.br, HO.out.he, HO.out.ri, HO.out.sp, HO.out.bk, HO.out.li, HO.out.ly, HO.out.wa, HO.out.sq, HO.out.lo⟩⟩
          exact rs_row2 rfl _ _ (w.heap.size + 1 + 1) ⟨x.br, x.he, x.ri, x.sp, x.bk, x.li, x.ly, x.wa, true, x.sq, x.lo⟩ q (.bool true) rfl rfl R7
      · replace a0 : v5.cell? ⟨w.heap.size + 1, 0, none⟩ = some (.int .i64 2) := a0
        have hN3 : 0 ≤ N ∧ N ≤ 2 := hN2
        clear hN2
        have m : v5.cell? ⟨zo, 19, none⟩ = some (.int .i64 x.wa) := K5.cell 19
        have f := K5.frozen 19
        go_upto_region 26 with fail
        replace O := O.far K5 (by decide) (by decide) (by decide) (gr_set (gr_refl v5 (some zo)) 19 (.int .i64 N))
        replace G := gr_new G (show w.heap.size ≤ zo by omega) 19 (.int .i64 N)
        replace R := R.set_other (show w.heap.size + 1 + 1 ≠ zo by omega) 19 (.int .i64 N)
        have K6 : Has (v5.setCell ⟨zo, 19, none⟩ (.int .i64 N)) zo 92 (cs23 ⟨x.br, x.he, x.ri, x.sp, x.bk, x.li, x.ly, N, x.ar, x.sq, x.lo⟩ q) := put19 K5 (.int .i64 N)
        clear K5 K A a0 a1 m f
        generalize v5.setCell ⟨zo, 19, none⟩ (.int .i64 N) = v6 at *
        go_wp2_with (first | (refine ld_row rfl _ rfl zo ⟨x.br, x.he, x.ri, x.sp, x.bk, x.li, x.ly, N, x.ar, x.sq, x.lo⟩ q rfl K6 ?_) | (refine st_row rfl _ _ rfl rfl (w.heap.size + 1 + 1) ⟨x.br, x.he, x.ri, x.sp, x.bk, x.li, x.ly, N, x.ar, x.sq, x.lo⟩ q z23 rfl rfl R rfl ?_; intro v7 c7 R7))
        replace O := O.low c7 hsW
        replace G := gr_past G c7 (show w.heap.size ≤ w.heap.size + 1 + 1 by omega)
        refine bodyPost_ret (v := .tuple #[wv ⟨x.br, x.he, x.ri, x.sp, x.bk, x.li, x.ly, N, x.ar, x.sq, x.lo⟩ q, .bool true]) ?_ rfl ⟨⟨x.br, x.he, x.ri, x.sp, x.bk, x.li, x.ly, N, x.ar, x.sq, x.lo⟩, q, true, rfl, G, O.below (by omega), ⟨HO.out.br, HO.out.he, HO.out.ri, HO.out.sp, HO.out.bk, HO.out.li, HO.out.ly, hN3, HO.out.sq, HO.out.lo⟩⟩
        exact rs_row2 rfl _ _ (w.heap.size + 1 + 1) ⟨x.br, x.he, x.ri, x.sp, x.bk, x.li, x.ly, N, x.ar, x.sq, x.lo⟩ q (.bool true) rfl rfl R7
      · replace a0 : v5.cell? ⟨w.heap.size + 1, 0, none⟩ = some (.int .i64 3) := a0
        have hN3 : 0 ≤ N ∧ N ≤ 5 := hN2
        clear hN2
        obtain ⟨n, rfl⟩ := nat_of hN3.1
        have hn5 : n ≤ 5 := by omega
        have k16 : v5.cell? ⟨w.heap.size, 16, none⟩ = some (.int .i64 x.bk) := K.cell 16
        have m : v5.cell? ⟨zo, 16, none⟩ = some (.int .i64 x.bk) := K5.cell 16
        have f := K5.frozen 16
        have hb := HO.out.bk
        have hbr := brk_in hb hn5
        go_upto_region 26 with fail
        replace O := O.far K5 (by decide) (by decide) (by decide) (gr_set (gr_refl v5 (some zo)) 16 (.int .i64 (brk x.bk n)))
        replace G := gr_new G (show w.heap.size ≤ zo by omega) 16 (.int .i64 (brk x.bk n))
        replace R := R.set_other (show w.heap.size + 1 + 1 ≠ zo by omega) 16 (.int .i64 (brk x.bk n))
        have K6 : Has (v5.setCell ⟨zo, 16, none⟩ (.int .i64 (brk x.bk n))) zo 92 (cs23 ⟨x.br, x.he, x.ri, x.sp, brk x.bk n, x.li, x.ly, x.wa, x.ar, x.sq, x.lo⟩ q) := put16 K5 (.int .i64 (brk x.bk n))
        change Code.wp _ _ _ _ (v5.setCell ⟨zo, 16, none⟩ (.int .i64 (brk x.bk n)))
        clear K5 K A a0 a1 m f k16
        generalize brk x.bk n = B1 at *
        generalize v5.setCell ⟨zo, 16, none⟩ (.int .i64 B1) = v6 at *
        go_wp2_with (first | (refine ld_row rfl _ rfl zo ⟨x.br, x.he, x.ri, x.sp, B1, x.li, x.ly, x.wa, x.ar, x.sq, x.lo⟩ q rfl K6 ?_) | (refine st_row rfl _ _ rfl rfl (w.heap.size + 1 + 1) ⟨x.br, x.he, x.ri, x.sp, B1, x.li, x.ly, x.wa, x.ar, x.sq, x.lo⟩ q z23 rfl rfl R rfl ?_; intro v7 c7 R7))
        replace O := O.low c7 hsW
        replace G := gr_past G c7 (show w.heap.size ≤ w.heap.size + 1 + 1 by omega)
        refine bodyPost_ret (v := .tuple #[wv ⟨x.br, x.he, x.ri, x.sp, B1, x.li, x.ly, x.wa, x.ar, x.sq, x.lo⟩ q, .bool true]) ?_ rfl ⟨⟨x.br, x.he, x.ri, x.sp, B1, x.li, x.ly, x.wa, x.ar, x.sq, x.lo⟩, q, true, rfl, G, O.below (by omega), ⟨HO.out.br, HO.out.he, HO.out.ri, HO.out.sp, hbr, HO.out.li, HO.out.ly, HO.out.wa, HO.out.sq, HO.out.lo⟩⟩
        exact rs_row2 rfl _ _ (w.heap.size + 1 + 1) ⟨x.br, x.he, x.ri, x.sp, B1, x.li, x.ly, x.wa, x.ar, x.sq, x.lo⟩ q (.bool true) rfl rfl R7
      · replace a0 : v5.cell? ⟨w.heap.size + 1, 0, none⟩ = some (.int .i64 4) := a0
        have hN3 : (-1) ≤ N ∧ N ≤ 2 := hN2
        clear hN2
        have m : v5.cell? ⟨zo, 17, none⟩ = some (.int .i64 x.li) := K5.cell 17
        have f := K5.frozen 17
        go_upto_region 26 with fail
        replace O := O.far K5 (by decide) (by decide) (by decide) (gr_set (gr_refl v5 (some zo)) 17 (.int .i64 N))
        replace G := gr_new G (show w.heap.size ≤ zo by omega) 17 (.int .i64 N)
        replace R := R.set_other (show w.heap.size + 1 + 1 ≠ zo by omega) 17 (.int .i64 N)
        have K6 : Has (v5.setCell ⟨zo, 17, none⟩ (.int .i64 N)) zo 92 (cs23 ⟨x.br, x.he, x.ri, x.sp, x.bk, N, x.ly, x.wa, x.ar, x.sq, x.lo⟩ q) := put17 K5 (.int .i64 N)
        clear K5 K A a0 a1 m f
        generalize v5.setCell ⟨zo, 17, none⟩ (.int .i64 N) = v6 at *
        go_wp2_with (first | (refine ld_row rfl _ rfl zo ⟨x.br, x.he, x.ri, x.sp, x.bk, N, x.ly, x.wa, x.ar, x.sq, x.lo⟩ q rfl K6 ?_) | (refine st_row rfl _ _ rfl rfl (w.heap.size + 1 + 1) ⟨x.br, x.he, x.ri, x.sp, x.bk, N, x.ly, x.wa, x.ar, x.sq, x.lo⟩ q z23 rfl rfl R rfl ?_; intro v7 c7 R7))
        replace O := O.low c7 hsW
        replace G := gr_past G c7 (show w.heap.size ≤ w.heap.size + 1 + 1 by omega)
        refine bodyPost_ret (v := .tuple #[wv ⟨x.br, x.he, x.ri, x.sp, x.bk, N, x.ly, x.wa, x.ar, x.sq, x.lo⟩ q, .bool true]) ?_ rfl ⟨⟨x.br, x.he, x.ri, x.sp, x.bk, N, x.ly, x.wa, x.ar, x.sq, x.lo⟩, q, true, rfl, G, O.below (by omega), ⟨HO.out.br, HO.out.he, HO.out.ri, HO.out.sp, HO.out.bk, hN3, HO.out.ly, HO.out.wa, HO.out.sq, HO.out.lo⟩⟩
        exact rs_row2 rfl _ _ (w.heap.size + 1 + 1) ⟨x.br, x.he, x.ri, x.sp, x.bk, N, x.ly, x.wa, x.ar, x.sq, x.lo⟩ q (.bool true) rfl rfl R7
      · replace a0 : v5.cell? ⟨w.heap.size + 1, 0, none⟩ = some (.int .i64 5) := a0
        have hN3 : 0 ≤ N ∧ N ≤ 100 := hN2
        clear hN2
        have m : v5.cell? ⟨zo, 22, none⟩ = some (.int .i64 x.lo) := K5.cell 22
        have f := K5.frozen 22
        go_upto_region 26 with fail
        replace O := O.far K5 (by decide) (by decide) (by decide) (gr_set (gr_refl v5 (some zo)) 22 (.int .i64 N))
        replace G := gr_new G (show w.heap.size ≤ zo by omega) 22 (.int .i64 N)
        replace R := R.set_other (show w.heap.size + 1 + 1 ≠ zo by omega) 22 (.int .i64 N)
        have K6 : Has (v5.setCell ⟨zo, 22, none⟩ (.int .i64 N)) zo 92 (cs23 ⟨x.br, x.he, x.ri, x.sp, x.bk, x.li, x.ly, x.wa, x.ar, x.sq, N⟩ q) := put22 K5 (.int .i64 N)
        clear K5 K A a0 a1 m f
        generalize v5.setCell ⟨zo, 22, none⟩ (.int .i64 N) = v6 at *
        go_wp2_with (first | (refine ld_row rfl _ rfl zo ⟨x.br, x.he, x.ri, x.sp, x.bk, x.li, x.ly, x.wa, x.ar, x.sq, N⟩ q rfl K6 ?_) | (refine st_row rfl _ _ rfl rfl (w.heap.size + 1 + 1) ⟨x.br, x.he, x.ri, x.sp, x.bk, x.li, x.ly, x.wa, x.ar, x.sq, N⟩ q z23 rfl rfl R rfl ?_; intro v7 c7 R7))
        replace O := O.low c7 hsW
        replace G := gr_past G c7 (show w.heap.size ≤ w.heap.size + 1 + 1 by omega)
        refine bodyPost_ret (v := .tuple #[wv ⟨x.br, x.he, x.ri, x.sp, x.bk, x.li, x.ly, x.wa, x.ar, x.sq, N⟩ q, .bool true]) ?_ rfl ⟨⟨x.br, x.he, x.ri, x.sp, x.bk, x.li, x.ly, x.wa, x.ar, x.sq, N⟩, q, true, rfl, G, O.below (by omega), ⟨HO.out.br, HO.out.he, HO.out.ri, HO.out.sp, HO.out.bk, HO.out.li, HO.out.ly, HO.out.wa, HO.out.sq, hN3⟩⟩
        exact rs_row2 rfl _ _ (w.heap.size + 1 + 1) ⟨x.br, x.he, x.ri, x.sp, x.bk, x.li, x.ly, x.wa, x.ar, x.sq, N⟩ q (.bool true) rfl rfl R7
      · replace a0 : v5.cell? ⟨w.heap.size + 1, 0, none⟩ = some (.int .i64 6) := a0
        have hN3 : 0 ≤ N ∧ N ≤ 200 := hN2
        clear hN2
        obtain ⟨n, rfl⟩ := nat_of hN3.1
        have cT := fun W k => specTurnedMany x p n 0 W k HO.out (by omega) (by omega) (by omega)
        go_wp2_with (refine ld_row rfl _ rfl w.heap.size x p rfl K ?_)
        refine (cT _ (h.kept G)).mono ?_
        rintro e v6 ⟨y, q2, rfl, r, O2, ok⟩
        go_upto_region 26 with (refine st_row rfl _ _ rfl rfl zo y q2 _ rfl rfl (K5.grown r (by simp)) rfl ?_; intro v8 c8 K8)
        have O := (O2.below (show v1.heap.size ≤ v5.heap.size by omega)).far (K5.grown r (by simp)) (by decide) (by decide) (by decide) c8
        replace G := gr_past (gr_trans G r) c8 (by omega)
        replace R := (R.grown r (by simp)).grown c8 (by simp; omega)
        clear O2 K5 c8 cT
        go_wp2_with (first | (refine ld_row rfl _ rfl zo y q2 rfl K8 ?_) | (refine st_row rfl _ _ rfl rfl (w.heap.size + 1 + 1) y q2 z23 rfl rfl R rfl ?_; intro v7 c7 R7))
        replace O := O.low c7 hsW
        replace G := gr_past G c7 (show w.heap.size ≤ w.heap.size + 1 + 1 by omega)
        refine bodyPost_ret (v := .tuple #[wv y q2, .bool true]) ?_ rfl ⟨y, q2, true, rfl, G, O.below (by omega), ok⟩
        exact rs_row2 rfl _ _ (w.heap.size + 1 + 1) y q2 (.bool true) rfl rfl R7
      · replace a0 : v5.cell? ⟨w.heap.size + 1, 0, none⟩ = some (.int .i64 7) := a0
        have hN3 : (-3) ≤ N ∧ N ≤ 3 := hN2
        clear hN2
        have cT := fun W k => specTurned x p N W k HO.out (by omega) (by omega)
        go_wp2_with (refine ld_row rfl _ rfl w.heap.size x p rfl K ?_)
        refine (cT _ (h.kept G)).mono ?_
        rintro e v6 ⟨y, q2, rfl, r, O2, ok⟩
        go_upto_region 26 with (refine st_row rfl _ _ rfl rfl zo y q2 _ rfl rfl (K5.grown r (by simp)) rfl ?_; intro v8 c8 K8)
        have O := (O2.below (show v1.heap.size ≤ v5.heap.size by omega)).far (K5.grown r (by simp)) (by decide) (by decide) (by decide) c8
        replace G := gr_past (gr_trans G r) c8 (by omega)
        replace R := (R.grown r (by simp)).grown c8 (by simp; omega)
        clear O2 K5 c8 cT
        go_wp2_with (first | (refine ld_row rfl _ rfl zo y q2 rfl K8 ?_) | (refine st_row rfl _ _ rfl rfl (w.heap.size + 1 + 1) y q2 z23 rfl rfl R rfl ?_; intro v7 c7 R7))
        replace O := O.low c7 hsW
        replace G := gr_past G c7 (show w.heap.size ≤ w.heap.size + 1 + 1 by omega)
        refine bodyPost_ret (v := .tuple #[wv y q2, .bool true]) ?_ rfl ⟨y, q2, true, rfl, G, O.below (by omega), ok⟩
        exact rs_row2 rfl _ _ (w.heap.size + 1 + 1) y q2 (.bool true) rfl rfl R7
      · replace a0 : v5.cell? ⟨w.heap.size + 1, 0, none⟩ = some (.int .i64 8) := a0
        have hN3 : (-1000000) ≤ N ∧ N ≤ 1000000 := hN2
        clear hN2
        have m : v5.cell? ⟨zo, 18, none⟩ = some (.int .i64 x.ly) := K5.cell 18
        have f := K5.frozen 18
        go_upto_region 26 with fail
        replace O := O.far K5 (by decide) (by decide) (by decide) (gr_set (gr_refl v5 (some zo)) 18 (.int .i64 N))
        replace G := gr_new G (show w.heap.size ≤ zo by omega) 18 (.int .i64 N)
        replace R := R.set_other (show w.heap.size + 1 + 1 ≠ zo by omega) 18 (.int .i64 N)
        have K6 : Has (v5.setCell ⟨zo, 18, none⟩ (.int .i64 N)) zo 92 (cs23 ⟨x.br, x.he, x.ri, x.sp, x.bk, x.li, N, x.wa, x.ar, x.sq, x.lo⟩ q) := put18 K5 (.int .i64 N)
        clear K5 K A a0 a1 m f
        generalize v5.setCell ⟨zo, 18, none⟩ (.int .i64 N) = v6 at *
        go_wp2_with (first | (refine ld_row rfl _ rfl zo ⟨x.br, x.he, x.ri, x.sp, x.bk, x.li, N, x.wa, x.ar, x.sq, x.lo⟩ q rfl K6 ?_) | (refine st_row rfl _ _ rfl rfl (w.heap.size + 1 + 1) ⟨x.br, x.he, x.ri, x.sp, x.bk, x.li, N, x.wa, x.ar, x.sq, x.lo⟩ q z23 rfl rfl R rfl ?_; intro v7 c7 R7))
        replace O := O.low c7 hsW
        replace G := gr_past G c7 (show w.heap.size ≤ w.heap.size + 1 + 1 by omega)
        refine bodyPost_ret (v := .tuple #[wv ⟨x.br, x.he, x.ri, x.sp, x.bk, x.li, N, x.wa, x.ar, x.sq, x.lo⟩ q, .bool true]) ?_ rfl ⟨⟨x.br, x.he, x.ri, x.sp, x.bk, x.li, N, x.wa, x.ar, x.sq, x.lo⟩, q, true, rfl, G, O.below (by omega), ⟨HO.out.br, HO.out.he, HO.out.ri, HO.out.sp, HO.out.bk, HO.out.li, hN3, HO.out.wa, HO.out.sq, HO.out.lo⟩⟩
        exact rs_row2 rfl _ _ (w.heap.size + 1 + 1) ⟨x.br, x.he, x.ri, x.sp, x.bk, x.li, N, x.wa, x.ar, x.sq, x.lo⟩ q (.bool true) rfl rfl R7
end Go.Proofs.YtdikhdfpcipdbaaGreatDoor.wd
