/- Chapter 19 of the model: an act happens to a right world. Chapter 19 of the model: an act is drawn. Chapter 18 of the model: a world is drawn. Senses drawn: those of some world of the model, or some of their lists anew. -/
import Derived.Test.YtdikhdfpcipdbaaGreatDoorG43
import Derived.Test.YtdikhdfpcipdbaaGreatDoorG15
import Derived.Test.YtdikhdfpcipdbaaGreatDoorG26
import Derived.Test.YtdikhdfpcipdbaaGreatDoorG30
import Derived.Deep.RegionHeld3
import Derived.Deep.DeepCutAuto
/- Chapter 19 of the model: an act happens to a right world. -/
namespace Go.Proofs.YtdikhdfpcipdbaaGreatDoor.wd
open Go Go.ChangeShapes Go.WideShapes Go.ChangeAt Go.RowKit
open Go.Proofs.YtdikhdfpcipdbaaGreatDoor.nums Go.Proofs.YtdikhdfpcipdbaaGreatDoor.mem
open Go.Proofs.YtdikhdfpcipdbaaGreatDoor.tab (Ret)
open Go.Proofs.YtdikhdfpcipdbaaGreatDoor.il (nth)
open Go.Proofs.YtdikhdfpcipdbaaGreatDoor.br (B P OkB Arg OwnB str bv Seven)
set_option linter.unusedVariables false

/-- A right world comes back, and whether it was done. -/
def RetH (w : World) (e : Ending) (w' : World) : Prop := ∃ y q b, e = .returned (.tuple #[wv y q, .bool b]) ∧ w.grownBy w' none ∧ OwnB w.heap.size w' y.br q ∧ OkW y
theorem rs_row2 {fn : Func} {t s : Tmp} (h : fn.results = #[.cell t 92, .tmp s]) (tmps : Array Value) (w : World) (g : Nat) (x : V) (p : P) (v : Value) (hp : tmps.getD t undef = .pointer (some ⟨g, 0, none⟩)) (hv : tmps.getD s undef = v) (H : Has w g 92 (cs23 x p)) :
    (results fn tmps).run Tryz.prog w = .ok (.tuple #[wv x p, v]) w := by
  have hp' : tmps[t]?.getD undef = .pointer (some ⟨g, 0, none⟩) := by simpa using hp
  have hv' : tmps[s]?.getD undef = v := by simpa using hv
  have hl := run_loadVar_row (P := Tryz.prog) w g _ 92 (cs23 x p) (0, 0) _ H Tryz.underlying92 rfl (by rw [infoW]; rfl)
  simp [results, h, hp', hv', asAddr, hl]
/-- One more is broken. -/
def brk (b : Int) (n : Nat) : Int := bits BinOp.or IntKind.i64 b (wrap64 (2 ^ n))
theorem brk_all : ((List.range 64).all fun b => (List.range 6).all fun n => decide (0 ≤ brk (b : Int) n) && decide (brk (b : Int) n ≤ 63)) = true := by kernel_rfl
theorem brk_in {b : Int} (hb : 0 ≤ b ∧ b ≤ 63) {n : Nat} (hn : n ≤ 5) : 0 ≤ brk b n ∧ brk b n ≤ 63 := by
  obtain ⟨m, rfl⟩ : ∃ m : Nat, b = m := ⟨b.toNat, by omega⟩
  have h1 := List.all_eq_true.1 brk_all m (List.mem_range.2 (by omega))
  have h2 := List.all_eq_true.1 h1 n (List.mem_range.2 (by omega))
  simpa using h2
theorem nat_of {x : Int} (h0 : 0 ≤ x) : ∃ n : Nat, x = n := ⟨x.toNat, by omega⟩

set_option maxRecDepth 100000 in
set_option maxHeartbeats 4000000 in
theorem specHappen (x : V) (p : P) (k N : Int) (w : World) (h : Arg w x.br p) (ho : OkW x) : Calls Tryz.prog 87 #[wv x p, .agg #[.int .i64 k, .int .i64 N]] w (RetH w) := by
  have K := ((Has.fresh w 92 (cs23 x p)).alloc (Obj.cells #[.int .i64 k, .int .i64 N] 118)).alloc (Obj.cells z23 92)
  have A := (Has.fresh (w.alloc (Obj.cells (cs23 x p) 92)) 118 #[.int .i64 k, .int .i64 N]).alloc (Obj.cells z23 92)
  have R := Has.fresh ((w.alloc (Obj.cells (cs23 x p) 92)).alloc (Obj.cells #[.int .i64 k, .int .i64 N] 118)) 92 z23
  have G := gr_alloc (gr_alloc (World.grownBy_alloc w (Obj.cells (cs23 x p) 92) none) (Obj.cells #[.int .i64 k, .int .i64 N] 118)) (Obj.cells z23 92)
  simp only [World.size_alloc] at R A
  have hsW : w.heap.size + 1 + 1 < (((w.alloc (Obj.cells (cs23 x p) 92)).alloc (Obj.cells #[.int .i64 k, .int .i64 N] 118)).alloc (Obj.cells z23 92)).heap.size := by simp
  have cO := fun W k => specWorldOk x p W k ho
  have cC := fun W k => specCopyW x p W k ho
  have HO := Lib.hid ho
  clear ho
  have q1 := fun W => fix.specIn k 1 8 W
  go_enter Tryz.func87, Tryz.ntmps87
  go_upto_region 1 with fail
  generalize ((w.alloc (Obj.cells (cs23 x p) 92)).alloc (Obj.cells #[.int .i64 k, .int .i64 N] 118)).alloc (Obj.cells z23 92) = v0 at *
  go_wp2_with (refine ld_row rfl _ rfl w.heap.size x p rfl K ?_)
  refine (cO _ (h.kept G)).mono ?_
  rintro e v1 ⟨rfl, r⟩
  replace G := gr_trans G r
  replace K := K.grown r (by simp)
  replace A := A.grown r (by simp)
  replace R := R.grown r (by simp)
  replace hsW := Nat.lt_of_lt_of_le hsW r.size
  clear r cO
  go_wp2_with (refine ld_row rfl _ rfl w.heap.size x p rfl K ?_)
  refine (cC _ (h.kept G)).mono ?_
  rintro e v2 ⟨q, rfl, r, O⟩
  replace G := gr_trans G r
  replace K := K.grown r (by simp)
  replace A := A.grown r (by simp)
  replace R := R.grown r (by simp)
  have hv12 := r.size
  clear r cC
  go_upto_region 4 with (refine st_row rfl _ _ rfl rfl v2.heap.size x q _ rfl rfl (Has.fresh v2 92 _) rfl ?_; intro v3 c3 K5)
  have ga := World.grownBy_alloc v2 (Obj.cells z23 92) none
  replace O := (O.kept ga).far (Has.fresh v2 92 z23) (by decide) (by decide) (by decide) c3
  have G1 := gr_past ga c3 (Nat.le_refl _)
  replace G := gr_trans G G1
  replace K := K.grown G1 (by simp)
  replace A := A.grown G1 (by simp)
  replace R := R.grown G1 (by simp)
  have lz := K5.lt
  have lzo : w.heap.size + 1 + 1 < v2.heap.size := by omega
  clear c3 G1 ga
  generalize v2.heap.size = zo at *
  have a0 : v3.cell? ⟨w.heap.size + 1, 0, none⟩ = some (.int .i64 k) := A.cell 0
  have a1 : v3.cell? ⟨w.heap.size + 1, 1, none⟩ = some (.int .i64 N) := A.cell 1
  cases hk : inb k 1 8
  · rw [hk] at q1
    go_wp2_with fail
    refine (q1 _).mono ?_
    rintro e v4 ⟨rfl, rfl⟩
    clear a0 a1
    go_wp2_with (first | (refine ld_row rfl _ rfl zo x q rfl K5 ?_) | (refine st_row rfl _ _ rfl rfl (w.heap.size + 1 + 1) x q z23 rfl rfl R rfl ?_; intro v7 c7 R7))
    replace O := O.low c7 hsW
    replace G := gr_past G c7 (show w.heap.size ≤ w.heap.size + 1 + 1 by omega)
    refine bodyPost_ret (v := .tuple #[wv x q, .bool false]) ?_ rfl ⟨x, q, false, rfl, G, O.below (by omega), HO.out⟩
    exact rs_row2 rfl _ _ (w.heap.size + 1 + 1) x q (.bool false) rfl rfl R7
  · rw [hk] at q1
    obtain ⟨j, hj, rfl⟩ : ∃ j : Nat, j < 8 ∧ k = (j : Int) + 1 := ⟨(k - 1).toNat, by unfold inb at hk; simp at hk; omega, by unfold inb at hk; simp at hk; omega⟩
    clear hk
    have cR := fun W => specRange j W hj
    have q2 := fun W => fix.specIn N (nth lows j) (nth highs j) W
    go_wp2_with fail
    refine (q1 _).mono ?_
    rintro e v4 ⟨rfl, rfl⟩
    go_wp2_with fail
    refine (cR _).mono ?_
    rintro e v5 ⟨rfl, r⟩
    replace G := gr_trans G r
    replace K := K.grown r (by simp)
    replace A := A.grown r (by simp)
    replace R := R.grown r (by simp)
    replace K5 := K5.grown r (by simp)
    replace O := O.kept r
    have lz5 := K5.lt
    clear r cR q1 a0 a1
    have a0 : v5.cell? ⟨w.heap.size + 1, 0, none⟩ = some (.int .i64 ((j : Int) + 1)) := A.cell 0
    have a1 : v5.cell? ⟨w.heap.size + 1, 1, none⟩ = some (.int .i64 N) := A.cell 1
    cases hN : inb N (nth lows j) (nth highs j)
    · rw [hN] at q2
      go_wp2_with fail
      refine (q2 _).mono ?_
      rintro e v6 ⟨rfl, rfl⟩
      clear a0 a1
      go_wp2_with (first | (refine ld_row rfl _ rfl zo x q rfl K5 ?_) | (refine st_row rfl _ _ rfl rfl (w.heap.size + 1 + 1) x q z23 rfl rfl R rfl ?_; intro v7 c7 R7))
      replace O := O.low c7 hsW
      replace G := gr_past G c7 (show w.heap.size ≤ w.heap.size + 1 + 1 by omega)
      refine bodyPost_ret (v := .tuple #[wv x q, .bool false]) ?_ rfl ⟨x, q, false, rfl, G, O.below (by omega), HO.out⟩
      exact rs_row2 rfl _ _ (w.heap.size + 1 + 1) x q (.bool false) rfl rfl R7
    · rw [hN] at q2
      have hN2 : nth lows j ≤ N ∧ N ≤ nth highs j := by unfold inb at hN; simpa using hN
      clear hN
      go_wp2_with fail
      refine (q2 _).mono ?_
      rintro e v6 ⟨rfl, rfl⟩
      clear q2
      rcases (show j = 0 ∨ j = 1 ∨ j = 2 ∨ j = 3 ∨ j = 4 ∨ j = 5 ∨ j = 6 ∨ j = 7 by omega) with rfl | rfl | rfl | rfl | rfl | rfl | rfl | rfl
      · replace a0 : v5.cell? ⟨w.heap.size + 1, 0, none⟩ = some (.int .i64 1) := a0
        have hN3 : 0 ≤ N ∧ N ≤ 1 := hN2
        clear hN2
        rcases (show N = 0 ∨ N = 1 by omega) with rfl | rfl
        · skip
          have m : v5.cell? ⟨zo, 20, none⟩ = some (.bool x.ar) := K5.cell 20
          have f := K5.frozen 20
          go_upto_region 26 with fail
          replace O := O.far K5 (by decide) (by decide) (by decide) (gr_set (gr_refl v5 (some zo)) 20 (.bool false))
          replace G := gr_new G (show w.heap.size ≤ zo by omega) 20 (.bool false)
          replace R := R.set_other (show w.heap.size + 1 + 1 ≠ zo by omega) 20 (.bool false)
          have K6 : Has (v5.setCell ⟨zo, 20, none⟩ (.bool false)) zo 92 (cs23 ⟨x.br, x.he, x.ri, x.sp, x.bk, x.li, x.ly, x.wa, false, x.sq, x.lo⟩ q) := put20 K5 (.bool false)
          clear K5 K A a0 a1 m f
          generalize v5.setCell ⟨zo, 20, none⟩ (.bool false) = v6 at *
          go_wp2_with (first | (refine ld_row rfl _ rfl zo ⟨x.br, x.he, x.ri, x.sp, x.bk, x.li, x.ly, x.wa, false, x.sq, x.lo⟩ q rfl K6 ?_) | (refine st_row rfl _ _ rfl rfl (w.heap.size + 1 + 1) ⟨x.br, x.he, x.ri, x.sp, x.bk, x.li, x.ly, x.wa, false, x.sq, x.lo⟩ q z23 rfl rfl R rfl ?_; intro v7 c7 R7))
          replace O := O.low c7 hsW
          replace G := gr_past G c7 (show w.heap.size ≤ w.heap.size + 1 + 1 by omega)
          refine bodyPost_ret (v := .tuple #[wv ⟨x.br, x.he, x.ri, x.sp, x.bk, x.li, x.ly, x.wa, false, x.sq, x.lo⟩ q, .bool true]) ?_ rfl ⟨⟨x.br, x.he, x.ri, x.sp, x.bk, x.li, x.ly, x.wa, false, x.sq, x.lo⟩, q, true, rfl, G, O.below (by omega), ⟨HO.out.br, HO.out.he, HO.out.ri, HO.out.sp, HO.out.bk, HO.out.li, HO.out.ly, HO.out.wa, HO.out.sq, HO.out.lo⟩⟩
          exact rs_row2 rfl _ _ (w.heap.size + 1 + 1) ⟨x.br, x.he, x.ri, x.sp, x.bk, x.li, x.ly, x.wa, false, x.sq, x.lo⟩ q (.bool true) rfl rfl R7
        · skip
          have m : v5.cell? ⟨zo, 20, none⟩ = some (.bool x.ar) := K5.cell 20
          have f := K5.frozen 20
          go_upto_region 26 with fail
          replace O := O.far K5 (by decide) (by decide) (by decide) (gr_set (gr_refl v5 (some zo)) 20 (.bool true))
          replace G := gr_new G (show w.heap.size ≤ zo by omega) 20 (.bool true)
          replace R := R.set_other (show w.heap.size + 1 + 1 ≠ zo by omega) 20 (.bool true)
          have K6 : Has (v5.setCell ⟨zo, 20, none⟩ (.bool true)) zo 92 (cs23 ⟨x.br, x.he, x.ri, x.sp, x.bk, x.li, x.ly, x.wa, true, x.sq, x.lo⟩ q) := put20 K5 (.bool true)
          clear K5 K A a0 a1 m f
          generalize v5.setCell ⟨zo, 20, none⟩ (.bool true) = v6 at *
          go_wp2_with (first | (refine ld_row rfl _ rfl zo ⟨x.br, x.he, x.ri, x.sp, x.bk, x.li, x.ly, x.wa, true, x.sq, x.lo⟩ q rfl K6 ?_) | (refine st_row rfl _ _ rfl rfl (w.heap.size + 1 + 1) ⟨x.br, x.he, x.ri, x.sp, x.bk, x.li, x.ly, x.wa, true, x.sq, x.lo⟩ q z23 rfl rfl R rfl ?_; intro v7 c7 R7))
          replace O := O.low c7 hsW
          replace G := gr_past G c7 (show w.heap.size ≤ w.heap.size + 1 + 1 by omega)
          refine bodyPost_ret (v := .tuple #[wv ⟨x.br, x.he, x.ri, x.sp, x.bk, x.li, x.ly, x.wa, true, x.sq, x.lo⟩ q, .bool true]) ?_ rfl ⟨⟨x.br, x.he, x.ri, x.sp, x.bk, x.li, x.ly, x.wa, true, x.sq, x.lo⟩, q, true, rfl, G, O.below (by omega), ⟨HO.out.br, HO.out.he, HO.out.ri, HO.out.sp, HO.out.bk, HO.out.li, HO.out.ly, HO.out.wa, HO.out.sq, HO.out.lo⟩⟩
          exact rs_row2 rfl _ _ (w.heap.size + 1 + 1) ⟨x.br, x.he, x.ri, x.sp, x.bk, x.li, x.ly, x.wa, true, x.sq, x.lo⟩ q (.bool true) rfl rfl R7
      · replace a0 : v5.cell? ⟨w.heap.size + 1, 0, none⟩ = some (.int .i64 2) := a0
        have hN3 : 0 ≤ N ∧ N ≤ 2 := hN2
        clear hN2
        have m : v5.cell? ⟨zo, 19, none⟩ = some (.int .i64 x.wa) := K5.cell 19
        have f := K5.frozen 19
        go_upto_region 26 with fail
        replace O := O.far K5 (by decide) (by decide) (by decide) (gr_set (gr_refl v5 (some zo)) 19 (.int .i64 N))
        replace G := gr_new G (show w.heap.size ≤ zo by omega) 19 (.int .i64 N)
        replace R := R.set_other (show w.heap.size + 1 + 1 ≠ zo by omega) 19 (.int .i64 N)
        have K6 : Has (v5.setCell ⟨zo, 19, none⟩ (.int .i64 N)) zo 92 (cs23 ⟨x.br, x.he, x.ri, x.sp, x.bk, x.li, x.ly, N, x.ar, x.sq, x.lo⟩ q) := put19 K5 (.int .i64 N)
        clear K5 K A a0 a1 m f
        generalize v5.setCell ⟨zo, 19, none⟩ (.int .i64 N) = v6 at *
        go_wp2_with (first | (refine ld_row rfl _ rfl zo ⟨x.br, x.he, x.ri, x.sp, x.bk, x.li, x.ly, N, x.ar, x.sq, x.lo⟩ q rfl K6 ?_) | (refine st_row rfl _ _ rfl rfl (w.heap.size + 1 + 1) ⟨x.br, x.he, x.ri, x.sp, x.bk, x.li, x.ly, N, x.ar, x.sq, x.lo⟩ q z23 rfl rfl R rfl ?_; intro v7 c7 R7))
        replace O := O.low c7 hsW
        replace G := gr_past G c7 (show w.heap.size ≤ w.heap.size + 1 + 1 by omega)
        refine bodyPost_ret (v := .tuple #[wv ⟨x.br, x.he, x.ri, x.sp, x.bk, x.li, x.ly, N, x.ar, x.sq, x.lo⟩ q, .bool true]) ?_ rfl ⟨⟨x.br, x.he, x.ri, x.sp, x.bk, x.li, x.ly, N, x.ar, x.sq, x.lo⟩, q, true, rfl, G, O.below (by omega), ⟨HO.out.br, HO.out.he, HO.out.ri, HO.out.sp, HO.out.bk, HO.out.li, HO.out.ly, hN3, HO.out.sq, HO.out.lo⟩⟩
        exact rs_row2 rfl _ _ (w.heap.size + 1 + 1) ⟨x.br, x.he, x.ri, x.sp, x.bk, x.li, x.ly, N, x.ar, x.sq, x.lo⟩ q (.bool true) rfl rfl R7
      · replace a0 : v5.cell? ⟨w.heap.size + 1, 0, none⟩ = some (.int .i64 3) := a0
        have hN3 : 0 ≤ N ∧ N ≤ 5 := hN2
        clear hN2
        obtain ⟨n, rfl⟩ := nat_of hN3.1
        have hn5 : n ≤ 5 := by omega
        have k16 : v5.cell? ⟨w.heap.size, 16, none⟩ = some (.int .i64 x.bk) := K.cell 16
        have m : v5.cell? ⟨zo, 16, none⟩ = some (.int .i64 x.bk) := K5.cell 16
        have f := K5.frozen 16
        have hb := HO.out.bk
        have hbr := brk_in hb hn5
        go_upto_region 26 with fail
        replace O := O.far K5 (by decide) (by decide) (by decide) (gr_set (gr_refl v5 (some zo)) 16 (.int .i64 (brk x.bk n)))
        replace G := gr_new G (show w.heap.size ≤ zo by omega) 16 (.int .i64 (brk x.bk n))
        replace R := R.set_other (show w.heap.size + 1 + 1 ≠ zo by omega) 16 (.int .i64 (brk x.bk n))
        have K6 : Has (v5.setCell ⟨zo, 16, none⟩ (.int .i64 (brk x.bk n))) zo 92 (cs23 ⟨x.br, x.he, x.ri, x.sp, brk x.bk n, x.li, x.ly, x.wa, x.ar, x.sq, x.lo⟩ q) := put16 K5 (.int .i64 (brk x.bk n))
        change Code.wp _ _ _ _ (v5.setCell ⟨zo, 16, none⟩ (.int .i64 (brk x.bk n)))
        clear K5 K A a0 a1 m f k16
        generalize brk x.bk n = B1 at *
        generalize v5.setCell ⟨zo, 16, none⟩ (.int .i64 B1) = v6 at *
        go_wp2_with (first | (refine ld_row rfl _ rfl zo ⟨x.br, x.he, x.ri, x.sp, B1, x.li, x.ly, x.wa, x.ar, x.sq, x.lo⟩ q rfl K6 ?_) | (refine st_row rfl _ _ rfl rfl (w.heap.size + 1 + 1) ⟨x.br, x.he, x.ri, x.sp, B1, x.li, x.ly, x.wa, x.ar, x.sq, x.lo⟩ q z23 rfl rfl R rfl ?_; intro v7 c7 R7))
        replace O := O.low c7 hsW
        replace G := gr_past G c7 (show w.heap.size ≤ w.heap.size + 1 + 1 by omega)
        refine bodyPost_ret (v := .tuple #[wv ⟨x.br, x.he, x.ri, x.sp, B1, x.li, x.ly, x.wa, x.ar, x.sq, x.lo⟩ q, .bool true]) ?_ rfl ⟨⟨x.br, x.he, x.ri, x.sp, B1, x.li, x.ly, x.wa, x.ar, x.sq, x.lo⟩, q, true, rfl, G, O.below (by omega), ⟨HO.out.br, HO.out.he, HO.out.ri, HO.out.sp, hbr, HO.out.li, HO.out.ly, HO.out.wa, HO.out.sq, HO.out.lo⟩⟩
        exact rs_row2 rfl _ _ (w.heap.size + 1 + 1) ⟨x.br, x.he, x.ri, x.sp, B1, x.li, x.ly, x.wa, x.ar, x.sq, x.lo⟩ q (.bool true) rfl rfl R7
      · replace a0 : v5.cell? ⟨w.heap.size + 1, 0, none⟩ = some (.int .i64 4) := a0
        have hN3 : (-1) ≤ N ∧ N ≤ 2 := hN2
        clear hN2
        have m : v5.cell? ⟨zo, 17, none⟩ = some (.int .i64 x.li) := K5.cell 17
        have f := K5.frozen 17
        go_upto_region 26 with fail
        replace O := O.far K5 (by decide) (by decide) (by decide) (gr_set (gr_refl v5 (some zo)) 17 (.int .i64 N))
        replace G := gr_new G (show w.heap.size ≤ zo by omega) 17 (.int .i64 N)
        replace R := R.set_other (show w.heap.size + 1 + 1 ≠ zo by omega) 17 (.int .i64 N)
        have K6 : Has (v5.setCell ⟨zo, 17, none⟩ (.int .i64 N)) zo 92 (cs23 ⟨x.br, x.he, x.ri, x.sp, x.bk, N, x.ly, x.wa, x.ar, x.sq, x.lo⟩ q) := put17 K5 (.int .i64 N)
        clear K5 K A a0 a1 m f
        generalize v5.setCell ⟨zo, 17, none⟩ (.int .i64 N) = v6 at *
        go_wp2_with (first | (refine ld_row rfl _ rfl zo ⟨x.br, x.he, x.ri, x.sp, x.bk, N, x.ly, x.wa, x.ar, x.sq, x.lo⟩ q rfl K6 ?_) | (refine st_row rfl _ _ rfl rfl (w.heap.size + 1 + 1) ⟨x.br, x.he, x.ri, x.sp, x.bk, N, x.ly, x.wa, x.ar, x.sq, x.lo⟩ q z23 rfl rfl R rfl ?_; intro v7 c7 R7))
        replace O := O.low c7 hsW
        replace G := gr_past G c7 (show w.heap.size ≤ w.heap.size + 1 + 1 by omega)
        refine bodyPost_ret (v := .tuple #[wv ⟨x.br, x.he, x.ri, x.sp, x.bk, N, x.ly, x.wa, x.ar, x.sq, x.lo⟩ q, .bool true]) ?_ rfl ⟨⟨x.br, x.he, x.ri, x.sp, x.bk, N, x.ly, x.wa, x.ar, x.sq, x.lo⟩, q, true, rfl, G, O.below (by omega), ⟨HO.out.br, HO.out.he, HO.out.ri, HO.out.sp, HO.out.bk, hN3, HO.out.ly, HO.out.wa, HO.out.sq, HO.out.lo⟩⟩
        exact rs_row2 rfl _ _ (w.heap.size + 1 + 1) ⟨x.br, x.he, x.ri, x.sp, x.bk, N, x.ly, x.wa, x.ar, x.sq, x.lo⟩ q (.bool true) rfl rfl R7
      · replace a0 : v5.cell? ⟨w.heap.size + 1, 0, none⟩ = some (.int .i64 5) := a0
        have hN3 : 0 ≤ N ∧ N ≤ 100 := hN2
        clear hN2
        have m : v5.cell? ⟨zo, 22, none⟩ = some (.int .i64 x.lo) := K5.cell 22
        have f := K5.frozen 22
        go_upto_region 26 with fail
        replace O := O.far K5 (by decide) (by decide) (by decide) (gr_set (gr_refl v5 (some zo)) 22 (.int .i64 N))
        replace G := gr_new G (show w.heap.size ≤ zo by omega) 22 (.int .i64 N)
        replace R := R.set_other (show w.heap.size + 1 + 1 ≠ zo by omega) 22 (.int .i64 N)
        have K6 : Has (v5.setCell ⟨zo, 22, none⟩ (.int .i64 N)) zo 92 (cs23 ⟨x.br, x.he, x.ri, x.sp, x.bk, x.li, x.ly, x.wa, x.ar, x.sq, N⟩ q) := put22 K5 (.int .i64 N)
        clear K5 K A a0 a1 m f
        generalize v5.setCell ⟨zo, 22, none⟩ (.int .i64 N) = v6 at *
        go_wp2_with (first | (refine ld_row rfl _ rfl zo ⟨x.br, x.he, x.ri, x.sp, x.bk, x.li, x.ly, x.wa, x.ar, x.sq, N⟩ q rfl K6 ?_) | (refine st_row rfl _ _ rfl rfl (w.heap.size + 1 + 1) ⟨x.br, x.he, x.ri, x.sp, x.bk, x.li, x.ly, x.wa, x.ar, x.sq, N⟩ q z23 rfl rfl R rfl ?_; intro v7 c7 R7))
        replace O := O.low c7 hsW
        replace G := gr_past G c7 (show w.heap.size ≤ w.heap.size + 1 + 1 by omega)
        refine bodyPost_ret (v := .tuple #[wv ⟨x.br, x.he, x.ri, x.sp, x.bk, x.li, x.ly, x.wa, x.ar, x.sq, N⟩ q, .bool true]) ?_ rfl ⟨⟨x.br, x.he, x.ri, x.sp, x.bk, x.li, x.ly, x.wa, x.ar, x.sq, N⟩, q, true, rfl, G, O.below (by omega), ⟨HO.out.br, HO.out.he, HO.out.ri, HO.out.sp, HO.out.bk, HO.out.li, HO.out.ly, HO.out.wa, HO.out.sq, hN3⟩⟩
        exact rs_row2 rfl _ _ (w.heap.size + 1 + 1) ⟨x.br, x.he, x.ri, x.sp, x.bk, x.li, x.ly, x.wa, x.ar, x.sq, N⟩ q (.bool true) rfl rfl R7
      · replace a0 : v5.cell? ⟨w.heap.size + 1, 0, none⟩ = some (.int .i64 6) := a0
        have hN3 : 0 ≤ N ∧ N ≤ 200 := hN2
        clear hN2
        obtain ⟨n, rfl⟩ := nat_of hN3.1
        have cT := fun W k => specTurnedMany x p n 0 W k HO.out (by omega) (by omega) (by omega)
        go_wp2_with (refine ld_row rfl _ rfl w.heap.size x p rfl K ?_)
        refine (cT _ (h.kept G)).mono ?_
        rintro e v6 ⟨y, q2, rfl, r, O2, ok⟩
        go_upto_region 26 with (refine st_row rfl _ _ rfl rfl zo y q2 _ rfl rfl (K5.grown r (by simp)) rfl ?_; intro v8 c8 K8)
        have O := (O2.below (show v1.heap.size ≤ v5.heap.size by omega)).far (K5.grown r (by simp)) (by decide) (by decide) (by decide) c8
        replace G := gr_past (gr_trans G r) c8 (by omega)
        replace R := (R.grown r (by simp)).grown c8 (by simp; omega)
        clear O2 K5 c8 cT
        go_wp2_with (first | (refine ld_row rfl _ rfl zo y q2 rfl K8 ?_) | (refine st_row rfl _ _ rfl rfl (w.heap.size + 1 + 1) y q2 z23 rfl rfl R rfl ?_; intro v7 c7 R7))
        replace O := O.low c7 hsW
        replace G := gr_past G c7 (show w.heap.size ≤ w.heap.size + 1 + 1 by omega)
        refine bodyPost_ret (v := .tuple #[wv y q2, .bool true]) ?_ rfl ⟨y, q2, true, rfl, G, O.below (by omega), ok⟩
        exact rs_row2 rfl _ _ (w.heap.size + 1 + 1) y q2 (.bool true) rfl rfl R7
      · replace a0 : v5.cell? ⟨w.heap.size + 1, 0, none⟩ = some (.int .i64 7) := a0
        have hN3 : (-3) ≤ N ∧ N ≤ 3 := hN2
        clear hN2
        have cT := fun W k => specTurned x p N W k HO.out (by omega) (by omega)
        go_wp2_with (refine ld_row rfl _ rfl w.heap.size x p rfl K ?_)
        refine (cT _ (h.kept G)).mono ?_
        rintro e v6 ⟨y, q2, rfl, r, O2, ok⟩
        go_upto_region 26 with (refine st_row rfl _ _ rfl rfl zo y q2 _ rfl rfl (K5.grown r (by simp)) rfl ?_; intro v8 c8 K8)
        have O := (O2.below (show v1.heap.size ≤ v5.heap.size by omega)).far (K5.grown r (by simp)) (by decide) (by decide) (by decide) c8
        replace G := gr_past (gr_trans G r) c8 (by omega)
        replace R := (R.grown r (by simp)).grown c8 (by simp; omega)
        clear O2 K5 c8 cT
        go_wp2_with (first | (refine ld_row rfl _ rfl zo y q2 rfl K8 ?_) | (refine st_row rfl _ _ rfl rfl (w.heap.size + 1 + 1) y q2 z23 rfl rfl R rfl ?_; intro v7 c7 R7))
        replace O := O.low c7 hsW
        replace G := gr_past G c7 (show w.heap.size ≤ w.heap.size + 1 + 1 by omega)
        refine bodyPost_ret (v := .tuple #[wv y q2, .bool true]) ?_ rfl ⟨y, q2, true, rfl, G, O.below (by omega), ok⟩
        exact rs_row2 rfl _ _ (w.heap.size + 1 + 1) y q2 (.bool true) rfl rfl R7
      · replace a0 : v5.cell? ⟨w.heap.size + 1, 0, none⟩ = some (.int .i64 8) := a0
        have hN3 : (-1000000) ≤ N ∧ N ≤ 1000000 := hN2
        clear hN2
        have m : v5.cell? ⟨zo, 18, none⟩ = some (.int .i64 x.ly) := K5.cell 18
        have f := K5.frozen 18
        go_upto_region 26 with fail
        replace O := O.far K5 (by decide) (by decide) (by decide) (gr_set (gr_refl v5 (some zo)) 18 (.int .i64 N))
        replace G := gr_new G (show w.heap.size ≤ zo by omega) 18 (.int .i64 N)
        replace R := R.set_other (show w.heap.size + 1 + 1 ≠ zo by omega) 18 (.int .i64 N)
        have K6 : Has (v5.setCell ⟨zo, 18, none⟩ (.int .i64 N)) zo 92 (cs23 ⟨x.br, x.he, x.ri, x.sp, x.bk, x.li, N, x.wa, x.ar, x.sq, x.lo⟩ q) := put18 K5 (.int .i64 N)
        clear K5 K A a0 a1 m f
        generalize v5.setCell ⟨zo, 18, none⟩ (.int .i64 N) = v6 at *
        go_wp2_with (first | (refine ld_row rfl _ rfl zo ⟨x.br, x.he, x.ri, x.sp, x.bk, x.li, N, x.wa, x.ar, x.sq, x.lo⟩ q rfl K6 ?_) | (refine st_row rfl _ _ rfl rfl (w.heap.size + 1 + 1) ⟨x.br, x.he, x.ri, x.sp, x.bk, x.li, N, x.wa, x.ar, x.sq, x.lo⟩ q z23 rfl rfl R rfl ?_; intro v7 c7 R7))
        replace O := O.low c7 hsW
        replace G := gr_past G c7 (show w.heap.size ≤ w.heap.size + 1 + 1 by omega)
        refine bodyPost_ret (v := .tuple #[wv ⟨x.br, x.he, x.ri, x.sp, x.bk, x.li, N, x.wa, x.ar, x.sq, x.lo⟩ q, .bool true]) ?_ rfl ⟨⟨x.br, x.he, x.ri, x.sp, x.bk, x.li, N, x.wa, x.ar, x.sq, x.lo⟩, q, true, rfl, G, O.below (by omega), ⟨HO.out.br, HO.out.he, HO.out.ri, HO.out.sp, HO.out.bk, HO.out.li, hN3, HO.out.wa, HO.out.sq, HO.out.lo⟩⟩
        exact rs_row2 rfl _ _ (w.heap.size + 1 + 1) ⟨x.br, x.he, x.ri, x.sp, x.bk, x.li, N, x.wa, x.ar, x.sq, x.lo⟩ q (.bool true) rfl rfl R7
end Go.Proofs.YtdikhdfpcipdbaaGreatDoor.wd

/- Chapter 19 of the model: an act is drawn. -/
namespace Go.Proofs.YtdikhdfpcipdbaaGreatDoor.wd
open Go.ChangeShapes Go.WideShapes Go.ChangeAt Go.RowKit
open Go.Proofs.YtdikhdfpcipdbaaGreatDoor.nums Go.Proofs.YtdikhdfpcipdbaaGreatDoor.mem Go.Proofs.YtdikhdfpcipdbaaGreatDoor.cur
open Go.Proofs.YtdikhdfpcipdbaaGreatDoor.tab (Ret)
open Go.Proofs.YtdikhdfpcipdbaaGreatDoor.il (nth)
set_option linter.unusedVariables false

/-- An act comes back, drawn from the cursor in block q. -/
def DrawnAct (b : Option Addr) (n c : Nat) (w : World) (q : Nat) (e : Ending) (w' : World) : Prop :=
  ∃ k N : Int, e = .returned (.agg #[.int .i64 k, .int .i64 N]) ∧ w.grownBy w' (some q) ∧ Cur b n c w' q
theorem four_at {m : Nat} (h : m < 4) : (#[Value.int .i64 1, .int .i64 1, .int .i64 0, .int .i64 2] : Array Value)[m]? = some (.int .i64 (nth [1, 1, 0, 2] m)) := by
  rcases (show m = 0 ∨ m = 1 ∨ m = 2 ∨ m = 3 by omega) with rfl | rfl | rfl | rfl <;> rfl

set_option maxRecDepth 100000 in
set_option maxHeartbeats 4000000 in
theorem drawAct (b : Option Addr) (n c q : Nat) (w : World) (hn : n ≤ 4096) (h : Cur b n c w q) :
    Calls Tryz.prog 88 #[.pointer (some ⟨q, 0, none⟩)] w (DrawnAct b n c w q) := by
  have hq := h.lt
  have K := Has.fresh w 118 #[.int .i64 0, .int .i64 0]
  have G : w.grownBy (w.alloc (Obj.cells #[.int .i64 0, .int .i64 0] 118)) (some q) := World.grownBy_alloc _ _ _
  have nq : w.heap.size ≠ q := by omega
  go_enter Tryz.func88, Tryz.ntmps88
  go_wp2_with fail
  refine (below b n c q _ 14 hn (h.alloc _) (by omega)).mono ?_
  rintro e w1 ⟨d, hd, rfl, g1, h1⟩
  replace K := K.grown g1 (fun e => by injection e with e; omega)
  replace G := gr_trans G g1
  clear g1 h
  rcases (show d = 0 ∨ d = 1 ∨ d = 2 ∨ d = 3 ∨ d = 4 ∨ d = 5 ∨ d = 6 ∨ d = 7 ∨ d = 8 ∨ d = 9 ∨ d = 10 ∨ d = 11 ∨ d = 12 ∨ d = 13 by omega) with rfl | rfl | rfl | rfl | rfl | rfl | rfl | rfl | rfl | rfl | rfl | rfl | rfl | rfl
  · go_wp2_with fail
    refine (below b n c q _ 5 hn h1 (by omega)).mono ?_
    rintro e w2 ⟨v, hv, rfl, g2, h2⟩
    replace K := K.grown g2 (fun e => by injection e with e; omega)
    replace G := gr_trans G g2
    obtain ⟨c0, c1, f0, f1⟩ := gt.two K
    go_wp2_with fail
    obtain ⟨u0, u1, _, _⟩ := gt.two (gt.set2 K (.int .i64 1) (.int .i64 (v / 4)))
    exact bodyPost_ret (v := .agg #[.int .i64 1, .int .i64 (v / 4)]) (by simp [results, Tryz.results88, go_sem, u0, u1]) rfl ⟨1, (v / 4), rfl, gr_new (gr_new G (Nat.le_refl w.heap.size) _ _) (Nat.le_refl w.heap.size) _ _, h2.kept (row := some w.heap.size) (gr_set (gr_set (gr_refl _ _) _ _) _ _) (fun r e => by injection e with e; omega)⟩
  · have D := Has.fresh w1 2 #[.int .i64 1, .int .i64 1, .int .i64 0, .int .i64 2]
    replace G := gr_alloc G (Obj.cells #[.int .i64 1, .int .i64 1, .int .i64 0, .int .i64 2] 2)
    replace K := K.alloc (Obj.cells #[.int .i64 1, .int .i64 1, .int .i64 0, .int .i64 2] 2)
    have lq1 := h1.lt
    go_wp2_with fail
    refine (below b n c q _ 4 hn (h1.alloc _) (by omega)).mono ?_
    rintro e w2 ⟨v, hv, rfl, g2, h2⟩
    replace K := K.grown g2 (fun e => by injection e with e; omega)
    replace D := D.grown g2 (fun e => by injection e with e; omega)
    replace G := gr_trans G g2
    obtain ⟨m, rfl⟩ := nat_of hv.1
    have hm : m < 4 := by omega
    have cd := (D.cell m).trans (four_at hm)
    generalize nth [1, 1, 0, 2] m = N at *
    obtain ⟨c0, c1, f0, f1⟩ := gt.two K
    go_wp2_with fail
    obtain ⟨u0, u1, _, _⟩ := gt.two (gt.set2 K (.int .i64 2) (.int .i64 N))
    exact bodyPost_ret (v := .agg #[.int .i64 2, .int .i64 N]) (by simp [results, Tryz.results88, go_sem, u0, u1]) rfl ⟨2, N, rfl, gr_new (gr_new G (Nat.le_refl w.heap.size) _ _) (Nat.le_refl w.heap.size) _ _, h2.kept (row := some w.heap.size) (gr_set (gr_set (gr_refl _ _) _ _) _ _) (fun r e => by injection e with e; omega)⟩
  · have D := Has.fresh w1 2 #[.int .i64 1, .int .i64 1, .int .i64 0, .int .i64 2]
    replace G := gr_alloc G (Obj.cells #[.int .i64 1, .int .i64 1, .int .i64 0, .int .i64 2] 2)
    replace K := K.alloc (Obj.cells #[.int .i64 1, .int .i64 1, .int .i64 0, .int .i64 2] 2)
    have lq1 := h1.lt
    go_wp2_with fail
    refine (below b n c q _ 4 hn (h1.alloc _) (by omega)).mono ?_
    rintro e w2 ⟨v, hv, rfl, g2, h2⟩
    replace K := K.grown g2 (fun e => by injection e with e; omega)
    replace D := D.grown g2 (fun e => by injection e with e; omega)
    replace G := gr_trans G g2
    obtain ⟨m, rfl⟩ := nat_of hv.1
    have hm : m < 4 := by omega
    have cd := (D.cell m).trans (four_at hm)
    generalize nth [1, 1, 0, 2] m = N at *
    obtain ⟨c0, c1, f0, f1⟩ := gt.two K
    go_wp2_with fail
    obtain ⟨u0, u1, _, _⟩ := gt.two (gt.set2 K (.int .i64 2) (.int .i64 N))
    exact bodyPost_ret (v := .agg #[.int .i64 2, .int .i64 N]) (by simp [results, Tryz.results88, go_sem, u0, u1]) rfl ⟨2, N, rfl, gr_new (gr_new G (Nat.le_refl w.heap.size) _ _) (Nat.le_refl w.heap.size) _ _, h2.kept (row := some w.heap.size) (gr_set (gr_set (gr_refl _ _) _ _) _ _) (fun r e => by injection e with e; omega)⟩
  · go_wp2_with fail
    refine (below b n c q _ 6 hn h1 (by omega)).mono ?_
    rintro e w2 ⟨v, hv, rfl, g2, h2⟩
    replace K := K.grown g2 (fun e => by injection e with e; omega)
    replace G := gr_trans G g2
    obtain ⟨c0, c1, f0, f1⟩ := gt.two K
    go_wp2_with fail
    obtain ⟨u0, u1, _, _⟩ := gt.two (gt.set2 K (.int .i64 3) (.int .i64 v))
    exact bodyPost_ret (v := .agg #[.int .i64 3, .int .i64 v]) (by simp [results, Tryz.results88, go_sem, u0, u1]) rfl ⟨3, v, rfl, gr_new (gr_new G (Nat.le_refl w.heap.size) _ _) (Nat.le_refl w.heap.size) _ _, h2.kept (row := some w.heap.size) (gr_set (gr_set (gr_refl _ _) _ _) _ _) (fun r e => by injection e with e; omega)⟩
  · go_wp2_with fail
    refine (from_ b n c q _ (-1) 2 hn h1 (by omega) (by omega) (by omega) (by omega)).mono ?_
    rintro e w2 ⟨v, hv, rfl, g2, h2⟩
    replace K := K.grown g2 (fun e => by injection e with e; omega)
    replace G := gr_trans G g2
    obtain ⟨c0, c1, f0, f1⟩ := gt.two K
    go_wp2_with fail
    obtain ⟨u0, u1, _, _⟩ := gt.two (gt.set2 K (.int .i64 4) (.int .i64 v))
    exact bodyPost_ret (v := .agg #[.int .i64 4, .int .i64 v]) (by simp [results, Tryz.results88, go_sem, u0, u1]) rfl ⟨4, v, rfl, gr_new (gr_new G (Nat.le_refl w.heap.size) _ _) (Nat.le_refl w.heap.size) _ _, h2.kept (row := some w.heap.size) (gr_set (gr_set (gr_refl _ _) _ _) _ _) (fun r e => by injection e with e; omega)⟩
  · go_wp2_with fail
    refine (below b n c q _ 12 hn h1 (by omega)).mono ?_
    rintro e w2 ⟨v, hv, rfl, g2, h2⟩
    replace K := K.grown g2 (fun e => by injection e with e; omega)
    replace G := gr_trans G g2
    obtain ⟨c0, c1, f0, f1⟩ := gt.two K
    go_wp2_with fail
    obtain ⟨u0, u1, _, _⟩ := gt.two (gt.set2 K (.int .i64 5) (.int .i64 v))
    exact bodyPost_ret (v := .agg #[.int .i64 5, .int .i64 v]) (by simp [results, Tryz.results88, go_sem, u0, u1]) rfl ⟨5, v, rfl, gr_new (gr_new G (Nat.le_refl w.heap.size) _ _) (Nat.le_refl w.heap.size) _ _, h2.kept (row := some w.heap.size) (gr_set (gr_set (gr_refl _ _) _ _) _ _) (fun r e => by injection e with e; omega)⟩
  · go_wp2_with fail
    refine (from_ b n c q _ (-3) 3 hn h1 (by omega) (by omega) (by omega) (by omega)).mono ?_
    rintro e w2 ⟨v, hv, rfl, g2, h2⟩
    replace K := K.grown g2 (fun e => by injection e with e; omega)
    replace G := gr_trans G g2
    obtain ⟨c0, c1, f0, f1⟩ := gt.two K
    go_wp2_with fail
    obtain ⟨u0, u1, _, _⟩ := gt.two (gt.set2 K (.int .i64 7) (.int .i64 v))
    exact bodyPost_ret (v := .agg #[.int .i64 7, .int .i64 v]) (by simp [results, Tryz.results88, go_sem, u0, u1]) rfl ⟨7, v, rfl, gr_new (gr_new G (Nat.le_refl w.heap.size) _ _) (Nat.le_refl w.heap.size) _ _, h2.kept (row := some w.heap.size) (gr_set (gr_set (gr_refl _ _) _ _) _ _) (fun r e => by injection e with e; omega)⟩
  · go_wp2_with fail
    refine (below b n c q _ 500 hn h1 (by omega)).mono ?_
    rintro e w2 ⟨v, hv, rfl, g2, h2⟩
    replace K := K.grown g2 (fun e => by injection e with e; omega)
    replace G := gr_trans G g2
    obtain ⟨c0, c1, f0, f1⟩ := gt.two K
    go_wp2_with fail
    obtain ⟨u0, u1, _, _⟩ := gt.two (gt.set2 K (.int .i64 8) (.int .i64 v))
    exact bodyPost_ret (v := .agg #[.int .i64 8, .int .i64 v]) (by simp [results, Tryz.results88, go_sem, u0, u1]) rfl ⟨8, v, rfl, gr_new (gr_new G (Nat.le_refl w.heap.size) _ _) (Nat.le_refl w.heap.size) _ _, h2.kept (row := some w.heap.size) (gr_set (gr_set (gr_refl _ _) _ _) _ _) (fun r e => by injection e with e; omega)⟩
  · go_wp2_with fail
    refine (from_ b n c q _ (0) 9 hn h1 (by omega) (by omega) (by omega) (by omega)).mono ?_
    rintro e w2 ⟨k, hk, rfl, g2, h2⟩
    replace K := K.grown g2 (fun e => by injection e with e; omega)
    replace G := gr_trans G g2
    clear g2
    have h3 := h2
    clear h2
    go_wp2_with fail
    refine (size b n c q _ hn h3).mono ?_
    rintro e w3 ⟨v, hv, rfl, g2, h2⟩
    replace K := K.grown g2 (fun e => by injection e with e; omega)
    replace G := gr_trans G g2
    obtain ⟨c0, c1, f0, f1⟩ := gt.two K
    go_wp2_with fail
    obtain ⟨u0, u1, _, _⟩ := gt.two (gt.set2 K (.int .i64 k) (.int .i64 v))
    exact bodyPost_ret (v := .agg #[.int .i64 k, .int .i64 v]) (by simp [results, Tryz.results88, go_sem, u0, u1]) rfl ⟨k, v, rfl, gr_new (gr_new G (Nat.le_refl w.heap.size) _ _) (Nat.le_refl w.heap.size) _ _, h2.kept (row := some w.heap.size) (gr_set (gr_set (gr_refl _ _) _ _) _ _) (fun r e => by injection e with e; omega)⟩
  · go_wp2_with fail
    refine (below b n c q _ 25 hn h1 (by omega)).mono ?_
    rintro e w2 ⟨v, hv, rfl, g2, h2⟩
    replace K := K.grown g2 (fun e => by injection e with e; omega)
    replace G := gr_trans G g2
    obtain ⟨c0, c1, f0, f1⟩ := gt.two K
    go_wp2_with fail
    obtain ⟨u0, u1, _, _⟩ := gt.two (gt.set2 K (.int .i64 6) (.int .i64 (1 + v)))
    exact bodyPost_ret (v := .agg #[.int .i64 6, .int .i64 (1 + v)]) (by simp [results, Tryz.results88, go_sem, u0, u1]) rfl ⟨6, (1 + v), rfl, gr_new (gr_new G (Nat.le_refl w.heap.size) _ _) (Nat.le_refl w.heap.size) _ _, h2.kept (row := some w.heap.size) (gr_set (gr_set (gr_refl _ _) _ _) _ _) (fun r e => by injection e with e; omega)⟩
  · go_wp2_with fail
    refine (below b n c q _ 25 hn h1 (by omega)).mono ?_
    rintro e w2 ⟨v, hv, rfl, g2, h2⟩
    replace K := K.grown g2 (fun e => by injection e with e; omega)
    replace G := gr_trans G g2
    obtain ⟨c0, c1, f0, f1⟩ := gt.two K
    go_wp2_with fail
    obtain ⟨u0, u1, _, _⟩ := gt.two (gt.set2 K (.int .i64 6) (.int .i64 (1 + v)))
    exact bodyPost_ret (v := .agg #[.int .i64 6, .int .i64 (1 + v)]) (by simp [results, Tryz.results88, go_sem, u0, u1]) rfl ⟨6, (1 + v), rfl, gr_new (gr_new G (Nat.le_refl w.heap.size) _ _) (Nat.le_refl w.heap.size) _ _, h2.kept (row := some w.heap.size) (gr_set (gr_set (gr_refl _ _) _ _) _ _) (fun r e => by injection e with e; omega)⟩
  · go_wp2_with fail
    refine (below b n c q _ 25 hn h1 (by omega)).mono ?_
    rintro e w2 ⟨v, hv, rfl, g2, h2⟩
    replace K := K.grown g2 (fun e => by injection e with e; omega)
    replace G := gr_trans G g2
    obtain ⟨c0, c1, f0, f1⟩ := gt.two K
    go_wp2_with fail
    obtain ⟨u0, u1, _, _⟩ := gt.two (gt.set2 K (.int .i64 6) (.int .i64 (1 + v)))
    exact bodyPost_ret (v := .agg #[.int .i64 6, .int .i64 (1 + v)]) (by simp [results, Tryz.results88, go_sem, u0, u1]) rfl ⟨6, (1 + v), rfl, gr_new (gr_new G (Nat.le_refl w.heap.size) _ _) (Nat.le_refl w.heap.size) _ _, h2.kept (row := some w.heap.size) (gr_set (gr_set (gr_refl _ _) _ _) _ _) (fun r e => by injection e with e; omega)⟩
  · go_wp2_with fail
    refine (below b n c q _ 25 hn h1 (by omega)).mono ?_
    rintro e w2 ⟨v, hv, rfl, g2, h2⟩
    replace K := K.grown g2 (fun e => by injection e with e; omega)
    replace G := gr_trans G g2
    obtain ⟨c0, c1, f0, f1⟩ := gt.two K
    go_wp2_with fail
    obtain ⟨u0, u1, _, _⟩ := gt.two (gt.set2 K (.int .i64 6) (.int .i64 (1 + v)))
    exact bodyPost_ret (v := .agg #[.int .i64 6, .int .i64 (1 + v)]) (by simp [results, Tryz.results88, go_sem, u0, u1]) rfl ⟨6, (1 + v), rfl, gr_new (gr_new G (Nat.le_refl w.heap.size) _ _) (Nat.le_refl w.heap.size) _ _, h2.kept (row := some w.heap.size) (gr_set (gr_set (gr_refl _ _) _ _) _ _) (fun r e => by injection e with e; omega)⟩
  · go_wp2_with fail
    refine (below b n c q _ 25 hn h1 (by omega)).mono ?_
    rintro e w2 ⟨v, hv, rfl, g2, h2⟩
    replace K := K.grown g2 (fun e => by injection e with e; omega)
    replace G := gr_trans G g2
    obtain ⟨c0, c1, f0, f1⟩ := gt.two K
    go_wp2_with fail
    obtain ⟨u0, u1, _, _⟩ := gt.two (gt.set2 K (.int .i64 6) (.int .i64 (1 + v)))
    exact bodyPost_ret (v := .agg #[.int .i64 6, .int .i64 (1 + v)]) (by simp [results, Tryz.results88, go_sem, u0, u1]) rfl ⟨6, (1 + v), rfl, gr_new (gr_new G (Nat.le_refl w.heap.size) _ _) (Nat.le_refl w.heap.size) _ _, h2.kept (row := some w.heap.size) (gr_set (gr_set (gr_refl _ _) _ _) _ _) (fun r e => by injection e with e; omega)⟩
end Go.Proofs.YtdikhdfpcipdbaaGreatDoor.wd

/- Chapter 18 of the model: a world is drawn. -/
namespace Go.Proofs.YtdikhdfpcipdbaaGreatDoor.wd
open Go.ChangeShapes Go.WideShapes Go.ChangeAt Go.RowKit
open Go.Proofs.YtdikhdfpcipdbaaGreatDoor.nums Go.Proofs.YtdikhdfpcipdbaaGreatDoor.mem Go.Proofs.YtdikhdfpcipdbaaGreatDoor.cur
open Go.Proofs.YtdikhdfpcipdbaaGreatDoor.tab (Ret)
open Go.Proofs.YtdikhdfpcipdbaaGreatDoor.br (B P OkB Arg OwnB str bv Seven)
open Go.Proofs.YtdikhdfpcipdbaaGreatDoor.se (cons_of)
set_option linter.unusedVariables false

theorem litD21 (tl : List Value) (h : tl.length = 21) : ∃ x0 x1 x2 x3 x4 x5 x6 x7 x8 x9 x10 x11 x12 x13 x14 x15 x16 x17 x18 x19 x20 : Value, tl = [x0, x1, x2, x3, x4, x5, x6, x7, x8, x9, x10, x11, x12, x13, x14, x15, x16, x17, x18, x19, x20] := by
  obtain ⟨x0, t0, e0, h0⟩ := cons_of h
  obtain ⟨x1, t1, e1, h1⟩ := cons_of h0
  obtain ⟨x2, t2, e2, h2⟩ := cons_of h1
  obtain ⟨x3, t3, e3, h3⟩ := cons_of h2
  obtain ⟨x4, t4, e4, h4⟩ := cons_of h3
  obtain ⟨x5, t5, e5, h5⟩ := cons_of h4
  obtain ⟨x6, t6, e6, h6⟩ := cons_of h5
  obtain ⟨x7, t7, e7, h7⟩ := cons_of h6
  obtain ⟨x8, t8, e8, h8⟩ := cons_of h7
  obtain ⟨x9, t9, e9, h9⟩ := cons_of h8
  obtain ⟨x10, t10, e10, h10⟩ := cons_of h9
  obtain ⟨x11, t11, e11, h11⟩ := cons_of h10
  obtain ⟨x12, t12, e12, h12⟩ := cons_of h11
  obtain ⟨x13, t13, e13, h13⟩ := cons_of h12
  obtain ⟨x14, t14, e14, h14⟩ := cons_of h13
  obtain ⟨x15, t15, e15, h15⟩ := cons_of h14
  obtain ⟨x16, t16, e16, h16⟩ := cons_of h15
  obtain ⟨x17, t17, e17, h17⟩ := cons_of h16
  obtain ⟨x18, t18, e18, h18⟩ := cons_of h17
  obtain ⟨x19, t19, e19, h19⟩ := cons_of h18
  obtain ⟨x20, t20, e20, h20⟩ := cons_of h19
  have e21 := List.eq_nil_of_length_eq_zero h20
  exact ⟨x0, x1, x2, x3, x4, x5, x6, x7, x8, x9, x10, x11, x12, x13, x14, x15, x16, x17, x18, x19, x20, by rw [e0, e1, e2, e3, e4, e5, e6, e7, e8, e9, e10, e11, e12, e13, e14, e15, e16, e17, e18, e19, e20, e21]⟩
theorem litE21 {C : Prop} (tl : List Value) (h : tl.length = 21) (H : ∀ x0 x1 x2 x3 x4 x5 x6 x7 x8 x9 x10 x11 x12 x13 x14 x15 x16 x17 x18 x19 x20 : Value, tl = [x0, x1, x2, x3, x4, x5, x6, x7, x8, x9, x10, x11, x12, x13, x14, x15, x16, x17, x18, x19, x20] → C) : C := by
  have e := litD21 tl h
  revert H
  obtain ⟨x0, x1, x2, x3, x4, x5, x6, x7, x8, x9, x10, x11, x12, x13, x14, x15, x16, x17, x18, x19, x20, et⟩ := e
  intro H
  exact H x0 x1 x2 x3 x4 x5 x6 x7 x8 x9 x10 x11 x12 x13 x14 x15 x16 x17 x18 x19 x20 et
theorem absD10 {P : Program} {c : Code} {Q : Exit → Act → World → Prop} {a : Act} {w : World} {n : Nat} (i0 i1 i2 i3 i4 i5 i6 i7 i8 i9 : Nat) {y0 y1 y2 y3 y4 y5 y6 y7 y8 y9 : Value}
    (h : ∀ a0 : Act, a0.tmps.size = n → a0.defers = [] → a0.tmps[i0]? = some y0 → a0.tmps[i1]? = some y1 → a0.tmps[i2]? = some y2 → a0.tmps[i3]? = some y3 → a0.tmps[i4]? = some y4 → a0.tmps[i5]? = some y5 → a0.tmps[i6]? = some y6 → a0.tmps[i7]? = some y7 → a0.tmps[i8]? = some y8 → a0.tmps[i9]? = some y9 → c.wp P Q a0 w)
    (h1 : a.tmps.size = n) (h2 : a.defers = []) (k0 : a.tmps[i0]? = some y0) (k1 : a.tmps[i1]? = some y1) (k2 : a.tmps[i2]? = some y2) (k3 : a.tmps[i3]? = some y3) (k4 : a.tmps[i4]? = some y4) (k5 : a.tmps[i5]? = some y5) (k6 : a.tmps[i6]? = some y6) (k7 : a.tmps[i7]? = some y7) (k8 : a.tmps[i8]? = some y8) (k9 : a.tmps[i9]? = some y9) : c.wp P Q a w := h a h1 h2 k0 k1 k2 k3 k4 k5 k6 k7 k8 k9
/-- A right world comes back, drawn from the cursor in block q. -/
def DrawnW (b : Option Addr) (n c : Nat) (w : World) (q : Nat) (e : Ending) (w' : World) : Prop :=
  ∃ x p, e = .returned (wv x p) ∧ w.grownBy w' (some q) ∧ OwnB w.heap.size w' x.br p ∧ OkW x ∧ Cur b n c w' q
/-- What each operation of the round leaves. -/
def LeftW (z q : Nat) (x : V) (p : P) : Nat → Value → World → Prop
  | 0, v, _ => v = wv x p
  | 1, v, _ => v = .pointer (some ⟨q, 0, none⟩)
  | 2, v, _ => ∃ k N : Int, v = .agg #[.int .i64 k, .int .i64 N]
  | 3, v, w => ∃ y r d, v = .tuple #[wv y r, .bool d] ∧ OwnB z w y.br r ∧ OkW y
  | 4, v, w => ∃ y r d, v = .tuple #[wv y r, .bool d] ∧ OwnB z w y.br r ∧ OkW y
  | 5, v, w => ∃ y r, v = wv y r ∧ OwnB z w y.br r ∧ OkW y
  | 6, v, _ => ∃ d, v = .bool d
  | _, _, _ => False
theorem LeftW.low {z q : Nat} {x : V} {p : P} {j : Nat} {v : Value} {w w' : World} (h : LeftW z q x p j v w) (hg : w.grownBy w' (some q)) (hq : q < z) : LeftW z q x p j v w' := by
  match j, h with
  | 0, h => exact h
  | 1, h => exact h
  | 2, h => exact h
  | 3, ⟨y, r, d, h1, h2, h3⟩ => exact ⟨y, r, d, h1, h2.low hg hq, h3⟩
  | 4, ⟨y, r, d, h1, h2, h3⟩ => exact ⟨y, r, d, h1, h2.low hg hq, h3⟩
  | 5, ⟨y, r, h1, h2, h3⟩ => exact ⟨y, r, h1, h2.low hg hq, h3⟩
  | 6, h => exact h
/-- What is known of the world while the round goes on. -/
def Jw (b : Option Addr) (n c : Nat) (wr : World) (q : Nat) (D : Nat → Bool) (W : World) : Prop := wr.grownBy W (some q) ∧ (D 2 = false → wr.grownBy W none) ∧ (D 2 = true → Cur b n c W q)
theorem Jw.next {b : Option Addr} {n c : Nat} {wr W W' : World} {q : Nat} {D : Nat → Bool} (h : Jw b n c wr q D W) (g : W.grownBy W' none) {i : Nat} (hi : 2 ≠ i) : Jw b n c wr q (fun j => if j = i then true else D j) W' := by
  refine ⟨gr_trans h.1 (gr_none g _), fun e => ?_, fun e => ?_⟩
  · simp only [if_neg hi] at e
    exact gr_trans (h.2.1 e) g
  · simp only [if_neg hi] at e
    exact (h.2.2 e).kept (row := none) g (fun r e => by cases e)

set_option maxRecDepth 100000 in
set_option maxHeartbeats 4000000 in
theorem drawWorld (b : Option Addr) (n c q : Nat) (w : World) (hn : n ≤ 4096) (h : Cur b n c w q) : Calls Tryz.prog 59 #[.pointer (some ⟨q, 0, none⟩)] w (DrawnW b n c w q) := by
  have hq := h.lt
  have R := Has.fresh w 92 z23
  have G : w.grownBy (w.alloc (Obj.cells z23 92)) none := World.grownBy_alloc _ _ _
  have cN := fun W => specNewWorld W
  have okN := ok_newV
  go_enter Tryz.func59, Tryz.ntmps59
  go_wp2_with fail
  have hs0 : w.heap.size < (w.alloc (Obj.cells z23 92)).heap.size := by simp
  generalize w.alloc (Obj.cells z23 92) = v0 at *
  generalize newV = X0 at *
  refine (cN _).mono ?_
  rintro e v1 ⟨p0, rfl, r, O⟩
  replace G := gr_trans G r
  replace R := R.grown r (by simp)
  have hv01 := r.size
  clear r cN
  go_upto_region 2 with (refine st_row rfl _ _ rfl rfl v1.heap.size X0 p0 _ rfl rfl (Has.fresh v1 92 _) rfl ?_; intro v2 c2 K5)
  have ga := World.grownBy_alloc v1 (Obj.cells z23 92) none
  replace O := (O.kept ga).far (Has.fresh v1 92 z23) (by decide) (by decide) (by decide) c2
  have G1 := gr_past ga c2 (Nat.le_refl _)
  replace G := gr_trans G G1
  replace R := R.grown G1 (by simp)
  have lz : w.heap.size < v1.heap.size := by omega
  clear c2 G1 ga
  generalize v1.heap.size = zo at *
  have m20 : v2.cell? ⟨zo, 20, none⟩ = some (.bool X0.ar) := K5.cell 20
  have f20 := K5.frozen 20
  go_upto_region 3 with fail
  replace O := O.far K5 (by decide) (by decide) (by decide) (gr_set (gr_refl v2 (some zo)) 20 (.bool true))
  replace G := gr_new G (show w.heap.size ≤ zo by omega) 20 (.bool true)
  replace R := R.set_other (show w.heap.size ≠ zo by omega) 20 (.bool true)
  have K6 : Has (v2.setCell ⟨zo, 20, none⟩ (.bool true)) zo 92 (cs23 ⟨X0.br, X0.he, X0.ri, X0.sp, X0.bk, X0.li, X0.ly, X0.wa, true, X0.sq, X0.lo⟩ p0) := put20 K5 (.bool true)
  have okX : OkW ⟨X0.br, X0.he, X0.ri, X0.sp, X0.bk, X0.li, X0.ly, X0.wa, true, X0.sq, X0.lo⟩ := ⟨okN.br, okN.he, okN.ri, okN.sp, okN.bk, okN.li, okN.ly, okN.wa, okN.sq, okN.lo⟩
  clear K5 m20 f20 okN
  generalize v2.setCell ⟨zo, 20, none⟩ (.bool true) = v3 at *
  have hc := h.kept (row := none) G (fun r e => by cases e)
  go_wp2_with fail
  refine (below b n c q _ 9 hn hc (by omega)).mono ?_
  rintro e v4 ⟨d, hd, rfl, g, h4⟩
  have zq : zo ≠ q := by omega
  have rq : w.heap.size ≠ q := by omega
  have H4 : w.grownBy v4 (some q) := gr_trans (gr_none G _) g
  replace R := R.grown g (by simp; exact rq)
  have L4 : Lies v0.heap.size zo v4 := ⟨_, p0, K6.grown g (by simp; exact zq), O.low g (by omega), okX⟩
  clear O K6 G g hc h okX
  obtain ⟨m, rfl⟩ := nat_of hd.1
  go_wp2_with fail
  go_loopw [4] (fun i wr => ∃ k : Nat, k ≤ m ∧ i = .int .i64 k ∧ Has wr w.heap.size 92 z23 ∧ w.grownBy wr (some q) ∧ Cur b n c wr q ∧ Lies v0.heap.size zo wr) (fun i _ => (intOf i).toNat)
  case atStart => exact ⟨m, Nat.le_refl _, rfl, R, H4, h4, L4⟩
  case round =>
    clear R H4 h4 L4
    obtain ⟨k, hk, rfl, R, G, hc, x, p, K5, O, ok⟩ := hrel
    by_cases hlt : 0 < k
    · go_upto_region 6 with fail
      have lzo := K5.lt
      refine absD10 0 1 2 3 4 5 6 7 8 20 ?_ rfl rfl rfl rfl rfl rfl rfl rfl rfl rfl rfl rfl
      intro a0 hs0 hd0 g0 g1 g2 g3 g4 g5 g6 g7 g8 g20
      refine iv.region_invG (a0 := a0) 5 (fun i => if i = 4 then 13 else i + 14) (LeftW v0.heap.size q x p) (Jw b n c wr q) 4 rfl (by kernel_rfl) (by kernel_rfl) (by kernel_rfl) (by decide) (by kernel_rfl) (fun i j hi hj e => (show ∀ i, i < 5 → ∀ j, j < 5 → (if i = 4 then 13 else i + 14) = (if j = 4 then 13 else j + 14) → i = j by decide) i hi j hj e) (fun i hi => by rw [hs0]; exact (show ∀ i, i < 5 → (if i = 4 then 13 else i + 14) < 21 by decide) i hi) ⟨gr_drewN (gr_refl wr (some q)) 1, fun _ => gr_drewN (gr_refl wr none) 1, fun e => by cases e⟩ ?_ ?_
      · intro i o a W D hi ho2 hJ hDi hsz2 hdf hold hdeps
        obtain ⟨⟨tl⟩, df⟩ := a
        have ed : df = [] := hdf.trans hd0
        subst ed
        have hlen : tl.length = 21 := hsz2.trans hs0
        clear hsz2 hdf
        refine litE21 tl hlen ?_
        clear hlen
        intro x0 x1 x2 x3 x4 x5 x6 x7 x8 x9 x10 x11 x12 x13 x14 x15 x16 x17 x18 x19 x20 et
        subst et
        have e : some x0 = _ := (hold 0 (fun j hj => by clear hold; revert hj j; decide)).trans g0
        injection e with e
        subst e
        have e : some x1 = _ := (hold 1 (fun j hj => by clear hold; revert hj j; decide)).trans g1
        injection e with e
        subst e
        have e : some x2 = _ := (hold 2 (fun j hj => by clear hold; revert hj j; decide)).trans g2
        injection e with e
        subst e
        have e : some x3 = _ := (hold 3 (fun j hj => by clear hold; revert hj j; decide)).trans g3
        injection e with e
        subst e
        have e : some x4 = _ := (hold 4 (fun j hj => by clear hold; revert hj j; decide)).trans g4
        injection e with e
        subst e
        have e : some x5 = _ := (hold 5 (fun j hj => by clear hold; revert hj j; decide)).trans g5
        injection e with e
        subst e
        have e : some x6 = _ := (hold 6 (fun j hj => by clear hold; revert hj j; decide)).trans g6
        injection e with e
        subst e
        have e : some x7 = _ := (hold 7 (fun j hj => by clear hold; revert hj j; decide)).trans g7
        injection e with e
        subst e
        have e : some x8 = _ := (hold 8 (fun j hj => by clear hold; revert hj j; decide)).trans g8
        injection e with e
        subst e
        have e : some x20 = _ := (hold 20 (fun j hj => by clear hold; revert hj j; decide)).trans g20
        injection e with e
        subst e
        clear hold hs0 hd0 g0 g1 g2 g3 g4 g5 g6 g7 g8 g20
        rcases (show i = 0 ∨ i = 1 ∨ i = 2 ∨ i = 3 ∨ i = 4 by omega) with rfl | rfl | rfl | rfl | rfl
        all_goals simp at ho2
        all_goals subst ho2
        all_goals simp [Region.binds, LeftW] at hdeps
        · go_wp2_with (refine ld_row rfl _ rfl zo x p rfl (K5.grown hJ.1 (by simp; exact zq)) ?_)
          exact ⟨hJ.next (gr_refl _ _) (i := 0) (by omega), rfl⟩
        · go_wp2_with fail
          exact ⟨hJ.next (gr_refl _ _) (i := 1) (by omega), rfl⟩
        · first | subst hdeps | skip
          go_wp2_with fail
          refine (drawAct b n c q _ hn (hc.kept (row := none) (hJ.2.1 hDi) (fun r e => by cases e))).mono ?_
          rintro e w2 ⟨kk, NN, rfl, g, h2⟩
          go_wp2_with fail
          exact ⟨⟨gr_trans hJ.1 g, fun e => by simp at e, fun _ => h2⟩, ⟨kk, NN, rfl⟩, fun j u hu => hu.low g (by omega)⟩
        · obtain ⟨rfl, kk, NN, rfl⟩ := hdeps
          have O2 := O.low hJ.1 (show q < v0.heap.size by omega)
          go_wp2_with fail
          refine (specHappen x p kk NN _ O2.arg ok).mono ?_
          rintro e w2 ⟨y, r, d, rfl, g, Oy, oky⟩
          have hsz := hJ.1.size
          go_wp2_with fail
          exact ⟨hJ.next g (i := 3) (by omega), ⟨y, r, d, rfl, Oy.below (by omega), oky⟩, fun j u hu => hu.low (gr_none g _) (by omega)⟩
        · obtain ⟨y, r, hd2, Oy, oky⟩ := hdeps
          rcases hd2 with rfl | rfl
          · go_wp2_with fail
            exact ⟨hJ.next (gr_refl _ _) (i := 4) (by omega), ⟨y, r, _, rfl, Oy, oky⟩⟩
          · go_wp2_with fail
            exact ⟨hJ.next (gr_refl _ _) (i := 4) (by omega), ⟨y, r, _, rfl, Oy, oky⟩⟩
      · intro o W D hJ hD hsz2 hdf hold hnew
        obtain ⟨⟨tl⟩, df⟩ := o
        have ed : df = [] := hdf.trans hd0
        subst ed
        have hlen : tl.length = 21 := hsz2.trans hs0
        clear hsz2 hdf
        refine litE21 tl hlen ?_
        clear hlen
        intro x0 x1 x2 x3 x4 x5 x6 x7 x8 x9 x10 x11 x12 x13 x14 x15 x16 x17 x18 x19 x20 et
        subst et
        have e : some x0 = _ := (hold 0 (fun j hj => by clear hold; revert hj j; decide)).trans g0
        injection e with e
        subst e
        have e : some x1 = _ := (hold 1 (fun j hj => by clear hold; revert hj j; decide)).trans g1
        injection e with e
        subst e
        have e : some x2 = _ := (hold 2 (fun j hj => by clear hold; revert hj j; decide)).trans g2
        injection e with e
        subst e
        have e : some x3 = _ := (hold 3 (fun j hj => by clear hold; revert hj j; decide)).trans g3
        injection e with e
        subst e
        have e : some x4 = _ := (hold 4 (fun j hj => by clear hold; revert hj j; decide)).trans g4
        injection e with e
        subst e
        have e : some x5 = _ := (hold 5 (fun j hj => by clear hold; revert hj j; decide)).trans g5
        injection e with e
        subst e
        have e : some x6 = _ := (hold 6 (fun j hj => by clear hold; revert hj j; decide)).trans g6
        injection e with e
        subst e
        have e : some x7 = _ := (hold 7 (fun j hj => by clear hold; revert hj j; decide)).trans g7
        injection e with e
        subst e
        have e : some x8 = _ := (hold 8 (fun j hj => by clear hold; revert hj j; decide)).trans g8
        injection e with e
        subst e
        have e : some x20 = _ := (hold 20 (fun j hj => by clear hold; revert hj j; decide)).trans g20
        injection e with e
        subst e
        obtain ⟨v, e, y, r, dd, rfl, Oy, oky⟩ := hnew 4 (by omega)
        have e : some x13 = _ := e
        injection e with e
        subst e
        clear hnew hold hs0 hd0 g0 g1 g2 g3 g4 g5 g6 g7 g8 g20
        change wpAny _ _ _ _ (2 + 1) _ _ _
        refine wpAny_take (i := 5) (v := wv y r) rfl (by kernel_rfl) (by kernel_rfl) (by kernel_rfl) (fun _ _ _ h => h) (.inl ⟨rfl, fun W => by simp [execOp, go_sem]⟩) ?_
        change wpAny _ _ _ _ (1 + 1) _ _ _
        refine wpAny_take (i := 6) (v := .bool dd) rfl (by kernel_rfl) (by kernel_rfl) (by kernel_rfl) (fun _ _ _ h => h) (.inl ⟨rfl, fun W => by simp [execOp, go_sem]⟩) ?_
        refine iv.any_drop 7 (by kernel_rfl) ?_
        simp only [List.drop_succ_cons, List.drop_zero]
        have h2 := hJ.2.2 (hD 2 (by omega))
        have Kw := K5.grown hJ.1 (by simp; exact zq)
        have Rw := R.grown hJ.1 (by simp; exact rq)
        go_wp2_with (refine st_row rfl _ _ rfl rfl zo y r _ rfl rfl Kw rfl ?_; intro v6 c6 K6)
        have O6 := Oy.far Kw (by decide) (by decide) (by decide) c6
        have hG : w.grownBy v6 (some q) := gr_past (gr_trans G hJ.1) c6 (by omega)
        have hR := Rw.grown c6 (by simp; omega)
        have h6 := h2.kept (row := some zo) c6 (fun r e => by injection e with e; omega)
        have hL : Lies v0.heap.size zo v6 := ⟨y, r, K6, O6, oky⟩
        clear O6 K6 Oy Kw Rw h2
        go_roundw
        case rel => exact ⟨k - 1, by omega, congrArg (Value.int .i64) (show ((k : Int) - 1) = ((k - 1 : Nat) : Int) by omega), hR, hG, h6, hL⟩
        case measure => simp [intOf]; omega
    · obtain rfl : k = 0 := by omega
      go_wp2_with (first | (refine ld_row rfl _ rfl zo x p rfl K5 ?_) | (refine st_row rfl _ _ rfl rfl w.heap.size x p z23 rfl rfl R rfl ?_; intro v7 c7 R7))
      replace O := O.low c7 hs0
      replace G := gr_past G c7 (Nat.le_refl w.heap.size)
      refine bodyPost_ret (v := wv x p) ?_ rfl ⟨x, p, rfl, G, O.below (by omega), ok, hc.kept (row := some w.heap.size) c7 (fun r e => by injection e with e; omega)⟩
      exact rs_row rfl _ _ w.heap.size x p rfl R7
end Go.Proofs.YtdikhdfpcipdbaaGreatDoor.wd

/- Senses drawn: those of some world of the model, or some of their lists anew. -/
namespace Go.Proofs.YtdikhdfpcipdbaaGreatDoor.se
open Go.ChangeShapes Go.WideShapes Go.ChangeAt Go.RowKit
open Go.Proofs.YtdikhdfpcipdbaaGreatDoor.nums Go.Proofs.YtdikhdfpcipdbaaGreatDoor.mem
open Go.Proofs.YtdikhdfpcipdbaaGreatDoor.tab (Ret)
open Go.Proofs.YtdikhdfpcipdbaaGreatDoor.cur (Cur Bytes below once from_ new Cur.alloc Cur.kept Cur.lt)
open Go.Proofs.YtdikhdfpcipdbaaGreatDoor.rd (R okR ageR zR rx ra ro OwnR rowR)
open Go.Proofs.YtdikhdfpcipdbaaGreatDoor.il (nth Ints Own)
set_option linter.unusedVariables false

abbrev z6 : Array Value := #[.slice none 0 0, .slice none 0 0, .slice none 0 0, .int .i64 0, .bool false, .slice none 0 0]
/-- While they are drawn: senses lie in block Y, nothing yet in the answer's. -/
def Half (b : Option Addr) (n c : Nat) (w : World) (q Y : Nat) (wx : World) : Prop :=
  ∃ s p, Has wx Y 27 (cs6 s p) ∧ Has wx w.heap.size 27 z6 ∧ w.grownBy wx (some q) ∧ Cur b n c wx q ∧ OwnS w.heap.size wx s p ∧ Len s p
/-- The same, the fans may be cut. -/
def Whole (b : Option Addr) (n c : Nat) (w : World) (q Y : Nat) (wx : World) : Prop :=
  ∃ s p, Has wx Y 27 (cs6 s p) ∧ Has wx w.heap.size 27 z6 ∧ w.grownBy wx (some q) ∧ Cur b n c wx q ∧ OwnS w.heap.size wx s p ∧ s.sp.length = 3 ∧ s.he.length = 2 ∧ s.fa.length ≤ 6 ∧ s.sq.length = 4
theorem Half.whole {b : Option Addr} {n c q Y : Nat} {w wx : World} (h : Half b n c w q Y wx) : Whole b n c w q Y wx := by
  obtain ⟨s, p, h1, h2, h3, h4, h5, L⟩ := h
  exact ⟨s, p, h1, h2, h3, h4, h5, L.sp, L.he, Nat.le_of_eq L.fa, L.sq⟩
theorem Half.cur {b : Option Addr} {n c q Y : Nat} {w wx : World} (h : Half b n c w q Y wx) : Cur b n c wx q := by
  obtain ⟨s, p, _, _, _, h4, _⟩ := h
  exact h4
theorem Half.draw {b : Option Addr} {n c q Y : Nat} {w wx wy : World} (h : Half b n c w q Y wx) (hq : q < w.heap.size) (hY : w.heap.size < Y) (g : wx.grownBy wy (some q)) (hc : Cur b n c wy q) : Half b n c w q Y wy := by
  obtain ⟨s, p, h1, h2, h3, h4, h5, L⟩ := h
  exact ⟨s, p, h1.grown g (fun e => by injection e with e; omega), h2.grown g (fun e => by injection e with e; omega), gr_trans h3 g, hc, h5.low g hq, L⟩
theorem cur_set {b : Option Addr} {n c q r : Nat} {w : World} (h : Cur b n c w q) (hr : q < r) (i : Nat) (u : Value) : Cur b n c (w.setCell ⟨r, i, none⟩ u) q :=
  h.kept (row := some r) (gr_set (gr_refl _ _) _ _) (fun r' e => by injection e with e; omega)

set_option maxRecDepth 100000 in
set_option maxHeartbeats 4000000 in
theorem drawSenses (b : Option Addr) (n c q : Nat) (w : World) (hn : n ≤ 4096) (h : Cur b n c w q) : Calls Tryz.prog 21 #[.pointer (some ⟨q, 0, none⟩)] w (DrawnS b n c w q) := by
  have hq := h.lt
  have R := Has.fresh w 27 z6
  have G : w.grownBy (w.alloc (Obj.cells z6 27)) (some q) := World.grownBy_alloc _ _ _
  have h0 := h.alloc (Obj.cells z6 27)
  go_enter Tryz.func21, Tryz.ntmps21
  go_wp2_with fail
  have hs0 : w.heap.size < (w.alloc (Obj.cells z6 27)).heap.size := by simp
  generalize w.alloc (Obj.cells z6 27) = v0 at *
  refine (wd.drawWorld b n c q _ hn h0).mono ?_
  rintro e v1 ⟨x, p0, rfl, g, O, okx, h1⟩
  have hv01 := g.size
  replace R := R.grown g (by simp; omega)
  replace G := gr_trans G g
  clear g h0
  go_upto_region 2 with (refine wd.st_row rfl _ _ rfl rfl v1.heap.size x p0 _ rfl rfl (Has.fresh v1 92 _) rfl ?_; intro v2 c2 K5)
  have ga := World.grownBy_alloc v1 (Obj.cells wd.z23 92) none
  replace O := (O.kept ga).far (Has.fresh v1 92 wd.z23) (by decide) (by decide) (by decide) c2
  have G1 := gr_past ga c2 (Nat.le_refl _)
  replace G := gr_trans G (gr_none G1 _)
  replace R := R.grown G1 (by simp)
  have h2 := h1.kept (row := none) G1 (fun r e => by cases e)
  have hv12 := G1.size
  clear c2 G1 ga h1
  have A := O.se.arg
  have okS := okx.br.se
  generalize v1.heap.size = zo at *
  have m5 := K5.cell 5
  have m6 := K5.cell 6
  have m7 := K5.cell 7
  have m8 := K5.cell 8
  have m9 := K5.cell 9
  have m10 := K5.cell 10
  replace m5 : v2.cell? ⟨zo, 5, none⟩ = some (.slice p0.se.a1 x.br.se.sp.length p0.se.c1) := m5
  replace m6 : v2.cell? ⟨zo, 6, none⟩ = some (.slice p0.se.a2 x.br.se.he.length p0.se.c2) := m6
  replace m7 : v2.cell? ⟨zo, 7, none⟩ = some (.slice p0.se.a3 x.br.se.fa.length p0.se.c3) := m7
  replace m8 : v2.cell? ⟨zo, 8, none⟩ = some (.int .i64 x.br.se.wn) := m8
  replace m9 : v2.cell? ⟨zo, 9, none⟩ = some (.bool x.br.se.ar) := m9
  replace m10 : v2.cell? ⟨zo, 10, none⟩ = some (.slice p0.se.a4 x.br.se.sq.length p0.se.c4) := m10
  clear K5 O okx
  generalize x.br.se = s0 at *
  generalize p0.se = ps at *
  go_wp2_with fail
  refine (specCopySC s0 ps _ A okS).mono ?_
  rintro e v3 ⟨p, rfl, g3, O3, k1, k2⟩
  have hv23 := g3.size
  have Y0 := R.lt
  replace R := R.grown g3 (by simp)
  replace G := gr_trans G (gr_none g3 _)
  have h3 := h2.kept (row := none) g3 (fun r e => by cases e)
  have L : Len s0 p := ⟨okS.sp3, okS.he2, okS.fa6, okS.sq4, by have := okS.fa6; omega, k2⟩
  have hY : w.heap.size < v3.heap.size := by omega
  have ga := World.grownBy_alloc v3 (Obj.cells (cs6 s0 p) 27) none
  have H : Half b n c w q v3.heap.size (v3.alloc (Obj.cells (cs6 s0 p) 27)) :=
    ⟨s0, p, Has.fresh _ _ _, R.alloc _, gr_trans G (gr_none ga _), h3.alloc _, (O3.below (by omega)).kept ga, L⟩
  clear m5 m6 m7 m8 m9 m10 A g3 O3 k1 k2 L ga R G h2 h3 okS
  go_upto_region 3 with fail
  generalize v3.alloc (Obj.cells #[.slice p.a1 s0.sp.length p.c1, .slice p.a2 s0.he.length p.c2, .slice p.a3 s0.fa.length p.c3, .int .i64 s0.wn, .bool s0.ar, .slice p.a4 s0.sq.length p.c4] 27) = v4 at *
  generalize v3.heap.size = Y at *
  go_wp2_with fail
  refine (once b n c q _ 3 hn H.cur (by omega)).mono ?_
  rintro e v5 ⟨y, rfl, g5, h5⟩
  replace H := H.draw hq hY g5 h5
  clear g5 h5
  go_upto_if 12 with fail
  go_cut [] (fun wx => Half b n c w q Y wx)
  case first =>
    cases y
    · go_wp2_with fail
      go_meet
      exact H
    · obtain ⟨s, p, K, R, G, h5, O, L⟩ := H
      go_wp2_with fail
      refine (rd.drawList b n c q 3 _ hn (by omega) h5).mono ?_
      rintro e v6 ⟨g, cap, l, rfl, hl, _, hge, g6, h6, row⟩
      have HL := Lib.hid hl
      clear hl
      have hG5 := G.size
      have O6 := ((O.low g6 hq).lay1 (cap := cap) (own_of_row row) (by omega) (O.far hge)).box1 (K.grown g6 (fun e => by injection e with e; omega)) 0 (.slice (some ⟨g, 0, none⟩) l.length cap)
      replace K := K.grown g6 (fun e => by injection e with e; omega)
      replace R := R.grown g6 (fun e => by injection e with e; omega)
      replace G := gr_trans G g6
      obtain ⟨⟨c0, c1, c2⟩, c3, c4, c5⟩ := six K
      obtain ⟨⟨f0, f1, f2⟩, f3, f4, f5⟩ := free6 K
      go_upto_region 5 with fail
      have K6 : Has (v6.setCell ⟨Y, 0, none⟩ (.slice (some ⟨g, 0, none⟩) l.length cap)) Y 27 (cs6 ⟨l, s.he, s.fa, s.wn, s.ar, s.sq⟩ ⟨some ⟨g, 0, none⟩, cap, p.a2, p.c2, p.a3, p.c3, p.a4, p.c4⟩) := K.put 0 _ rfl
      have H6 : Half b n c w q Y (v6.setCell ⟨Y, 0, none⟩ (.slice (some ⟨g, 0, none⟩) l.length cap)) := ⟨_, _, K6, R.set_other (by omega) _ _, gr_new G (by omega) _ _, cur_set h6 (by omega) _ _, O6, ⟨HL.out, L.he, L.fa, L.sq, L.c1, L.c2⟩⟩
      clear K6 O6 K R G h5 h6 O L g6 row c0 c1 c2 c3 c4 c5 f0 f1 f2 f3 f4 f5
      generalize v6.setCell ⟨Y, 0, none⟩ (.slice (some ⟨g, 0, none⟩) l.length cap) = v7 at *
      obtain ⟨s, p, K, R, G, h5, O, L⟩ := H6
      go_wp2_with fail
      refine (rd.drawList b n c q 2 _ hn (by omega) h5).mono ?_
      rintro e v8 ⟨g', cap', l', rfl, hl', _, hge', g8, h8, row'⟩
      have HL' := Lib.hid hl'
      clear hl'
      have hG7 := G.size
      have O8 := ((O.low g8 hq).lay2 (cap := cap') (own_of_row row') (by omega) (O.far hge')).box1 (K.grown g8 (fun e => by injection e with e; omega)) 1 (.slice (some ⟨g', 0, none⟩) l'.length cap')
      replace K := K.grown g8 (fun e => by injection e with e; omega)
      replace R := R.grown g8 (fun e => by injection e with e; omega)
      replace G := gr_trans G g8
      obtain ⟨⟨c0, c1, c2⟩, c3, c4, c5⟩ := six K
      obtain ⟨⟨f0, f1, f2⟩, f3, f4, f5⟩ := free6 K
      go_wp2_with fail
      go_meet
      exact ⟨_, _, (K.put 1 _ rfl : Has _ Y 27 (cs6 ⟨s.sp, l', s.fa, s.wn, s.ar, s.sq⟩ ⟨p.a1, p.c1, some ⟨g', 0, none⟩, cap', p.a3, p.c3, p.a4, p.c4⟩)), R.set_other (by omega) _ _, gr_new G (by omega) _ _, cur_set h8 (by omega) _ _, O8, ⟨L.sp, HL'.out, L.fa, L.sq, L.c1, L.c2⟩⟩
  case rest =>
    clear H
    have H := hcut
    clear hcut
    go_wp2_with fail
    refine (once b n c q _ 10 hn H.cur (by omega)).mono ?_
    rintro e v9 ⟨y2, rfl, g9, h9⟩
    replace H := H.draw hq hY g9 h9
    clear g9 h9
    go_upto_if 20 with fail
    go_cut [] (fun wx => Whole b n c w q Y wx)
    case first =>
      cases y2
      · go_wp2_with fail
        go_meet
        exact H.whole
      · go_wp2_with fail
        refine (below b n c q _ 3 hn H.cur (by omega)).mono ?_
        rintro e va ⟨k, ⟨k0, k1⟩, rfl, ga, ha⟩
        replace H := H.draw hq hY ga ha
        clear ga ha
        obtain rfl | rfl | rfl : k = 0 ∨ k = 1 ∨ k = 2 := by omega
        · go_wp2_with fail
          refine (from_ b n c q _ _ _ hn H.cur (by omega) (by omega) (by omega) (by omega)).mono ?_
          rintro e vb ⟨z, _, rfl, gb, hb⟩
          obtain ⟨s, p, K, R, G, hb, O, L⟩ := H.draw hq hY gb hb
          have hGb := G.size
          obtain ⟨⟨c0, c1, c2⟩, c3, c4, c5⟩ := six K
          obtain ⟨⟨f0, f1, f2⟩, f3, f4, f5⟩ := free6 K
          clear gb H
          go_wp2_with fail
          go_meet
          exact ⟨_, p, (K.put 3 _ rfl : Has _ Y 27 (cs6 ⟨s.sp, s.he, s.fa, z, s.ar, s.sq⟩ p)), R.set_other (by omega) _ _, gr_new G (by omega) _ _, cur_set hb (by omega) _ _, (O.want z).box1 K _ _, L.sp, L.he, Nat.le_of_eq L.fa, L.sq⟩
        · go_upto_region 11 with fail
          obtain ⟨s, p, K, R, G, hb, O, L⟩ := H
          obtain ⟨gs, os, ea, _⟩ := O.seq (k := 0) (by rw [L.sq]; omega) 0
          obtain ⟨a1, j1, a2, j2, a3, j3, a4, j4⟩ := p
          dsimp only at ea
          subst ea
          have K0 : Has va.drew Y 27 (cs6 s ⟨a1, j1, a2, j2, a3, j3, some ⟨gs, os, none⟩, j4⟩) := K
          have O0 : OwnS w.heap.size va.drew s ⟨a1, j1, a2, j2, a3, j3, some ⟨gs, os, none⟩, j4⟩ := O.kept (gr_drewN (gr_refl _ _) 1)
          have R0 : Has va.drew w.heap.size 27 z6 := R
          have G0 : w.grownBy va.drew (some q) := gr_drewN G 1
          have hd : Cur b n c va.drew q := hb.kept (row := none) (gr_drewN (gr_refl _ _) 1) (by simp)
          obtain ⟨⟨c0, c1, c2⟩, c3, c4, c5⟩ := six K
          have hl4 : (0 : Int) < (s.sq.length : Int) := by have := L.sq; omega
          have hl4n : 0 < s.sq.length := by have := L.sq; omega
          go_region_held3 (fun W => W.cell? ⟨Y, 5, none⟩ = some (.slice (some ⟨gs, os, none⟩) s.sq.length j4)) (first | with_reducible exact (six K0).2.2.2 | with_reducible exact (six K1).2.2.2 | with_reducible exact (six K2).2.2.2 | fail) (first | (go_at_call 31; refine (from_ b n c q _ _ _ hn hd (by omega) (by omega) (by omega) (by omega)).mono ?_; rintro e vb ⟨z, _, rfl, gb, hb2⟩; have K1 := K0.grown gb (fun e => by injection e with e; omega); have O1 := O0.low gb hq; obtain ⟨gs', os', ea', lt1, lt2, cc, cf, bk, O2⟩ := O1.seq (k := 0) (by rw [L.sq]; omega) z; cases ea'; simp only [Nat.add_zero] at cc cf O2; have R1 := R0.grown gb (fun e => by injection e with e; omega); have hXg := O1.nbox R1 (by decide) (by decide) gs bk; have hYg := O1.nbox K1 (by decide) (by decide) gs bk; have K2 := K1.set_other (Ne.symm hYg) os (.int .i64 z)) | fail)
          have K3 : Has (vb.setCell ⟨gs, os, none⟩ (.int .i64 z)) Y 27 (cs6 (withSeq s 0 z) ⟨a1, j1, a2, j2, a3, j3, some ⟨gs, os, none⟩, j4⟩) := by
            rw [show cs6 (withSeq s 0 z) ⟨a1, j1, a2, j2, a3, j3, some ⟨gs, os, none⟩, j4⟩ = cs6 s ⟨a1, j1, a2, j2, a3, j3, some ⟨gs, os, none⟩, j4⟩ by simp [withSeq, cs6]]
            exact K2
          go_wp2_with fail
          go_meet
          exact ⟨_, _, K3, R1.set_other (Ne.symm hXg) _ _, gr_new (gr_trans G0 gb) lt2 _ _, cur_set hb2 (by omega) _ _, O2, L.sp, L.he, Nat.le_of_eq L.fa, by simp [withSeq, L.sq]⟩
        · obtain ⟨s, p, K, R, G, hb, O, L⟩ := H
          obtain ⟨gs, _, _, _, ea, _⟩ := O.fan (k := 0) (by rw [L.fa]; omega) zR
          have h5 : (5 : Int) ≤ (p.c3 : Int) := by have := L.c1; omega
          obtain ⟨a1, j1, a2, j2, a3, j3, a4, j4⟩ := p
          dsimp only at ea h5
          subst ea
          obtain ⟨⟨c0, c1, c2⟩, c3, c4, c5⟩ := six K
          obtain ⟨⟨f0, f1, f2⟩, f3, f4, f5⟩ := free6 K
          have e5 : (s.fa.take 5).length = 5 := by simp [L.fa]
          go_wp2_with fail
          go_meet
          exact ⟨_, ⟨a1, j1, a2, j2, some ⟨gs, 0, none⟩, j3, a4, j4⟩, (K.put 2 _ (by simp only [cs6, e5]; rfl) : Has _ Y 27 (cs6 ⟨s.sp, s.he, s.fa.take 5, s.wn, s.ar, s.sq⟩ ⟨a1, j1, a2, j2, some ⟨gs, 0, none⟩, j3, a4, j4⟩)), R.set_other (by omega) _ _, gr_new G (by omega) _ _, cur_set hb (by omega) _ _, (O.cut 5).box1 K _ _, L.sp, L.he, by rw [e5]; omega, L.sq⟩
    case rest =>
      clear H
      obtain ⟨s, p, K, R, G, h9, O, l1, l2, l3, l4⟩ := hcut
      have HL := Lib.hid (And.intro l1 (And.intro l2 (And.intro l3 l4)))
      clear l1 l2 l3 l4
      obtain ⟨⟨c0, c1, c2⟩, c3, c4, c5⟩ := six K
      obtain ⟨⟨r0, r1, r2⟩, r3, r4, r5⟩ := six R
      obtain ⟨⟨f0, f1, f2⟩, f3, f4, f5⟩ := free6 R
      go_wp2_with fail
      obtain ⟨⟨t0, t1, t2⟩, t3, t4, t5⟩ := six (set6 R (.slice p.a1 s.sp.length p.c1) (.slice p.a2 s.he.length p.c2) (.slice p.a3 s.fa.length p.c3) (.int .i64 s.wn) (.bool s.ar) (.slice p.a4 s.sq.length p.c4))
      exact bodyPost_ret (v := sv s p) (by simp [results, Tryz.results21, go_sem, t0, t1, t2, t3, t4, t5]) rfl
        ⟨s, p, rfl, gr_new (gr_new (gr_new (gr_new (gr_new (gr_new G (Nat.le_refl _) _ _) (Nat.le_refl _) _ _) (Nat.le_refl _) _ _) (Nat.le_refl _) _ _) (Nat.le_refl _) _ _) (Nat.le_refl _) _ _, O.boxed R _ _ _ _ _ _, cur_set (cur_set (cur_set (cur_set (cur_set (cur_set h9 hq _ _) hq _ _) hq _ _) hq _ _) hq _ _) hq _ _, HL.out.1, HL.out.2.1, HL.out.2.2.1, HL.out.2.2.2⟩
end Go.Proofs.YtdikhdfpcipdbaaGreatDoor.se

