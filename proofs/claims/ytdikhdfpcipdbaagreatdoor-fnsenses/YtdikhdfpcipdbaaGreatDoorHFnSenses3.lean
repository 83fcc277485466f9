/- The law FnSenses. -/
import Derived.Test.YtdikhdfpcipdbaaGreatDoorG45
import Derived.Test.YtdikhdfpcipdbaaGreatDoorG37
import Derived.Test.YtdikhdfpcipdbaaGreatDoorHFnSenses2
import Derived.Test.YtdikhdfpcipdbaaGreatDoorG19
import Derived.Test.YtdikhdfpcipdbaaGreatDoorHFnSenses1
/- The law FnSenses. -/
namespace Go.Proofs.YtdikhdfpcipdbaaGreatDoor.se
open Go.ChangeShapes Go.WideShapes Go.ChangeAt Go.RowKit
open Go.Proofs.YtdikhdfpcipdbaaGreatDoor.nums Go.Proofs.YtdikhdfpcipdbaaGreatDoor.mem
open Go.Proofs.YtdikhdfpcipdbaaGreatDoor.tab (Ret)
open Go.Proofs.YtdikhdfpcipdbaaGreatDoor.cur (Cur Bytes bytes_grown)
open Go.Proofs.YtdikhdfpcipdbaaGreatDoor.rd (R okR ageR zR rx ra ro OwnR aged neqR_same guardR)
open Go.Proofs.YtdikhdfpcipdbaaGreatDoor.md (Fx cs8 fac eight free8 factsOk)
open Go.Proofs.YtdikhdfpcipdbaaGreatDoor.il (nth Ints Own)
open Go.Proofs.YtdikhdfpcipdbaaGreatDoor.stm (Fr fv Frs Pl)
set_option linter.unusedVariables false

/-- What is known at the great condition: four boxes, three senses that can be read, the frames, the table. -/
structure Kn (W : World) (b3 b5 b6 b9 : Nat) (s : S) (p : P) (x : S) (px : P) (q : S) (pq : P) (f : Fx) (a : Option Addr) (fs : List Fr) (ps : List Pl) : Prop where
  ks : Has W b3 27 (cs6 s p)
  kx : Has W b5 27 (cs6 x px)
  kq : Has W b6 27 (cs6 q pq)
  kf : Has W b9 35 (cs8 f)
  a3 : Arg W s p
  a5 : Arg W x px
  a6 : Arg W q pq
  fr : Frs W a fs ps
  vl : Vals W
theorem Kn.kept {W W' : World} {b3 b5 b6 b9 : Nat} {s : S} {p : P} {x : S} {px : P} {q : S} {pq : P} {f : Fx} {a : Option Addr} {fs : List Fr} {ps : List Pl} (h : Kn W b3 b5 b6 b9 s p x px q pq f a fs ps) (g : W.grownBy W' none) : Kn W' b3 b5 b6 b9 s p x px q pq f a fs ps :=
  ⟨h.ks.grown g (by simp), h.kx.grown g (by simp), h.kq.grown g (by simp), h.kf.grown g (by simp), h.a3.kept g, h.a5.kept g, h.a6.kept g, h.fr.kept g, h.vl.kept g⟩
theorem Kn.cells {W : World} {b3 b5 b6 b9 : Nat} {s : S} {p : P} {x : S} {px : P} {q : S} {pq : P} {f : Fx} {a : Option Addr} {fs : List Fr} {ps : List Pl} (h : Kn W b3 b5 b6 b9 s p x px q pq f a fs ps) :
    (((W.cell? ⟨b3, 0, none⟩ = some (.slice p.a1 s.sp.length p.c1) ∧ W.cell? ⟨b3, 1, none⟩ = some (.slice p.a2 s.he.length p.c2) ∧ W.cell? ⟨b3, 2, none⟩ = some (.slice p.a3 s.fa.length p.c3)) ∧ W.cell? ⟨b3, 3, none⟩ = some (.int .i64 s.wn) ∧ W.cell? ⟨b3, 4, none⟩ = some (.bool s.ar) ∧ W.cell? ⟨b3, 5, none⟩ = some (.slice p.a4 s.sq.length p.c4)) ∧ ((W.cell? ⟨b5, 0, none⟩ = some (.slice px.a1 x.sp.length px.c1) ∧ W.cell? ⟨b5, 1, none⟩ = some (.slice px.a2 x.he.length px.c2) ∧ W.cell? ⟨b5, 2, none⟩ = some (.slice px.a3 x.fa.length px.c3)) ∧ W.cell? ⟨b5, 3, none⟩ = some (.int .i64 x.wn) ∧ W.cell? ⟨b5, 4, none⟩ = some (.bool x.ar) ∧ W.cell? ⟨b5, 5, none⟩ = some (.slice px.a4 x.sq.length px.c4)) ∧ ((W.cell? ⟨b6, 0, none⟩ = some (.slice pq.a1 q.sp.length pq.c1) ∧ W.cell? ⟨b6, 1, none⟩ = some (.slice pq.a2 q.he.length pq.c2) ∧ W.cell? ⟨b6, 2, none⟩ = some (.slice pq.a3 q.fa.length pq.c3)) ∧ W.cell? ⟨b6, 3, none⟩ = some (.int .i64 q.wn) ∧ W.cell? ⟨b6, 4, none⟩ = some (.bool q.ar) ∧ W.cell? ⟨b6, 5, none⟩ = some (.slice pq.a4 q.sq.length pq.c4)) ∧ (W.cell? ⟨b9, 0, none⟩ = some (.int .i64 f.sp) ∧ W.cell? ⟨b9, 1, none⟩ = some (.bool f.so) ∧ W.cell? ⟨b9, 2, none⟩ = some (.int .i64 f.h) ∧ W.cell? ⟨b9, 3, none⟩ = some (.bool f.ho) ∧ W.cell? ⟨b9, 4, none⟩ = some (.int .i64 f.c) ∧ W.cell? ⟨b9, 5, none⟩ = some (.bool f.ar) ∧ W.cell? ⟨b9, 6, none⟩ = some (.int .i64 f.wn) ∧ W.cell? ⟨b9, 7, none⟩ = some (.int .i64 f.tm))) :=
  ⟨six h.ks, six h.kx, six h.kq, eight h.kf⟩

theorem aged_sp {s : S} {k : Nat} (h : k < s.sp.length) : rx (agedS s).sp k = rx s.sp k ∧ ra (agedS s).sp k = min 1000 (ra s.sp k + 1) ∧ ro (agedS s).sp k = ro s.sp k := by
  show ((s.sp.map ageR).getD k zR).1 = _ ∧ ((s.sp.map ageR).getD k zR).2.1 = _ ∧ ((s.sp.map ageR).getD k zR).2.2 = _
  rw [rd.map_age h]; exact ⟨rfl, rfl, rfl⟩
theorem aged_fa {s : S} {k : Nat} (h : k < s.fa.length) : rx (agedS s).fa k = rx s.fa k ∧ ra (agedS s).fa k = min 1000 (ra s.fa k + 1) ∧ ro (agedS s).fa k = ro s.fa k := by
  show ((s.fa.map ageR).getD k zR).1 = _ ∧ ((s.fa.map ageR).getD k zR).2.1 = _ ∧ ((s.fa.map ageR).getD k zR).2.2 = _
  rw [rd.map_age h]; exact ⟨rfl, rfl, rfl⟩
theorem aged_one {v g : Int} {o : Bool} (h : okR (v, g, o) = true) (W : World) : Calls Tryz.prog 18 #[.agg #[.int .i64 v, .int .i64 g, .bool o]] W (rd.RetR (v, min 1000 (g + 1), o) W) := by
  have := rd.specAged v g o W
  rwa [show aged (v, g, o) = (v, min 1000 (g + 1), o) from if_pos h] at this
theorem keep8 {W W' : World} {x1 x2 x3 x4 x5 x6 x7 x8 : Addr} {u1 u2 u3 u4 u5 u6 u7 u8 : Value} (h : W.cell? x1 = some u1 ∧ W.cell? x2 = some u2 ∧ W.cell? x3 = some u3 ∧ W.cell? x4 = some u4 ∧ W.cell? x5 = some u5 ∧ W.cell? x6 = some u6 ∧ W.cell? x7 = some u7 ∧ W.cell? x8 = some u8) (g : W.grownBy W' none) :
    W'.cell? x1 = some u1 ∧ W'.cell? x2 = some u2 ∧ W'.cell? x3 = some u3 ∧ W'.cell? x4 = some u4 ∧ W'.cell? x5 = some u5 ∧ W'.cell? x6 = some u6 ∧ W'.cell? x7 = some u7 ∧ W'.cell? x8 = some u8 := by
  obtain ⟨h1, h2, h3, h4, h5, h6, h7, h8⟩ := h
  exact ⟨sane.cell_kept h1 g, sane.cell_kept h2 g, sane.cell_kept h3 g, sane.cell_kept h4 g, sane.cell_kept h5 g, sane.cell_kept h6 g, sane.cell_kept h7 g, sane.cell_kept h8 g⟩

set_option maxRecDepth 100000 in
set_option maxHeartbeats 8000000 in
theorem sensLaw (b : Option Addr) (n c : Nat) (w : World) (hb : Bytes w w.heap.size b n) (e1 e2 e3 : Addr) (hV : Vals w) (he : sane.ErrB w e1 e2 e3) (ht : sane.ErrT w) (hr : Rgs w) :
    Calls Tryz.prog 3 #[.slice b n c] w fun e w' => e = .returned (.bool true) ∧ Below w.heap.size w w' := by
  by_cases hbig : 4096 < n
  · have hd : decide (4096 < n) = true := by simp [hbig]
    go_enter Tryz.func3, Tryz.ntmps3
    go_wp2_with fail
    refine (cur.big b n c w).mono ?_
    rintro e w1 ⟨rfl, rfl⟩
    go_wp2_with fail
    go_ret
    exact ⟨rfl, Below.refl _ _⟩
  · have hd : decide (4096 < n) = false := by simp [hbig]
    have hn : n ≤ 4096 := by omega
    go_enter Tryz.func3, Tryz.ntmps3
    go_wp2_with fail
    refine (cur.big b n c w).mono ?_
    rintro e w1 ⟨rfl, rfl⟩
    go_wp2_with fail
    refine (drawFed b n c _ hn hb).mono ?_
    rintro e w1 ⟨s, p, a, cap, fs, ps, rfl, g0, A, B, hF, hl4, hv6⟩
    clear hd hbig
    have B' := B.up (show 100 ≤ 1048576 by omega)
    have hl : fs.length ≤ 1048576 := by omega
    have hv : ∀ k, k < fs.length → (fv fs k).length ≤ 1048576 := fun k hk => by have := hv6 k hk; omega
    have HL4 := Lib.hid hl4
    clear hl4 hv6 B
    have K := Has.fresh w1 27 (cs6 s p)
    have ga := World.grownBy_alloc w1 (Obj.cells (cs6 s p) 27) none
    replace g0 := gr_trans g0 ga
    replace A := A.kept ga
    replace hF := hF.kept ga
    clear ga
    go_upto_region 4 with fail
    generalize w1.alloc (Obj.cells #[.slice p.a1 s.sp.length p.c1, .slice p.a2 s.he.length p.c2, .slice p.a3 s.fa.length p.c3, .int .i64 s.wn, .bool s.ar, .slice p.a4 s.sq.length p.c4] 27) = w2 at *
    generalize w1.heap.size = b3 at *
    obtain ⟨⟨c0, c1, c2⟩, c3, c4, c5⟩ := six K
    go_wp2_with fail
    refine (implFed s p a cap fs ps e1 e2 e3 _ A B' hF hl hv (hV.kept g0) (he.kept g0) (ht.kept g0) (hr.kept g0)).mono ?_
    rintro e w4 ⟨px, rfl, g4, O4⟩
    replace g0 := gr_trans g0 g4
    replace A := A.kept g4
    replace hF := hF.kept g4
    replace K := K.grown g4 (by simp)
    clear g4 c0 c1 c2 c3 c4 c5
    have hok : ok s = true → ok (fed s fs) = true := fun h => ok_fed h
    have hno : ok s = false → fed s fs = zS := fun h => fed_no h
    have hAg : ok s = true → fs.length ≤ 1 → fed (fed s fs) fs = fed (fed s fs) [] := fun h h2 => again h h2
    have Bx : Bd (fed s fs) 1048576 := by
      cases h : ok s
      · rw [hno h]; exact bd_z
      · exact bd_ok (hok h)
    have cFs := fun W (k : Arg W s p) (k2 : Frs W a fs ps) => specFed s p a cap fs ps W k B' k2 hl hv
    generalize fed s fs = x at *
    have Kx := Has.fresh w4 27 (cs6 x px)
    have ga := World.grownBy_alloc w4 (Obj.cells (cs6 x px) 27) none
    replace g0 := gr_trans g0 ga
    replace A := A.kept ga
    replace hF := hF.kept ga
    replace K := K.grown ga (by simp)
    have Ax := O4.arg.kept ga
    clear ga O4
    go_upto_region 5 with fail
    generalize w4.alloc (Obj.cells #[.slice px.a1 x.sp.length px.c1, .slice px.a2 x.he.length px.c2, .slice px.a3 x.fa.length px.c3, .int .i64 x.wn, .bool x.ar, .slice px.a4 x.sq.length px.c4] 27) = w5 at *
    generalize w4.heap.size = b5 at *
    go_wp2_with fail
    refine (drawFactsOf b n c _ hn (bytes_grown hb g0)).mono ?_
    rintro e w6 ⟨q, pq, k, t, rfl, g6, Aq, Bq⟩
    have Bq' := Bq.up (show 100 ≤ 1048576 by omega)
    have ga := World.grownBy_alloc w6 (Obj.cells (cs6 q pq) 27) none
    have gg := gr_trans g6 ga
    replace g0 := gr_trans g0 gg
    replace A := A.kept gg
    replace hF := hF.kept gg
    replace K := K.grown gg (by simp)
    replace Kx := Kx.grown gg (by simp)
    replace Ax := Ax.kept gg
    replace Aq := Aq.kept ga
    have Kq := Has.fresh w6 27 (cs6 q pq)
    clear ga gg g6 Bq
    go_upto_region 6 with fail
    generalize w6.alloc (Obj.cells #[.slice pq.a1 q.sp.length pq.c1, .slice pq.a2 q.he.length pq.c2, .slice pq.a3 q.fa.length pq.c3, .int .i64 q.wn, .bool q.ar, .slice pq.a4 q.sq.length pq.c4] 27) = w7 at *
    generalize w6.heap.size = b6 at *
    have cI := fun W (k1 : Arg W q pq) (v : Vals W) => implFacts q pq k t W k1 Bq' v
    have cQ := fun W (k1 : Arg W q pq) => specFacts q pq k t W k1 Bq'
    have hfok := facts_ok q k t
    generalize factsOf q k t = f at *
    obtain ⟨⟨c0, c1, c2⟩, c3, c4, c5⟩ := six Kq
    go_wp2_with fail
    refine (cI _ Aq (hV.kept g0)).mono ?_
    rintro e w8 ⟨rfl, g8⟩
    have ga := World.grownBy_alloc w8 (Obj.cells (cs8 f) 35) none
    have gg := gr_trans g8 ga
    replace g0 := gr_trans g0 gg
    have E : Kn (w8.alloc (Obj.cells (cs8 f) 35)) b3 b5 b6 w8.heap.size s p x px q pq f a fs ps :=
      ⟨K.grown gg (by simp), Kx.grown gg (by simp), Kq.grown gg (by simp), Has.fresh _ _ _, A.kept gg, Ax.kept gg, Aq.kept gg, hF.kept gg, hV.kept g0⟩
    clear ga gg g8 K Kx Kq A Ax Aq hF cI c0 c1 c2 c3 c4 c5
    go_upto_region 7 with fail
    generalize w8.alloc (Obj.cells #[.int .i64 f.sp, .bool f.so, .int .i64 f.h, .bool f.ho, .int .i64 f.c, .bool f.ar, .int .i64 f.wn, .int .i64 f.tm] 35) = w9 at *
    generalize w8.heap.size = b9 at *
    have cOi := fun W (k1 : Arg W s p) (v : Vals W) => implSensesOk s p W k1 B' v
    have cOs := fun W (k1 : Arg W s p) => specSensesOk s p W k1 B'
    have hno2 := Lib.hid hno
    have hok2 := Lib.hid hok
    have hAg2 := Lib.hid hAg
    clear hno hok hAg
    obtain ⟨N, hN⟩ : ∃ N, newS = N := ⟨_, rfl⟩
    have cNi : ∀ W, Vals W → Calls Tryz.prog 15 #[] W (RetS N W) := fun W v => hN ▸ implNew W v
    have cNs : ∀ W, Calls Tryz.prog 16 #[] W (RetS N W) := fun W => hN ▸ specNew W
    have BN : Bd N 1048576 := hN ▸ bd_ok ok_new
    have cNo : ∀ W pn, Arg W N pn → Vals W → Calls Tryz.prog 13 #[sv N pn] W (Ret (.bool true) W) := fun W pn k1 v => by
      have := implSensesOk N pn W k1 BN v
      rw [← hN, ok_new] at this
      rw [← hN]
      exact this
    clear hN
    generalize ho : ok s = o at *
    have HO := Lib.hid ho
    clear ho
    have hqF := fun W => neqF_same W f
    have hGF := guardF
    have E0 : Kn w9.drew b3 b5 b6 b9 s p x px q pq f a fs ps := E.kept (gr_drewN (gr_refl _ _) 1)
    have CC := E.cells
    obtain ⟨⟨⟨c30, c31, c32⟩, c33, c34, c35⟩, ⟨⟨c50, c51, c52⟩, c53, c54, c55⟩, ⟨⟨c60, c61, c62⟩, c63, c64, c65⟩, c90, c91, c92, c93, c94, c95, c96, c97⟩ := CC
    go_region_held3 (fun W => (((W.cell? ⟨b3, 0, none⟩ = some (.slice p.a1 s.sp.length p.c1) ∧ W.cell? ⟨b3, 1, none⟩ = some (.slice p.a2 s.he.length p.c2) ∧ W.cell? ⟨b3, 2, none⟩ = some (.slice p.a3 s.fa.length p.c3)) ∧ W.cell? ⟨b3, 3, none⟩ = some (.int .i64 s.wn) ∧ W.cell? ⟨b3, 4, none⟩ = some (.bool s.ar) ∧ W.cell? ⟨b3, 5, none⟩ = some (.slice p.a4 s.sq.length p.c4)) ∧ ((W.cell? ⟨b5, 0, none⟩ = some (.slice px.a1 x.sp.length px.c1) ∧ W.cell? ⟨b5, 1, none⟩ = some (.slice px.a2 x.he.length px.c2) ∧ W.cell? ⟨b5, 2, none⟩ = some (.slice px.a3 x.fa.length px.c3)) ∧ W.cell? ⟨b5, 3, none⟩ = some (.int .i64 x.wn) ∧ W.cell? ⟨b5, 4, none⟩ = some (.bool x.ar) ∧ W.cell? ⟨b5, 5, none⟩ = some (.slice px.a4 x.sq.length px.c4)) ∧ ((W.cell? ⟨b6, 0, none⟩ = some (.slice pq.a1 q.sp.length pq.c1) ∧ W.cell? ⟨b6, 1, none⟩ = some (.slice pq.a2 q.he.length pq.c2) ∧ W.cell? ⟨b6, 2, none⟩ = some (.slice pq.a3 q.fa.length pq.c3)) ∧ W.cell? ⟨b6, 3, none⟩ = some (.int .i64 q.wn) ∧ W.cell? ⟨b6, 4, none⟩ = some (.bool q.ar) ∧ W.cell? ⟨b6, 5, none⟩ = some (.slice pq.a4 q.sq.length pq.c4)) ∧ (W.cell? ⟨b9, 0, none⟩ = some (.int .i64 f.sp) ∧ W.cell? ⟨b9, 1, none⟩ = some (.bool f.so) ∧ W.cell? ⟨b9, 2, none⟩ = some (.int .i64 f.h) ∧ W.cell? ⟨b9, 3, none⟩ = some (.bool f.ho) ∧ W.cell? ⟨b9, 4, none⟩ = some (.int .i64 f.c) ∧ W.cell? ⟨b9, 5, none⟩ = some (.bool f.ar) ∧ W.cell? ⟨b9, 6, none⟩ = some (.int .i64 f.wn) ∧ W.cell? ⟨b9, 7, none⟩ = some (.int .i64 f.tm))))
      (first | with_reducible exact E10.cells | with_reducible exact E9.cells | with_reducible exact E8.cells | with_reducible exact E7.cells | with_reducible exact E6.cells | with_reducible exact E5.cells | with_reducible exact E4.cells | with_reducible exact E3.cells | with_reducible exact E2.cells | with_reducible exact E1.cells | with_reducible exact E0.cells)
      (first | (go_at_call 10; refine (likeSenses N N p6 p7 _ A67 A7 BN BN).mono ?_; rintro e v8 ⟨vb, rfl, hg8, hvb⟩; obtain rfl := hvb rfl; have E8 := E7.kept hg8) | (go_at_call 15; refine (cNi _ E8.vl).mono ?_; rintro e v9 ⟨p9, rfl, hg9, O9⟩; have E9 := E8.kept hg9; have A9 := O9.arg) | (go_at_call 13; refine (cNo _ p9 A9 E9.vl).mono ?_; rintro e v10 ⟨rfl, hg10⟩; have E10 := E9.kept hg10) | (go_at_call 11; refine (cFs _ E0.a3 E0.fr).mono ?_; rintro e v1 ⟨p1, rfl, hg1, O1⟩; have E1 := E0.kept hg1; have A1 := O1.arg) | (go_at_call 10; refine (likeSenses x x px p1 _ E1.a5 A1 Bx Bx).mono ?_; rintro e v2 ⟨vb, rfl, hg2, hvb⟩; obtain rfl := hvb rfl; have E2 := E1.kept hg2) | (go_at_call 12; refine (cQ _ E2.a6).mono ?_; rintro e v3 ⟨rfl, hg3⟩; have E3 := E2.kept hg3) | (go_at_call 13; refine (cOi _ E3.a3 E3.vl).mono ?_; rintro e v4 ⟨rfl, hg4⟩; have E4 := E3.kept hg4) | (go_at_call 14; refine (cOs _ E4.a3).mono ?_; rintro e v5 ⟨rfl, hg5⟩; have E5 := E4.kept hg5) | (go_at_call 15; refine (cNi _ E5.vl).mono ?_; rintro e v6 ⟨p6, rfl, hg6, O6⟩; have E6 := E5.kept hg6; have A6 := O6.arg) | (go_at_call 16; refine (cNs _).mono ?_; rintro e v7 ⟨p7, rfl, hg7, O7⟩; have E7 := E6.kept hg7; have A7 := O7.arg; have A67 := A6.kept hg7))
    replace g0 := gr_trans (gr_trans (gr_trans (gr_trans (gr_trans (gr_trans (gr_trans (gr_trans (gr_trans (gr_trans (gr_drewN g0 1) hg1) hg2) hg3) hg4) hg5) hg6) hg7) hg8) hg9) hg10
    clear E0 E1 E2 E3 E4 E5 E6 E7 E8 E9 E hg1 hg2 hg3 hg4 hg5 hg6 hg7 hg8 hg9 hg10 A1 A6 A7 A67 A9 O1 O6 O7 O9 cFs cQ cOi cNi cNs cNo BN hqF hGF c30 c31 c32 c33 c34 c35 c50 c51 c52 c53 c54 c55 c60 c61 c62 c63 c64 c65 c90 c91 c92 c93 c94 c95 c96 c97
    have cG := md.implFactsOk f
    rw [hfok] at cG
    obtain ⟨c90, c91, c92, c93, c94, c95, c96, c97⟩ := eight E10.kf
    go_wp2_with fail
    refine (cG _).mono ?_
    rintro e u1 ⟨rfl, hg⟩
    have E := E10.kept hg
    replace g0 := gr_trans g0 hg
    clear cG hg E10 c90 c91 c92 c93 c94 c95 c96 c97
    obtain ⟨⟨c30, c31, c32⟩, c33, c34, c35⟩ := six E.ks
    cases o
    · go_wp2_with fail
      refine (cOs _ E.a3).mono ?_
      rintro e u2 ⟨rfl, hg⟩
      replace E := E.kept hg
      replace g0 := gr_trans g0 hg
      clear hg cOs c30 c31 c32 c33 c34 c35
      obtain ⟨⟨c50, c51, c52⟩, c53, c54, c55⟩ := six E.kx
      have hxz := Lib.hid (hno2.out (by first | rfl | trivial))
      go_wp2_with fail
      refine (likeSenses x zS px zP _ E.a5 (own_zero _).arg Bx bd_z).mono ?_
      rintro e u3 ⟨vb, rfl, hg3, hvb⟩
      obtain rfl := hvb hxz.out
      go_wp2_with fail
      go_ret
      exact ⟨rfl, below_of_none (gr_trans g0 hg3)⟩
    · have okS := HO
      have okX := Lib.hid (hok2.out (by first | rfl | trivial))
      have hAg := Lib.hid (hAg2.out (by first | rfl | trivial))
      clear HO hok2 hAg2 hno2
      go_wp2_with fail
      refine (cOs _ E.a3).mono ?_
      rintro e u2 ⟨rfl, hg⟩
      replace E := E.kept hg
      replace g0 := gr_trans g0 hg
      clear hg cOs c30 c31 c32 c33 c34 c35
      obtain ⟨⟨c30, c31, c32⟩, c33, c34, c35⟩ := six E.ks
      have cD := implFed s p none 0 [] [] e1 e2 e3 u2 E.a3 B' (fun k hk => by simp at hk) (by simp) (fun k hk => by simp at hk) (hV.kept g0) (he.kept g0) (ht.kept g0) (hr.kept g0)
      rw [fed_nil okS.out] at cD
      go_wp2_with fail
      refine cD.mono ?_
      rintro e u3 ⟨pn, rfl, hg, On⟩
      have ga := World.grownBy_alloc u3 (Obj.cells (cs6 (agedS s) pn) 27) none
      have gg := gr_trans hg ga
      replace E := E.kept gg
      replace g0 := gr_trans g0 gg
      have K10 : Has (u3.alloc (Obj.cells (cs6 (agedS s) pn) 27)) u3.heap.size 27 (cs6 (agedS s) pn) ∧ Arg (u3.alloc (Obj.cells (cs6 (agedS s) pn) 27)) (agedS s) pn := ⟨Has.fresh _ _ _, On.arg.kept ga⟩
      clear cD hg ga gg On c30 c31 c32 c33 c34 c35
      go_upto_region 14 with fail
      generalize u3.alloc (Obj.cells #[.slice pn.a1 (agedS s).sp.length pn.c1, .slice pn.a2 (agedS s).he.length pn.c2, .slice pn.a3 (agedS s).fa.length pn.c3, .int .i64 (agedS s).wn, .bool (agedS s).ar, .slice pn.a4 (agedS s).sq.length pn.c4] 27) = u4 at *
      generalize u3.heap.size = b10 at *
      obtain ⟨⟨c50, c51, c52⟩, c53, c54, c55⟩ := six E.kx
      go_wp2_with fail
      refine (implFed x px a cap fs ps e1 e2 e3 u4 E.a5 Bx E.fr hl hv (hV.kept g0) (he.kept g0) (ht.kept g0) (hr.kept g0)).mono ?_
      rintro e u5 ⟨py, rfl, hg, Oy⟩
      have By := bd_ok (ok_fed (fs := fs) okX.out)
      generalize fed x fs = y at *
      have ga := World.grownBy_alloc u5 (Obj.cells (cs6 y py) 27) none
      have gg := gr_trans hg ga
      replace E := E.kept gg
      replace g0 := gr_trans g0 gg
      replace K10 := And.intro (K10.1.grown gg (by simp)) (K10.2.kept gg)
      have K11 : Has (u5.alloc (Obj.cells (cs6 y py) 27)) u5.heap.size 27 (cs6 y py) ∧ Arg (u5.alloc (Obj.cells (cs6 y py) 27)) y py := ⟨Has.fresh _ _ _, Oy.arg.kept ga⟩
      clear hg ga gg Oy c50 c51 c52 c53 c54 c55
      go_upto_region 15 with fail
      generalize u5.alloc (Obj.cells #[.slice py.a1 y.sp.length py.c1, .slice py.a2 y.he.length py.c2, .slice py.a3 y.fa.length py.c3, .int .i64 y.wn, .bool y.ar, .slice py.a4 y.sq.length py.c4] 27) = u6 at *
      generalize u5.heap.size = b11 at *
      obtain ⟨⟨c50, c51, c52⟩, c53, c54, c55⟩ := six E.kx
      go_wp2_with fail
      refine (implFed x px none 0 [] [] e1 e2 e3 u6 E.a5 Bx (fun k hk => by simp at hk) (by simp) (fun k hk => by simp at hk) (hV.kept g0) (he.kept g0) (ht.kept g0) (hr.kept g0)).mono ?_
      rintro e u7 ⟨pz, rfl, hg, Oz⟩
      have Bz := bd_ok (ok_fed (fs := []) okX.out)
      generalize fed x [] = z at *
      have ga := World.grownBy_alloc u7 (Obj.cells (cs6 z pz) 27) none
      have gg := gr_trans hg ga
      replace E := E.kept gg
      replace g0 := gr_trans g0 gg
      replace K10 := And.intro (K10.1.grown gg (by simp)) (K10.2.kept gg)
      replace K11 := And.intro (K11.1.grown gg (by simp)) (K11.2.kept gg)
      have K12 : Has (u7.alloc (Obj.cells (cs6 z pz) 27)) u7.heap.size 27 (cs6 z pz) ∧ Arg (u7.alloc (Obj.cells (cs6 z pz) 27)) z pz := ⟨Has.fresh _ _ _, Oz.arg.kept ga⟩
      clear hg ga gg Oz c50 c51 c52 c53 c54 c55
      go_upto_region 16 with fail
      generalize u7.alloc (Obj.cells #[.slice pz.a1 z.sp.length pz.c1, .slice pz.a2 z.he.length pz.c2, .slice pz.a3 z.fa.length pz.c3, .int .i64 z.wn, .bool z.ar, .slice pz.a4 z.sq.length pz.c4] 27) = u8 at *
      generalize u7.heap.size = b12 at *
      obtain ⟨a1, j1, a2, j2, a3, j3, a4, j4⟩ := p
      obtain ⟨f1, i1, f2, i2, f3, i3, f4, i4⟩ := pn
      obtain ⟨y1, ey, _⟩ := E.a3.sp 0 (by have := (ok_iff.1 okS.out).sp3; omega)
      dsimp only at ey
      subst ey
      obtain ⟨y3, ey, _⟩ := E.a3.fa 0 (by have := (ok_iff.1 okS.out).fa6; omega)
      dsimp only at ey
      subst ey
      obtain ⟨d1, ey, _⟩ := K10.2.sp 0 (by have := (ok_iff.1 (ok_aged okS.out)).sp3; omega)
      dsimp only at ey
      subst ey
      obtain ⟨d3, ey, _⟩ := K10.2.fa 0 (by have := (ok_iff.1 (ok_aged okS.out)).fa6; omega)
      dsimp only at ey
      subst ey
      go_wp2_with fail
      go_loopw [13] (fun i wr => ∃ k : Nat, k ≤ 3 ∧ i = .int .i64 k ∧ Kn wr b3 b5 b6 b9 s ⟨some y1, j1, a2, j2, some y3, j3, a4, j4⟩ x px q pq f a fs ps ∧ (Has wr b10 27 (cs6 (agedS s) ⟨some d1, i1, f2, i2, some d3, i3, f4, i4⟩) ∧ Arg wr (agedS s) ⟨some d1, i1, f2, i2, some d3, i3, f4, i4⟩) ∧ (Has wr b11 27 (cs6 y py) ∧ Arg wr y py) ∧ (Has wr b12 27 (cs6 z pz) ∧ Arg wr z pz) ∧ w.grownBy wr none) (fun i _ => 3 - (intOf i).toNat)
      case atStart => exact ⟨0, by omega, rfl, E, K10, K11, K12, g0⟩
      case round =>
        clear E K10 K11 K12 g0
        obtain ⟨k, hk, rfl, E, K10, K11, K12, g0⟩ := hrel
        by_cases hlt : k < 3
        · have hd : decide ((k : Int) < 3) = true := by simp; omega
          have hks : k < s.sp.length := by have := (ok_iff.1 okS.out).sp3; omega
          have hkd : k < (agedS s).sp.length := by rw [show (agedS s).sp.length = s.sp.length by simp [agedS]]; exact hks
          have hks' : (k : Int) < (s.sp.length : Int) := by omega
          have hkd' : (k : Int) < ((agedS s).sp.length : Int) := by omega
          obtain ⟨y, ey, _, cx, cy, cz⟩ := E.a3.sp k hks
          obtain ⟨z, ez, _, dx, dy, dz⟩ := K10.2.sp k hkd
          dsimp only at ey ez
          cases ey
          cases ez
          obtain ⟨q1, q2, q3⟩ := aged_sp hks
          rw [q1] at dx
          rw [q2] at dy
          rw [q3] at dz
          have hR : okR (rx s.sp k, ra s.sp k, ro s.sp k) = true := okR_at (ok_iff.1 okS.out).sp hks
          clear q1 q2 q3
          generalize rx s.sp k = v at *
          generalize ra s.sp k = g at *
          generalize ro s.sp k = o1 at *
          have cA := fun W => aged_one hR W
          have hq := fun W => neqR_same W v (min 1000 (g + 1)) o1
          have hG := guardR
          clear hR hks hkd
          obtain ⟨⟨c30, c31, c32⟩, c33, c34, c35⟩ := six E.ks
          obtain ⟨⟨h0, h1, h2⟩, h3, h4, h5⟩ := six K10.1
          go_wp2_with fail
          have C0 : wr.drew.cell? ⟨b10, 0, none⟩ = some (.slice (some d1) (agedS s).sp.length i1) ∧ wr.drew.cell? ⟨b3, 0, none⟩ = some (.slice (some y1) s.sp.length j1) ∧ wr.drew.cell? (d1.add (k * 3)) = some (.int .i64 v) ∧ wr.drew.cell? ⟨(d1.add (k * 3)).block, (d1.add (k * 3)).off + 1, none⟩ = some (.int .i64 (min 1000 (g + 1))) ∧ wr.drew.cell? ⟨(d1.add (k * 3)).block, (d1.add (k * 3)).off + 2, none⟩ = some (.bool o1) ∧ wr.drew.cell? (y1.add (k * 3)) = some (.int .i64 v) ∧ wr.drew.cell? ⟨(y1.add (k * 3)).block, (y1.add (k * 3)).off + 1, none⟩ = some (.int .i64 g) ∧ wr.drew.cell? ⟨(y1.add (k * 3)).block, (y1.add (k * 3)).off + 2, none⟩ = some (.bool o1) := ⟨h0, c30, dx, dy, dz, cx, cy, cz⟩
          go_region_held3 (fun W => W.cell? ⟨b10, 0, none⟩ = some (.slice (some d1) (agedS s).sp.length i1) ∧ W.cell? ⟨b3, 0, none⟩ = some (.slice (some y1) s.sp.length j1) ∧ W.cell? (d1.add (k * 3)) = some (.int .i64 v) ∧ W.cell? ⟨(d1.add (k * 3)).block, (d1.add (k * 3)).off + 1, none⟩ = some (.int .i64 (min 1000 (g + 1))) ∧ W.cell? ⟨(d1.add (k * 3)).block, (d1.add (k * 3)).off + 2, none⟩ = some (.bool o1) ∧ W.cell? (y1.add (k * 3)) = some (.int .i64 v) ∧ W.cell? ⟨(y1.add (k * 3)).block, (y1.add (k * 3)).off + 1, none⟩ = some (.int .i64 g) ∧ W.cell? ⟨(y1.add (k * 3)).block, (y1.add (k * 3)).off + 2, none⟩ = some (.bool o1)) (first | with_reducible exact C1 | with_reducible exact C0 | fail) (first | (go_at_call 18; refine (cA _).mono ?_; rintro e v1 ⟨rfl, hg1⟩; have C1 := keep8 C0 hg1) | fail)
          have gg := gr_trans (gr_drewN (gr_refl wr none) 1) hg1
          go_wp2_with fail
          go_roundw
          case rel => exact ⟨k + 1, by omega, by go_num, E.kept gg, ⟨K10.1.grown gg (by simp), K10.2.kept gg⟩, ⟨K11.1.grown gg (by simp), K11.2.kept gg⟩, ⟨K12.1.grown gg (by simp), K12.2.kept gg⟩, gr_trans g0 gg⟩
          case measure => simp [intOf]; omega
        · have hd : decide ((k : Int) < 3) = false := by simp; omega
          go_wp2_with fail
          go_loopw [14] (fun i wr => ∃ k : Nat, k ≤ 6 ∧ i = .int .i64 k ∧ Kn wr b3 b5 b6 b9 s ⟨some y1, j1, a2, j2, some y3, j3, a4, j4⟩ x px q pq f a fs ps ∧ (Has wr b10 27 (cs6 (agedS s) ⟨some d1, i1, f2, i2, some d3, i3, f4, i4⟩) ∧ Arg wr (agedS s) ⟨some d1, i1, f2, i2, some d3, i3, f4, i4⟩) ∧ (Has wr b11 27 (cs6 y py) ∧ Arg wr y py) ∧ (Has wr b12 27 (cs6 z pz) ∧ Arg wr z pz) ∧ w.grownBy wr none) (fun i _ => 6 - (intOf i).toNat)
          case atStart => exact ⟨0, by omega, rfl, E, K10, K11, K12, g0⟩
          case round =>
            clear E K10 K11 K12 g0
            obtain ⟨k, hk, rfl, E, K10, K11, K12, g0⟩ := hrel
            by_cases hlt : k < 6
            · have hd : decide ((k : Int) < 6) = true := by simp; omega
              have hks : k < s.fa.length := by have := (ok_iff.1 okS.out).fa6; omega
              have hkd : k < (agedS s).fa.length := by rw [show (agedS s).fa.length = s.fa.length by simp [agedS]]; exact hks
              have hks' : (k : Int) < (s.fa.length : Int) := by omega
              have hkd' : (k : Int) < ((agedS s).fa.length : Int) := by omega
              obtain ⟨y, ey, _, cx, cy, cz⟩ := E.a3.fa k hks
              obtain ⟨z, ez, _, dx, dy, dz⟩ := K10.2.fa k hkd
              dsimp only at ey ez
              cases ey
              cases ez
              obtain ⟨q1, q2, q3⟩ := aged_fa hks
              rw [q1] at dx
              rw [q2] at dy
              rw [q3] at dz
              have hR : okR (rx s.fa k, ra s.fa k, ro s.fa k) = true := okR_at (ok_iff.1 okS.out).fa hks
              clear q1 q2 q3
              generalize rx s.fa k = v at *
              generalize ra s.fa k = g at *
              generalize ro s.fa k = o1 at *
              have cA := fun W => aged_one hR W
              have hq := fun W => neqR_same W v (min 1000 (g + 1)) o1
              have hG := guardR
              clear hR hks hkd
              obtain ⟨⟨c30, c31, c32⟩, c33, c34, c35⟩ := six E.ks
              obtain ⟨⟨h0, h1, h2⟩, h3, h4, h5⟩ := six K10.1
              go_wp2_with fail
              have C0 : wr.drew.cell? ⟨b10, 2, none⟩ = some (.slice (some d3) (agedS s).fa.length i3) ∧ wr.drew.cell? ⟨b3, 2, none⟩ = some (.slice (some y3) s.fa.length j3) ∧ wr.drew.cell? (d3.add (k * 3)) = some (.int .i64 v) ∧ wr.drew.cell? ⟨(d3.add (k * 3)).block, (d3.add (k * 3)).off + 1, none⟩ = some (.int .i64 (min 1000 (g + 1))) ∧ wr.drew.cell? ⟨(d3.add (k * 3)).block, (d3.add (k * 3)).off + 2, none⟩ = some (.bool o1) ∧ wr.drew.cell? (y3.add (k * 3)) = some (.int .i64 v) ∧ wr.drew.cell? ⟨(y3.add (k * 3)).block, (y3.add (k * 3)).off + 1, none⟩ = some (.int .i64 g) ∧ wr.drew.cell? ⟨(y3.add (k * 3)).block, (y3.add (k * 3)).off + 2, none⟩ = some (.bool o1) := ⟨h2, c32, dx, dy, dz, cx, cy, cz⟩
              go_region_held3 (fun W => W.cell? ⟨b10, 2, none⟩ = some (.slice (some d3) (agedS s).fa.length i3) ∧ W.cell? ⟨b3, 2, none⟩ = some (.slice (some y3) s.fa.length j3) ∧ W.cell? (d3.add (k * 3)) = some (.int .i64 v) ∧ W.cell? ⟨(d3.add (k * 3)).block, (d3.add (k * 3)).off + 1, none⟩ = some (.int .i64 (min 1000 (g + 1))) ∧ W.cell? ⟨(d3.add (k * 3)).block, (d3.add (k * 3)).off + 2, none⟩ = some (.bool o1) ∧ W.cell? (y3.add (k * 3)) = some (.int .i64 v) ∧ W.cell? ⟨(y3.add (k * 3)).block, (y3.add (k * 3)).off + 1, none⟩ = some (.int .i64 g) ∧ W.cell? ⟨(y3.add (k * 3)).block, (y3.add (k * 3)).off + 2, none⟩ = some (.bool o1)) (first | with_reducible exact C1 | with_reducible exact C0 | fail) (first | (go_at_call 18; refine (cA _).mono ?_; rintro e v1 ⟨rfl, hg1⟩; have C1 := keep8 C0 hg1) | fail)
              have gg := gr_trans (gr_drewN (gr_refl wr none) 1) hg1
              go_wp2_with fail
              go_roundw
              case rel => exact ⟨k + 1, by omega, by go_num, E.kept gg, ⟨K10.1.grown gg (by simp), K10.2.kept gg⟩, ⟨K11.1.grown gg (by simp), K11.2.kept gg⟩, ⟨K12.1.grown gg (by simp), K12.2.kept gg⟩, gr_trans g0 gg⟩
              case measure => simp [intOf]; omega
            · have hd : decide ((k : Int) < 6) = false := by simp; omega
              have cSx := implSensesOk x px wr E.a5 Bx E.vl
              rw [okX.out] at cSx
              have cLi := fun W (k1 : Arg W y py) (k2 : Arg W z pz) => likeSenses y z py pz W k1 k2 By Bz
              obtain ⟨⟨c50, c51, c52⟩, c53, c54, c55⟩ := six E.kx
              obtain ⟨⟨h0, h1, h2⟩, h3, h4, h5⟩ := six K11.1
              obtain ⟨⟨i0, i1', i2'⟩, i3', i4', i5⟩ := six K12.1
              go_wp2_with fail
              refine cSx.mono ?_
              rintro e u1 ⟨rfl, gg⟩
              replace K11 := And.intro (K11.1.grown gg (by simp)) (K11.2.kept gg)
              replace K12 := And.intro (K12.1.grown gg (by simp)) (K12.2.kept gg)
              replace g0 := gr_trans g0 gg
              clear cSx gg E K10 c50 c51 c52 c53 c54 c55 h0 h1 h2 h3 h4 h5 i0 i1' i2' i3' i4' i5
              obtain ⟨⟨h0, h1, h2⟩, h3, h4, h5⟩ := six K11.1
              obtain ⟨⟨i0, i1', i2'⟩, i3', i4', i5⟩ := six K12.1
              go_wp2_with fail
              refine (cLi _ K11.2 K12.2).mono ?_
              rintro e u2 ⟨vb, rfl, gg, hvb⟩
              have HB := Lib.hid hvb
              clear hvb
              cases vb
              · have hlen : decide ((1 : Int) < (fs.length : Int)) = true := by
                  by_cases h1 : fs.length ≤ 1
                  · have := HB.out (hAg.out h1)
                    cases this
                  · simp; omega
                go_wp2_with fail
                go_ret
                exact ⟨by first | rfl | simp, below_of_none (gr_trans g0 gg)⟩
              · go_wp2_with fail
                go_ret
                exact ⟨by first | rfl | simp, below_of_none (gr_trans g0 gg)⟩
end Go.Proofs.YtdikhdfpcipdbaaGreatDoor.se

