/- Fed of the model. Fed of the model, whatever the senses. Fed of the program. FactsOf of the program. -/
import Derived.Test.YtdikhdfpcipdbaaGreatDoorG30
import Derived.Test.YtdikhdfpcipdbaaGreatDoorG19
import Derived.Test.YtdikhdfpcipdbaaGreatDoorG24
import Derived.Test.YtdikhdfpcipdbaaGreatDoorG14
import Derived.Test.YtdikhdfpcipdbaaGreatDoorG29
import Derived.Test.YtdikhdfpcipdbaaGreatDoorG27
import Derived.Test.YtdikhdfpcipdbaaGreatDoorG23
import Derived.Test.YtdikhdfpcipdbaaGreatDoorG34
import Derived.Deep.RegionHeld3
import Derived.Deep.DeepCutAuto
/- Fed of the model. -/
namespace Go.Proofs.YtdikhdfpcipdbaaGreatDoor.se
open Go.ChangeShapes Go.WideShapes Go.ChangeAt Go.RowKit
open Go.Proofs.YtdikhdfpcipdbaaGreatDoor.nums Go.Proofs.YtdikhdfpcipdbaaGreatDoor.mem
open Go.Proofs.YtdikhdfpcipdbaaGreatDoor.tab (Ret)
open Go.Proofs.YtdikhdfpcipdbaaGreatDoor.rd (R okR ageR zR rx ra ro OwnR RetR)
open Go.Proofs.YtdikhdfpcipdbaaGreatDoor.il (nth Ints Own)
open Go.Proofs.YtdikhdfpcipdbaaGreatDoor.stm (Fr heard fv Frs Pl)
open Go.Proofs.YtdikhdfpcipdbaaGreatDoor.qt (region_below_tail rg_ret rg_same gr_rg)
set_option linter.unusedVariables false

theorem copy2 (s : S) (p : P) (fs : List Fr) (w : World) (h : Arg w s p) (ho : Ok s) : Calls Tryz.prog 39 #[sv s p] w fun e w' => ∃ p5, e = .returned (sval s (uptoS s fs 0) p5) ∧ w.grownBy w' none ∧ OwnS w.heap.size w' (uptoS s fs 0) p5 := by
  refine (specCopyS s p w h ho).mono ?_
  rintro e w' ⟨p5, rfl, g, O⟩
  rw [uptoS_zero ho.sq4]
  exact ⟨p5, rfl, g, O⟩

set_option maxRecDepth 100000 in
set_option maxHeartbeats 4000000 in
theorem specFed_ok (s : S) (p : P) (a : Option Addr) (cap : Nat) (fs : List Fr) (ps : List Pl) (w : World) (h : Arg w s p) (ho : Ok s) (hF : Frs w a fs ps) (hfl : fs.length ≤ 1048576) (hfv : ∀ k, k < fs.length → (fv fs k).length ≤ 1048576) :
    Calls Tryz.prog 11 #[sv s p, .slice a fs.length cap] w (RetS (upto s fs 4) w) := by
  rw [← uptoS_four]
  obtain ⟨a1, j1, a2, j2, a3, j3, a4, j4⟩ := p
  obtain ⟨y, ey, _, _⟩ := h.sq 0 (by rw [ho.sq4]; omega)
  simp only at ey
  subst ey
  have KA := (Has.fresh w 27 (cs6 s ⟨a1, j1, a2, j2, a3, j3, some y, j4⟩)).alloc (Obj.cells #[.slice none 0 0, .slice none 0 0, .slice none 0 0, .int .i64 0, .bool false, .slice none 0 0] 27)
  have R := Has.fresh (w.alloc (Obj.cells (cs6 s ⟨a1, j1, a2, j2, a3, j3, some y, j4⟩) 27)) 27 #[.slice none 0 0, .slice none 0 0, .slice none 0 0, .int .i64 0, .bool false, .slice none 0 0]
  have g0 := gr_alloc (World.grownBy_alloc w (Obj.cells (cs6 s ⟨a1, j1, a2, j2, a3, j3, some y, j4⟩) 27) none) (Obj.cells #[.slice none 0 0, .slice none 0 0, .slice none 0 0, .int .i64 0, .bool false, .slice none 0 0] 27)
  simp only [World.size_alloc] at R
  have hbd : Bd s 1048576 := ⟨by rw [ho.sp3]; omega, by rw [ho.he2]; omega, by rw [ho.fa6]; omega, by rw [ho.sq4]; omega⟩
  have cO := fun W (k : Arg W s ⟨a1, j1, a2, j2, a3, j3, some y, j4⟩) => specSensesOk s ⟨a1, j1, a2, j2, a3, j3, some y, j4⟩ W k hbd
  rw [ok_iff.2 ho] at cO
  obtain ⟨⟨c0, c1, c2⟩, c3, c4, c5⟩ := six KA
  go_enter Tryz.func11, Tryz.ntmps11
  go_wp2_with fail
  refine (cO _ (h.kept g0)).mono ?_
  rintro e w1 ⟨rfl, r⟩
  replace KA := KA.grown r (by simp)
  replace R := R.grown r (by simp)
  replace g0 := gr_trans g0 r
  clear r c0 c1 c2 c3 c4 c5 cO
  obtain ⟨⟨c0, c1, c2⟩, c3, c4, c5⟩ := six KA
  go_wp2_with fail
  refine (copy2 s ⟨a1, j1, a2, j2, a3, j3, some y, j4⟩ fs _ (h.kept g0) ho).mono ?_
  rintro e w2 ⟨p5, rfl, r, O⟩
  have l1 := R.lt
  have K5 := Has.fresh w2 27 (scs s (uptoS s fs 0) p5)
  replace KA := (KA.grown r (by simp)).alloc (Obj.cells (scs s (uptoS s fs 0) p5) 27)
  replace R := (R.grown r (by simp)).alloc (Obj.cells (scs s (uptoS s fs 0) p5) 27)
  have l2 := r.size
  replace g0 := gr_alloc (gr_trans g0 r) (Obj.cells (scs s (uptoS s fs 0) p5) 27)
  replace O := (O.kept (World.grownBy_alloc w2 (Obj.cells (scs s (uptoS s fs 0) p5) 27) none)).below (c := w1.heap.size) (Nat.le_refl _)
  have l5 : w1.heap.size ≤ w2.heap.size := l2
  clear r c0 c1 c2 c3 c4 c5
  obtain ⟨⟨c0, c1, c2⟩, c3, c4, c5⟩ := six KA
  go_wp2_with fail
  generalize w1.heap.size = z0 at *
  generalize hz5 : w2.heap.size = z5 at *
  generalize w2.alloc (Obj.cells (scs s (uptoS s fs 0) p5) 27) = w3 at *
  have hsq := Lib.hid ho.sq4
  have nA : w.heap.size ≠ z5 := by omega
  have nR : w.heap.size + 1 ≠ z5 := by omega
  have n1 : s.sp.length ≤ 1048576 := hbd.1
  have n2 : s.he.length ≤ 1048576 := hbd.2
  have n3 : s.fa.length ≤ 1048576 := hbd.3
  have q1 := Lib.hid ho.sp3
  have q2 := Lib.hid ho.he2
  have q3 := Lib.hid ho.fa6
  have o1 := ho.sp
  have o2 := ho.he
  have o3 := ho.fa
  clear ho hbd
  go_loopw [6, 7, 8, 9] (fun i s7 s8 s9 wr => ∃ (k : Nat) (c : S) (pc : P), k ≤ 4 ∧ i = .int .i64 ((k : Int) + 1) ∧ Hid (uptoS s fs k = c) ∧ Has wr w.heap.size 27 (cs6 s ⟨a1, j1, a2, j2, a3, j3, some y, j4⟩) ∧ Has wr (w.heap.size + 1) 27 #[.slice none 0 0, .slice none 0 0, .slice none 0 0, .int .i64 0, .bool false, .slice none 0 0] ∧ Has wr z5 27 (scs s c pc) ∧ OwnS z0 wr c pc ∧ z0 ≤ wr.heap.size ∧ w.grownBy wr none) (fun i _ _ _ _ => 5 - (intOf i).toNat)
  case atStart => exact ⟨0, _, p5, by omega, rfl, Lib.hid rfl, KA, R, K5, O, by have := K5.lt; omega, g0⟩
  case round =>
    clear KA R K5 O g0 c0 c1 c2 c3 c4 c5
    obtain ⟨k, c, pc, hk, rfl, hc, KA, R, K5, O, hsz, hg⟩ := hrel
    by_cases hlt : k < 4
    · obtain ⟨y', ey, _, cy⟩ := (h.sq.kept hg) k (by have := hsq.out; omega)
      have hkl : k < s.sq.length := by have := hsq.out; omega
      simp only at ey
      injection ey with ey
      subst ey
      have cH := stm.specHeard a cap fs ps ((k : Int) + 1) (nth s.sq k) wr (hF.kept hg) hfl hfv
      rw [show heard ((k : Int) + 1) (nth s.sq k) fs = hd s fs k from rfl] at cH
      have ekk : ((k : Int) + 1) - 1 = k := by omega
      obtain ⟨⟨b0, b1, b2⟩, b3, b4, b5⟩ := six KA
      have l4 := K5.lt
      go_wp2_with fail
      cases hH : hd s fs k with
      | none =>
        rw [hH] at cH
        have hn := Lib.hid ((uptoS_skip hlt hH).trans (by rw [hc.out]))
        clear hH
        refine cH.mono ?_
        rintro e w4 ⟨g4, rfl⟩
        have ga := gr_alloc g4 (Obj.cells #[.int .i64 0, .int .i64 0, .slice none 0 0] 50)
        have K8 := Has.fresh w4 50 #[.int .i64 0, .int .i64 0, .slice none 0 0]
        have l8 : w4.heap.size ≠ z5 := by have := (K5.grown g4 (by simp)).lt; omega
        replace KA := KA.grown ga (by simp)
        replace R := R.grown ga (by simp)
        replace K5 := K5.grown ga (by simp)
        replace O := O.kept ga
        replace hg := gr_trans hg ga
        replace hsz := Nat.le_trans hsz ga.size
        clear b0 b1 b2 b3 b4 b5 cH cy g4 ga
        rcases (show k = 0 ∨ k = 1 ∨ k = 2 ∨ k = 3 by omega) with rfl | rfl | rfl | rfl
        · obtain ⟨⟨i0, i1, i2⟩, i3, i4, i5⟩ := six KA
          obtain ⟨m0, m1, m2, _, _, _⟩ := frm.three K8
          go_wp2_with fail
          refine (takeNo_call 0 400 20 a1 j1 s.sp _ (h.sp.kept hg) n1 o1).mono ?_
          rintro e w6 ⟨x, j, rfl, r, o6, b6⟩
          clear i0 i1 i2 i3 i4 i5 m0 m1 m2
          have O6 := (put_sp O hsz ⟨r, o6, b6⟩ j).box1 (K5.grown r (by simp)) 0 (.slice x s.sp.length j)
          replace KA := KA.grown r (by simp)
          replace R := R.grown r (by simp)
          replace K5 := K5.grown r (by simp)
          replace K8 := K8.grown r (by simp)
          replace hg := gr_trans hg r
          replace hsz := Nat.le_trans hsz r.size
          obtain ⟨⟨i0, i1, i2⟩, i3, i4, i5⟩ := six K5
          obtain ⟨⟨f0, f1, f2⟩, f3, f4, f5⟩ := free6 K5
          go_wp2_with fail
          replace KA := KA.set_other nA 0 (.slice x s.sp.length j)
          replace R := R.set_other nR 0 (.slice x s.sp.length j)
          replace K5 := K5.put 0 (.slice x s.sp.length j) rfl
          replace K8 := K8.set_other l8 0 (.slice x s.sp.length j)
          replace hg := gr_new hg (show w.heap.size ≤ z5 by omega) 0 (.slice x s.sp.length j)
          replace hsz : z0 ≤ (w6.setCell ⟨z5, 0, none⟩ (.slice x s.sp.length j)).heap.size := by simpa using hsz
          clear i0 i1 i2 i3 i4 i5 f0 f1 f2 f3 f4 f5 O
          go_roundw
          case rel => exact ⟨1, quietS s c 0, ⟨x, j, pc.a2, pc.c2, pc.a3, pc.c3, pc.a4, pc.c4⟩, by omega, by go_num, hn, KA, R, K5, O6, hsz, hg⟩
          case measure => first | (simp [intOf]; done) | (simp [intOf]; omega)
        · obtain ⟨⟨i0, i1, i2⟩, i3, i4, i5⟩ := six KA
          obtain ⟨m0, m1, m2, _, _, _⟩ := frm.three K8
          go_wp2_with fail
          refine (takeNo_call 0 2000 60 a2 j2 s.he _ (h.he.kept hg) n2 o2).mono ?_
          rintro e w6 ⟨x, j, rfl, r, o6, b6⟩
          clear i0 i1 i2 i3 i4 i5 m0 m1 m2
          have O6 := (put_he O hsz ⟨r, o6, b6⟩ j).box1 (K5.grown r (by simp)) 1 (.slice x s.he.length j)
          replace KA := KA.grown r (by simp)
          replace R := R.grown r (by simp)
          replace K5 := K5.grown r (by simp)
          replace K8 := K8.grown r (by simp)
          replace hg := gr_trans hg r
          replace hsz := Nat.le_trans hsz r.size
          obtain ⟨⟨i0, i1, i2⟩, i3, i4, i5⟩ := six K5
          obtain ⟨⟨f0, f1, f2⟩, f3, f4, f5⟩ := free6 K5
          go_wp2_with fail
          replace KA := KA.set_other nA 1 (.slice x s.he.length j)
          replace R := R.set_other nR 1 (.slice x s.he.length j)
          replace K5 := K5.put 1 (.slice x s.he.length j) rfl
          replace K8 := K8.set_other l8 1 (.slice x s.he.length j)
          replace hg := gr_new hg (show w.heap.size ≤ z5 by omega) 1 (.slice x s.he.length j)
          replace hsz : z0 ≤ (w6.setCell ⟨z5, 1, none⟩ (.slice x s.he.length j)).heap.size := by simpa using hsz
          clear i0 i1 i2 i3 i4 i5 f0 f1 f2 f3 f4 f5 O
          go_roundw
          case rel => exact ⟨2, quietS s c 1, ⟨pc.a1, pc.c1, x, j, pc.a3, pc.c3, pc.a4, pc.c4⟩, by omega, by go_num, hn, KA, R, K5, O6, hsz, hg⟩
          case measure => first | (simp [intOf]; done) | (simp [intOf]; omega)
        · obtain ⟨⟨i0, i1, i2⟩, i3, i4, i5⟩ := six KA
          obtain ⟨m0, m1, m2, _, _, _⟩ := frm.three K8
          go_wp2_with fail
          refine (agedO_call a3 j3 s.fa _ (h.fa.kept hg) n3 o3).mono ?_
          rintro e w6 ⟨x, j, rfl, r, o6, b6⟩
          clear i0 i1 i2 i3 i4 i5 m0 m1 m2
          have O6 := (put_fa O hsz ⟨r, o6, b6⟩ j).box1 (K5.grown r (by simp)) 2 (.slice x s.fa.length j)
          replace KA := KA.grown r (by simp)
          replace R := R.grown r (by simp)
          replace K5 := K5.grown r (by simp)
          replace K8 := K8.grown r (by simp)
          replace hg := gr_trans hg r
          replace hsz := Nat.le_trans hsz r.size
          obtain ⟨⟨i0, i1, i2⟩, i3, i4, i5⟩ := six K5
          obtain ⟨⟨f0, f1, f2⟩, f3, f4, f5⟩ := free6 K5
          go_wp2_with fail
          replace KA := KA.set_other nA 2 (.slice x s.fa.length j)
          replace R := R.set_other nR 2 (.slice x s.fa.length j)
          replace K5 := K5.put 2 (.slice x s.fa.length j) rfl
          replace K8 := K8.set_other l8 2 (.slice x s.fa.length j)
          replace hg := gr_new hg (show w.heap.size ≤ z5 by omega) 2 (.slice x s.fa.length j)
          replace hsz : z0 ≤ (w6.setCell ⟨z5, 2, none⟩ (.slice x s.fa.length j)).heap.size := by simpa using hsz
          clear i0 i1 i2 i3 i4 i5 f0 f1 f2 f3 f4 f5 O
          generalize w6.setCell ⟨z5, 2, none⟩ (.slice x s.fa.length j) = v6 at *
          obtain ⟨wo, rfl⟩ : ∃ wo : World, wo = wr := ⟨_, rfl⟩
          go_loopw [9] (fun i wr => i = .int .i64 0 ∧ wr = v6) (fun _ _ => 0)
          case atStart => exact ⟨rfl, rfl⟩
          case round =>
            obtain ⟨rfl, rfl⟩ := hrel
            go_wp2_with fail
            go_roundw
            case rel => exact ⟨3, quietS s c 2, ⟨pc.a1, pc.c1, pc.a2, pc.c2, x, j, pc.a4, pc.c4⟩, by omega, by go_num, hn, KA, R, K5, O6, hsz, hg⟩
            case measure => first | (simp [intOf]; done) | (simp [intOf]; omega)
        · have O6 := O
          go_wp2_with fail
          go_roundw
          case rel => exact ⟨4, quietS s c 3, pc, by omega, by go_num, hn, KA, R, K5, O6, hsz, hg⟩
          case measure => first | (simp [intOf]; done) | (simp [intOf]; omega)
      | some F =>
        obtain ⟨kk, q4, vs⟩ := F
        have hkk := (hd_ok hH).2
        have hvl := hd_len hH
        have hn := (uptoS_tell hlt hH)
        rw [hc.out] at hn
        replace hn := Lib.hid hn
        rw [hH] at cH
        simp only at hkk hvl
        subst hkk
        have hls := (len_uptoS s fs k).2.2.2
        have hfa2 := uptoS_fa s fs
        rw [hc.out] at hls
        clear hH
        obtain ⟨B1, M1, B2, M2, B3, M3, B4, M4⟩ := pc
        refine cH.mono ?_
        rintro e w4 ⟨g4, a5, cap5, rfl, own4⟩
        rcases (show k = 0 ∨ k = 1 ∨ k = 2 ∨ k = 3 by omega) with rfl | rfl | rfl | rfl
        · have hvI := own4.ints
          have l8 : w4.heap.size ≠ z5 := by have := (K5.grown g4 (by simp)).lt; omega
          have K8 := Has.fresh w4 50 #[.int .i64 1, .int .i64 q4, .slice a5 vs.length cap5]
          have ga := gr_alloc g4 (Obj.cells #[.int .i64 1, .int .i64 q4, .slice a5 vs.length cap5] 50)
          replace KA := KA.grown ga (by simp)
          replace R := R.grown ga (by simp)
          replace K5 := K5.grown ga (by simp)
          replace O := O.kept ga
          replace hg := gr_trans hg ga
          replace hsz := Nat.le_trans hsz ga.size
          have hvO := Lib.hid (fun e : vs ≠ [] => (own_of_frm own4 e).1.kept (World.grownBy_alloc w4 (Obj.cells #[.int .i64 1, .int .i64 q4, .slice a5 vs.length cap5] 50) none))
          replace hvI : Ints (w4.alloc (Obj.cells #[.int .i64 1, .int .i64 q4, .slice a5 vs.length cap5] 50)) a5 vs := hvI.kept (World.grownBy_alloc _ _ _)
          clear b0 b1 b2 b3 b4 b5 cH cy own4 g4 ga
          have hlen := Lib.hid (show vs.length = s.sp.length by
              have := q1.out
              have : txt.many (((0 : Nat) : Int) + 1) = 3 := by decide
              omega)
          obtain ⟨⟨i0, i1, i2⟩, i3, i4, i5⟩ := six KA
          obtain ⟨m0, m1, m2, _, _, _⟩ := frm.three K8
          go_wp2_with fail
          refine (takeYes_call 0 400 20 _ q4 a1 a5 j1 cap5 s.sp vs _ (h.sp.kept hg) hvI n1 hlen.out).mono ?_
          rintro e w6 ⟨x, j, rfl, r, o6, b6⟩
          clear i0 i1 i2 i3 i4 i5 m0 m1 m2 hvO hvI hlen
          have O6 := (put_sp O hsz ⟨r, o6, b6⟩ j).box1 (K5.grown r (by simp)) 0 (.slice x s.sp.length j)
          replace KA := KA.grown r (by simp)
          replace R := R.grown r (by simp)
          replace K5 := K5.grown r (by simp)
          replace K8 := K8.grown r (by simp)
          replace hg := gr_trans hg r
          replace hsz := Nat.le_trans hsz r.size
          obtain ⟨⟨i0, i1, i2⟩, i3, i4, i5⟩ := six K5
          obtain ⟨⟨f0, f1, f2⟩, f3, f4, f5⟩ := free6 K5
          go_upto_region 25 with fail
          replace KA := KA.set_other nA 0 (.slice x s.sp.length j)
          replace R := R.set_other nR 0 (.slice x s.sp.length j)
          replace K5 := K5.put 0 (.slice x s.sp.length j) rfl
          replace K8 := K8.set_other l8 0 (.slice x s.sp.length j)
          replace hg := gr_new hg (show w.heap.size ≤ z5 by omega) 0 (.slice x s.sp.length j)
          replace hsz : z0 ≤ (w6.setCell ⟨z5, 0, none⟩ (.slice x s.sp.length j)).heap.size := by simpa using hsz
          clear i0 i1 i2 i3 i4 i5 f0 f1 f2 f3 f4 f5 O
          generalize w6.setCell ⟨z5, 0, none⟩ (.slice x s.sp.length j) = v6 at *
          obtain ⟨gq, oq, eq4, lq, zq, cq, fq, bq, O8⟩ := O6.seq (k := 0) (show 0 < c.sq.length by rw [hls]; omega) q4
          simp only at eq4
          subst eq4
          simp only [Nat.add_zero] at cq fq O8
          have dz := O6.nbox K5 (by decide) (by decide) _ bq
          obtain ⟨⟨i0, i1, i2⟩, i3, i4, i5⟩ := six K5
          obtain ⟨r0, r1, r2, _, _, _⟩ := frm.three K8
          go_wp2_with fail
          go_roundw
          case rel => exact ⟨1, withSeq (toldS s c 0 vs) 0 q4, ⟨x, j, B2, M2, B3, M3, some ⟨gq, oq, none⟩, M4⟩, by omega, by go_num, hn, KA.set_other (show w.heap.size ≠ gq by omega) _ _, R.set_other (show w.heap.size + 1 ≠ gq by omega) _ _, K5.set_other (Ne.symm dz) _ _, O8, by simpa using hsz, gr_new hg (by omega) _ _⟩
          case measure => first | (simp [intOf]; done) | (simp [intOf]; omega)
        · have hvI := own4.ints
          have l8 : w4.heap.size ≠ z5 := by have := (K5.grown g4 (by simp)).lt; omega
          have K8 := Has.fresh w4 50 #[.int .i64 2, .int .i64 q4, .slice a5 vs.length cap5]
          have ga := gr_alloc g4 (Obj.cells #[.int .i64 2, .int .i64 q4, .slice a5 vs.length cap5] 50)
          replace KA := KA.grown ga (by simp)
          replace R := R.grown ga (by simp)
          replace K5 := K5.grown ga (by simp)
          replace O := O.kept ga
          replace hg := gr_trans hg ga
          replace hsz := Nat.le_trans hsz ga.size
          have hvO := Lib.hid (fun e : vs ≠ [] => (own_of_frm own4 e).1.kept (World.grownBy_alloc w4 (Obj.cells #[.int .i64 2, .int .i64 q4, .slice a5 vs.length cap5] 50) none))
          replace hvI : Ints (w4.alloc (Obj.cells #[.int .i64 2, .int .i64 q4, .slice a5 vs.length cap5] 50)) a5 vs := hvI.kept (World.grownBy_alloc _ _ _)
          clear b0 b1 b2 b3 b4 b5 cH cy own4 g4 ga
          have hlen := Lib.hid (show vs.length = s.he.length by
              have := q2.out
              have : txt.many (((1 : Nat) : Int) + 1) = 2 := by decide
              omega)
          obtain ⟨⟨i0, i1, i2⟩, i3, i4, i5⟩ := six KA
          obtain ⟨m0, m1, m2, _, _, _⟩ := frm.three K8
          go_wp2_with fail
          refine (takeYes_call 0 2000 60 _ q4 a2 a5 j2 cap5 s.he vs _ (h.he.kept hg) hvI n2 hlen.out).mono ?_
          rintro e w6 ⟨x, j, rfl, r, o6, b6⟩
          clear i0 i1 i2 i3 i4 i5 m0 m1 m2 hvO hvI hlen
          have O6 := (put_he O hsz ⟨r, o6, b6⟩ j).box1 (K5.grown r (by simp)) 1 (.slice x s.he.length j)
          replace KA := KA.grown r (by simp)
          replace R := R.grown r (by simp)
          replace K5 := K5.grown r (by simp)
          replace K8 := K8.grown r (by simp)
          replace hg := gr_trans hg r
          replace hsz := Nat.le_trans hsz r.size
          obtain ⟨⟨i0, i1, i2⟩, i3, i4, i5⟩ := six K5
          obtain ⟨⟨f0, f1, f2⟩, f3, f4, f5⟩ := free6 K5
          go_upto_region 25 with fail
          replace KA := KA.set_other nA 1 (.slice x s.he.length j)
          replace R := R.set_other nR 1 (.slice x s.he.length j)
          replace K5 := K5.put 1 (.slice x s.he.length j) rfl
          replace K8 := K8.set_other l8 1 (.slice x s.he.length j)
          replace hg := gr_new hg (show w.heap.size ≤ z5 by omega) 1 (.slice x s.he.length j)
          replace hsz : z0 ≤ (w6.setCell ⟨z5, 1, none⟩ (.slice x s.he.length j)).heap.size := by simpa using hsz
          clear i0 i1 i2 i3 i4 i5 f0 f1 f2 f3 f4 f5 O
          generalize w6.setCell ⟨z5, 1, none⟩ (.slice x s.he.length j) = v6 at *
          obtain ⟨gq, oq, eq4, lq, zq, cq, fq, bq, O8⟩ := O6.seq (k := 1) (show 1 < c.sq.length by rw [hls]; omega) q4
          simp only at eq4
          subst eq4
          have dz := O6.nbox K5 (by decide) (by decide) _ bq
          obtain ⟨⟨i0, i1, i2⟩, i3, i4, i5⟩ := six K5
          obtain ⟨r0, r1, r2, _, _, _⟩ := frm.three K8
          go_wp2_with fail
          go_roundw
          case rel => exact ⟨2, withSeq (toldS s c 1 vs) 1 q4, ⟨B1, M1, x, j, B3, M3, some ⟨gq, oq, none⟩, M4⟩, by omega, by go_num, hn, KA.set_other (show w.heap.size ≠ gq by omega) _ _, R.set_other (show w.heap.size + 1 ≠ gq by omega) _ _, K5.set_other (Ne.symm dz) _ _, O8, by simpa using hsz, gr_new hg (by omega) _ _⟩
          case measure => first | (simp [intOf]; done) | (simp [intOf]; omega)
        · have hvI := own4.ints
          have l8 : w4.heap.size ≠ z5 := by have := (K5.grown g4 (by simp)).lt; omega
          have K8 := Has.fresh w4 50 #[.int .i64 3, .int .i64 q4, .slice a5 vs.length cap5]
          have ga := gr_alloc g4 (Obj.cells #[.int .i64 3, .int .i64 q4, .slice a5 vs.length cap5] 50)
          replace KA := KA.grown ga (by simp)
          replace R := R.grown ga (by simp)
          replace K5 := K5.grown ga (by simp)
          replace O := O.kept ga
          replace hg := gr_trans hg ga
          replace hsz := Nat.le_trans hsz ga.size
          have hvO := Lib.hid (fun e : vs ≠ [] => (own_of_frm own4 e).1.kept (World.grownBy_alloc w4 (Obj.cells #[.int .i64 3, .int .i64 q4, .slice a5 vs.length cap5] 50) none))
          replace hvI : Ints (w4.alloc (Obj.cells #[.int .i64 3, .int .i64 q4, .slice a5 vs.length cap5] 50)) a5 vs := hvI.kept (World.grownBy_alloc _ _ _)
          clear b0 b1 b2 b3 b4 b5 cH cy own4 g4 ga
          have hlen := Lib.hid (show vs.length = 6 by
              have : txt.many (((2 : Nat) : Int) + 1) = 6 := by decide
              omega)
          have hVO := hvO.out (fun e => by have := hlen.out; rw [e] at this; simp at this)
          clear hvO hvI hvl
          rw [hc.out] at hfa2
          replace O : OwnS z0 (w4.alloc (Obj.cells #[.int .i64 3, .int .i64 q4, .slice a5 vs.length cap5] 50)) ⟨c.sp, c.he, faK s vs 0, c.wn, c.ar, c.sq⟩ ⟨B1, M1, B2, M2, B3, M3, B4, M4⟩ := by
              rw [faK_zero, ← hfa2]; exact O
          go_wp2_with fail
          generalize (w4.alloc (Obj.cells #[.int .i64 3, .int .i64 q4, .slice a5 vs.length cap5] 50)) = v6 at *
          obtain ⟨wo, rfl⟩ : ∃ wo : World, wo = wr := ⟨_, rfl⟩
          go_loopw [9] (fun i wi => ∃ j : Nat, j ≤ 6 ∧ i = .int .i64 j ∧ Has wi w.heap.size 27 (cs6 s ⟨a1, j1, a2, j2, a3, j3, some y, j4⟩) ∧ Has wi (w.heap.size + 1) 27 #[.slice none 0 0, .slice none 0 0, .slice none 0 0, .int .i64 0, .bool false, .slice none 0 0] ∧ Has wi z5 27 (scs s c ⟨B1, M1, B2, M2, B3, M3, B4, M4⟩) ∧ Has wi w4.heap.size 50 #[.int .i64 3, .int .i64 q4, .slice a5 vs.length cap5] ∧ OwnS z0 wi ⟨c.sp, c.he, faK s vs j, c.wn, c.ar, c.sq⟩ ⟨B1, M1, B2, M2, B3, M3, B4, M4⟩ ∧ Own wi a5 vs ∧ z0 ≤ wi.heap.size ∧ w.grownBy wi none) (fun i _ => 6 - (intOf i).toNat)
          case atStart => exact ⟨0, by omega, rfl, KA, R, K5, K8, O, hVO, hsz, hg⟩
          case round =>
            clear KA R K5 K8 O hVO hsz hg
            obtain ⟨j, hj, rfl, KA, R, K5, K8, O, hVO, hsz, hg⟩ := hrel
            by_cases hlt6 : j < 6
            · have hjf : j < s.fa.length := by have := q3.out; omega
              have hjv : j < vs.length := by have := hlen.out; omega
              obtain ⟨x3, ex3, _, cx, cy, cz⟩ := (h.fa.kept hg) j hjf
              simp only at ex3
              subst ex3
              obtain ⟨y5, ey5, _, cv⟩ := hVO.ints j hjv
              subst ey5
              have hT := faK_set (vs := vs) hjf
              have cB := fun W => fix.specBetween (nth vs j) 0 1000 W
              have cT : ∀ d os, Calls Tryz.prog 43 #[.agg #[.int .i64 (rx s.fa j), .int .i64 (ra s.fa j), .bool (ro s.fa j)], .int .i64 (btw (nth vs j) 0 1000)] (Go.Sort.grow (redrawn wr d) os) (RetR (gt (rx s.fa j, ra s.fa j, ro s.fa j) (nth vs j)) (Go.Sort.grow (redrawn wr d) os)) := fun d os => rd.specGot (rx s.fa j) (ra s.fa j) (btw (nth vs j) 0 1000) (ro s.fa j) _
              generalize gt (rx s.fa j, ra s.fa j, ro s.fa j) (nth vs j) = T at *
              generalize btw (nth vs j) 0 1000 = V at *
              obtain ⟨t1, t2, t3⟩ := T
              obtain ⟨gf, v0, v1, v2, ef, lf, zf, _, _, _, _, _, _, bf, _⟩ := O.fan (k := j) (show j < (faK s vs j).length by rw [faK_len]; exact hjf) (t1, t2, t3)
              simp only at ef
              subst ef
              obtain ⟨⟨i0, i1, i2⟩, i3, i4, i5⟩ := six K5
              obtain ⟨⟨p0, p1, p2⟩, p3, p4, p5'⟩ := six KA
              obtain ⟨r0, r1, r2, _, _, _⟩ := frm.three K8
              go_wp2_with fail
              have e0 : ∀ d os, (Go.Sort.grow (redrawn wr d) os).cell? ⟨z5, 2, none⟩ = some (.slice (some ⟨gf, 0, none⟩) s.fa.length M3) := cell_regrown i2
              have e1 : ∀ d os, (Go.Sort.grow (redrawn wr d) os).cell? ⟨w.heap.size, 2, none⟩ = some (.slice (some x3) s.fa.length j3) := cell_regrown p2
              have e2 : ∀ d os, (Go.Sort.grow (redrawn wr d) os).cell? ⟨w4.heap.size, 2, none⟩ = some (.slice (some y5) vs.length cap5) := cell_regrown r2
              have e3 : ∀ d os, (Go.Sort.grow (redrawn wr d) os).cell? (x3.add (j * 3)) = some (.int .i64 (rx s.fa j)) := cell_regrown cx
              have e4 : ∀ d os, (Go.Sort.grow (redrawn wr d) os).cell? ⟨(x3.add (j * 3)).block, (x3.add (j * 3)).off + 1, none⟩ = some (.int .i64 (ra s.fa j)) := cell_regrown cy
              have e5 : ∀ d os, (Go.Sort.grow (redrawn wr d) os).cell? ⟨(x3.add (j * 3)).block, (x3.add (j * 3)).off + 2, none⟩ = some (.bool (ro s.fa j)) := cell_regrown cz
              have e6 : ∀ d os, (Go.Sort.grow (redrawn wr d) os).cell? (y5.add j) = some (.int .i64 (nth vs j)) := cell_regrown cv
              refine region_below_tail 16 (by kernel_rfl) (by kernel_rfl) ?_
              simp only [List.take_succ_cons, List.take_zero, List.drop_succ_cons, List.drop_zero]
              repeat (quiet_step (first | (go_at_call 43; with_reducible exact rg_retR (cT _ _)) | (go_at_call 44; with_reducible exact rg_same (cB _)) | fail))
              refine wpQuiet_nil ?_
              intro _ hw'
              obtain ⟨⟨dq, osq⟩, hw''⟩ := hw'
              subst hw''
              have gq := gr_rg wr dq osq
              replace KA := KA.grown gq (by simp)
              replace R := R.grown gq (by simp)
              replace K5 := K5.grown gq (by simp)
              replace K8 := K8.grown gq (by simp)
              replace O := O.kept gq
              replace hVO := hVO.kept gq
              replace hg := gr_trans hg gq
              replace hsz := Nat.le_trans hsz gq.size
              clear gq e0 e1 e2 e3 e4 e5 e6 i0 i1 i2 i3 i4 i5 p0 p1 p2 p3 p4 p5' r0 r1 r2 cx cy cz cv cT cB lf
              generalize Go.Sort.grow (redrawn wr dq) osq = w2' at *
              obtain ⟨gf', u0, u1, u2, ef, lf, zf, f0, f1, f2, f3, f4, f5, bf', O8⟩ := O.fan (k := j) (show j < (faK s vs j).length by rw [faK_len]; exact hjf) (t1, t2, t3)
              simp only [Option.some.injEq, Addr.mk.injEq, and_true] at ef
              subst ef
              rw [hT] at O8
              have dz := O.nbox K5 (by decide) (by decide) _ bf
              have d8 := O.nbox K8 (by decide) (by decide) _ bf
              have dq := fun x e => OwnR.int O.fa hVO (x := x) e
              go_wp2_with fail
              go_roundw
              case rel => exact ⟨j + 1, by omega, by go_num, ((KA.set_other (by omega) _ _).set_other (by omega) _ _).set_other (by omega) _ _, ((R.set_other (by omega) _ _).set_other (by omega) _ _).set_other (by omega) _ _, ((K5.set_other (Ne.symm dz) _ _).set_other (Ne.symm dz) _ _).set_other (Ne.symm dz) _ _, ((K8.set_other (Ne.symm d8) _ _).set_other (Ne.symm d8) _ _).set_other (Ne.symm d8) _ _, O8, hVO.grown (gr_set (gr_set (gr_set (gr_refl w2' (some gf)) _ _) _ _) _ _) (fun x e => by have := dq _ rfl; rw [e] at this; exact fun e2 => this e2.symm), by simpa using hsz, gr_new (gr_new (gr_new hg (by omega) _ _) (by omega) _ _) (by omega) _ _⟩
              case measure => simp [intOf]; omega
            · obtain rfl : j = 6 := by omega
              have O6 : OwnS z0 wr (toldS s c 2 vs) ⟨B1, M1, B2, M2, B3, M3, B4, M4⟩ := by
                have e := faK_all s vs
                rw [q3.out] at e
                rw [e] at O
                exact O
              clear O hVO
              obtain ⟨gq, oq, eq4, lq, zq, cq, fq, bq, O8⟩ := O6.seq (k := 2) (show 2 < c.sq.length by rw [hls]; omega) q4
              simp only at eq4
              subst eq4
              have dz := O6.nbox K5 (by decide) (by decide) _ bq
              obtain ⟨⟨i0, i1, i2⟩, i3, i4, i5⟩ := six K5
              obtain ⟨r0, r1, r2, _, _, _⟩ := frm.three K8
              go_wp2_with fail
              go_roundw
              case rel => exact ⟨3, withSeq (toldS s c 2 vs) 2 q4, ⟨B1, M1, B2, M2, B3, M3, some ⟨gq, oq, none⟩, M4⟩, by omega, by go_num, hn, KA.set_other (show w.heap.size ≠ gq by omega) _ _, R.set_other (show w.heap.size + 1 ≠ gq by omega) _ _, K5.set_other (Ne.symm dz) _ _, O8, by simpa using hsz, gr_new hg (by omega) _ _⟩
              case measure => first | (simp [intOf]; done) | (simp [intOf]; omega)
        · have hvI := own4.ints
          have l8 : w4.heap.size ≠ z5 := by have := (K5.grown g4 (by simp)).lt; omega
          have K8 := Has.fresh w4 50 #[.int .i64 4, .int .i64 q4, .slice a5 vs.length cap5]
          have ga := gr_alloc g4 (Obj.cells #[.int .i64 4, .int .i64 q4, .slice a5 vs.length cap5] 50)
          replace KA := KA.grown ga (by simp)
          replace R := R.grown ga (by simp)
          replace K5 := K5.grown ga (by simp)
          replace O := O.kept ga
          replace hg := gr_trans hg ga
          replace hsz := Nat.le_trans hsz ga.size
          have hvO := Lib.hid (fun e : vs ≠ [] => (own_of_frm own4 e).1.kept (World.grownBy_alloc w4 (Obj.cells #[.int .i64 4, .int .i64 q4, .slice a5 vs.length cap5] 50) none))
          replace hvI : Ints (w4.alloc (Obj.cells #[.int .i64 4, .int .i64 q4, .slice a5 vs.length cap5] 50)) a5 vs := hvI.kept (World.grownBy_alloc _ _ _)
          clear b0 b1 b2 b3 b4 b5 cH cy own4 g4 ga
          have hlen := Lib.hid (show vs.length = 2 by
              have : txt.many (((3 : Nat) : Int) + 1) = 2 := by decide
              omega)
          have k1 : 1 < vs.length := by have := hlen.out; omega
          obtain ⟨y5, ey5, _, v0⟩ := hvI 0 (by omega)
          subst ey5
          obtain ⟨_, ey5, _, v1⟩ := hvI 1 k1
          injection ey5 with ey5
          subst ey5
          have u0 := v0
          have u1 := v1
          simp [Addr.add] at u0 u1
          have lv : y5.block ≠ z5 := by
              intro e
              rcases hvO.out (fun e => by rw [e] at k1; simp at k1) with e2 | ⟨g2, o2, cs2, e2, H2, _⟩
              · rw [e2] at k1; simp at k1
              · injection e2 with e2
                rw [e2] at e
                have e3 : g2 = z5 := e
                rw [e3] at H2
                have := H2.symm.trans K5
                simp at this
          have cW := fun W => md.specWant (nth vs 0) W
          obtain ⟨⟨i0, i1, i2⟩, i3, i4, i5⟩ := six K5
          obtain ⟨⟨f0, f1, f2⟩, f3, f4, f5⟩ := free6 K5
          obtain ⟨m0, m1, m2, _, _, _⟩ := frm.three K8
          cases hI : inb (nth vs 0) 0 2
          · rw [hI] at cW
            have HN := Lib.hid (hn.out.trans (show _ = withSeq ⟨c.sp, c.he, c.fa, c.wn, (nth vs 1 != 0), c.sq⟩ 3 q4 by rw [show (nth vs 1 != 0) = !decide (nth vs 1 = 0) by cases h : decide (nth vs 1 = 0) <;> simp_all]; simp [toldS, hI]))
            clear hI hn
            clear hvO
            go_upto_region 23 with fail
            replace O := O.box1 K5 4 (.bool (nth vs 1 != 0))
            replace KA := KA.set_other nA 4 (.bool (nth vs 1 != 0))
            replace R := R.set_other nR 4 (.bool (nth vs 1 != 0))
            replace K5 := K5.put 4 (.bool (nth vs 1 != 0)) rfl
            replace K8 := K8.set_other l8 4 (.bool (nth vs 1 != 0))
            replace hg := gr_new hg (show w.heap.size ≤ z5 by omega) 4 (.bool (nth vs 1 != 0))
            replace hsz : z0 ≤ ((w4.alloc (Obj.cells #[.int .i64 4, .int .i64 q4, .slice (some y5) vs.length cap5] 50)).setCell ⟨z5, 4, none⟩ (.bool (nth vs 1 != 0))).heap.size := by simpa using hsz
            replace u0 : ((w4.alloc (Obj.cells #[.int .i64 4, .int .i64 q4, .slice (some y5) vs.length cap5] 50)).setCell ⟨z5, 4, none⟩ (.bool (nth vs 1 != 0))).cell? y5 = some (.int .i64 (nth vs 0)) := (World.cell?_of_block (Below.heap_setCell _ _ _ _ lv)).trans u0
            clear i0 i1 i2 i3 i4 i5 f0 f1 f2 f3 f4 f5 m0 m1 m2 v0 v1 u1 hvI
            generalize (w4.alloc (Obj.cells #[.int .i64 4, .int .i64 q4, .slice (some y5) vs.length cap5] 50)).setCell ⟨z5, 4, none⟩ (.bool (nth vs 1 != 0)) = v6 at *
            obtain ⟨⟨i0, i1, i2⟩, i3, i4, i5⟩ := six K5
            obtain ⟨⟨f0, f1, f2⟩, f3, f4, f5⟩ := free6 K5
            obtain ⟨m0, m1, m2, _, _, _⟩ := frm.three K8
            go_wp2_with fail
            refine (cW _).mono ?_
            rintro e w7 ⟨rfl, rfl⟩
            clear i0 i1 i2 i3 i4 i5 f0 f1 f2 f3 f4 f5 m0 m1 m2 u0 cW
            have O6 := put_wa O (c.wn) (nth vs 1 != 0)
            obtain ⟨gq, oq, eq4, lq, zq, cq, fq, bq, O8⟩ := O6.seq (k := 3) (show 3 < c.sq.length by rw [hls]; omega) q4
            simp only at eq4
            subst eq4
            have dz := O6.nbox K5 (by decide) (by decide) _ bq
            obtain ⟨⟨i0, i1, i2⟩, i3, i4, i5⟩ := six K5
            obtain ⟨r0, r1, r2, _, _, _⟩ := frm.three K8
            go_wp2_with fail
            go_roundw
            case rel => exact ⟨4, withSeq ⟨c.sp, c.he, c.fa, c.wn, (nth vs 1 != 0), c.sq⟩ 3 q4, ⟨B1, M1, B2, M2, B3, M3, some ⟨gq, oq, none⟩, M4⟩, by omega, by go_num, HN, KA.set_other (show w.heap.size ≠ gq by omega) _ _, R.set_other (show w.heap.size + 1 ≠ gq by omega) _ _, K5.set_other (Ne.symm dz) _ _, O8, by simpa using hsz, gr_new hg (by omega) _ _⟩
            case measure => first | (simp [intOf]; done) | (simp [intOf]; omega)
          · rw [hI] at cW
            have HN := Lib.hid (hn.out.trans (show _ = withSeq ⟨c.sp, c.he, c.fa, nth vs 0, (nth vs 1 != 0), c.sq⟩ 3 q4 by rw [show (nth vs 1 != 0) = !decide (nth vs 1 = 0) by cases h : decide (nth vs 1 = 0) <;> simp_all]; simp [toldS, hI]))
            clear hI hn
            clear hvO
            go_upto_region 23 with fail
            replace O := O.box1 K5 4 (.bool (nth vs 1 != 0))
            replace KA := KA.set_other nA 4 (.bool (nth vs 1 != 0))
            replace R := R.set_other nR 4 (.bool (nth vs 1 != 0))
            replace K5 := K5.put 4 (.bool (nth vs 1 != 0)) rfl
            replace K8 := K8.set_other l8 4 (.bool (nth vs 1 != 0))
            replace hg := gr_new hg (show w.heap.size ≤ z5 by omega) 4 (.bool (nth vs 1 != 0))
            replace hsz : z0 ≤ ((w4.alloc (Obj.cells #[.int .i64 4, .int .i64 q4, .slice (some y5) vs.length cap5] 50)).setCell ⟨z5, 4, none⟩ (.bool (nth vs 1 != 0))).heap.size := by simpa using hsz
            replace u0 : ((w4.alloc (Obj.cells #[.int .i64 4, .int .i64 q4, .slice (some y5) vs.length cap5] 50)).setCell ⟨z5, 4, none⟩ (.bool (nth vs 1 != 0))).cell? y5 = some (.int .i64 (nth vs 0)) := (World.cell?_of_block (Below.heap_setCell _ _ _ _ lv)).trans u0
            clear i0 i1 i2 i3 i4 i5 f0 f1 f2 f3 f4 f5 m0 m1 m2 v0 v1 u1 hvI
            generalize (w4.alloc (Obj.cells #[.int .i64 4, .int .i64 q4, .slice (some y5) vs.length cap5] 50)).setCell ⟨z5, 4, none⟩ (.bool (nth vs 1 != 0)) = v6 at *
            obtain ⟨⟨i0, i1, i2⟩, i3, i4, i5⟩ := six K5
            obtain ⟨⟨f0, f1, f2⟩, f3, f4, f5⟩ := free6 K5
            obtain ⟨m0, m1, m2, _, _, _⟩ := frm.three K8
            go_wp2_with fail
            refine (cW _).mono ?_
            rintro e w7 ⟨rfl, rfl⟩
            go_upto_region 25 with fail
            replace O := O.box1 K5 3 (.int .i64 (nth vs 0))
            replace KA := KA.set_other nA 3 (.int .i64 (nth vs 0))
            replace R := R.set_other nR 3 (.int .i64 (nth vs 0))
            replace K5 := K5.put 3 (.int .i64 (nth vs 0)) rfl
            replace K8 := K8.set_other l8 3 (.int .i64 (nth vs 0))
            replace hg := gr_new hg (show w.heap.size ≤ z5 by omega) 3 (.int .i64 (nth vs 0))
            replace hsz : z0 ≤ (v6.setCell ⟨z5, 3, none⟩ (.int .i64 (nth vs 0))).heap.size := by simpa using hsz
            clear i0 i1 i2 i3 i4 i5 f0 f1 f2 f3 f4 f5 m0 m1 m2 u0 cW
            generalize v6.setCell ⟨z5, 3, none⟩ (.int .i64 (nth vs 0)) = v7 at *
            have O6 := put_wa O (nth vs 0) (nth vs 1 != 0)
            obtain ⟨gq, oq, eq4, lq, zq, cq, fq, bq, O8⟩ := O6.seq (k := 3) (show 3 < c.sq.length by rw [hls]; omega) q4
            simp only at eq4
            subst eq4
            have dz := O6.nbox K5 (by decide) (by decide) _ bq
            obtain ⟨⟨i0, i1, i2⟩, i3, i4, i5⟩ := six K5
            obtain ⟨r0, r1, r2, _, _, _⟩ := frm.three K8
            go_wp2_with fail
            go_roundw
            case rel => exact ⟨4, withSeq ⟨c.sp, c.he, c.fa, nth vs 0, (nth vs 1 != 0), c.sq⟩ 3 q4, ⟨B1, M1, B2, M2, B3, M3, some ⟨gq, oq, none⟩, M4⟩, by omega, by go_num, HN, KA.set_other (show w.heap.size ≠ gq by omega) _ _, R.set_other (show w.heap.size + 1 ≠ gq by omega) _ _, K5.set_other (Ne.symm dz) _ _, O8, by simpa using hsz, gr_new hg (by omega) _ _⟩
            case measure => first | (simp [intOf]; done) | (simp [intOf]; omega)
    · obtain rfl : k = 4 := by omega
      have hl := len_uptoS s fs 4
      rw [hc.out] at hl
      obtain ⟨⟨b0, b1, b2⟩, b3, b4, b5⟩ := six K5
      obtain ⟨⟨d0, d1, d2⟩, d3, d4, d5⟩ := six R
      obtain ⟨⟨e0, e1, e2⟩, e3, e4, e5⟩ := free6 R
      have HL := Lib.hid hl
      clear hl
      go_wp2_with fail
      have Q := O.boxed R (.slice pc.a1 s.sp.length pc.c1) (.slice pc.a2 s.he.length pc.c2) (.slice pc.a3 s.fa.length pc.c3) (.int .i64 c.wn) (.bool c.ar) (.slice pc.a4 s.sq.length pc.c4)
      have G := gr6 hg (show w.heap.size ≤ w.heap.size + 1 by omega) (.slice pc.a1 s.sp.length pc.c1) (.slice pc.a2 s.he.length pc.c2) (.slice pc.a3 s.fa.length pc.c3) (.int .i64 c.wn) (.bool c.ar) (.slice pc.a4 s.sq.length pc.c4)
      obtain ⟨⟨t0, t1, t2⟩, t3, t4, t5⟩ := six (set6 R (.slice pc.a1 s.sp.length pc.c1) (.slice pc.a2 s.he.length pc.c2) (.slice pc.a3 s.fa.length pc.c3) (.int .i64 c.wn) (.bool c.ar) (.slice pc.a4 s.sq.length pc.c4))
      refine bodyPost_ret (v := sval s c pc) (by simp [results, Tryz.results11, go_sem, t0, t1, t2, t3, t4, t5]) rfl ⟨pc, ?_, G, by rw [hc.out]; exact Q.below (show w.heap.size ≤ z0 by omega)⟩
      obtain ⟨h1, h2, h3, h4⟩ := HL.out
      rw [hc.out]
      show Ending.returned (.agg #[.slice _ s.sp.length _, .slice _ s.he.length _, .slice _ s.fa.length _, _, _, .slice _ s.sq.length _]) = Ending.returned (.agg #[.slice _ c.sp.length _, .slice _ c.he.length _, .slice _ c.fa.length _, _, _, .slice _ c.sq.length _])
      rw [h1, h2, h3, h4, hsq.out]
end Go.Proofs.YtdikhdfpcipdbaaGreatDoor.se

/- Fed of the model, whatever the senses. -/
namespace Go.Proofs.YtdikhdfpcipdbaaGreatDoor.se
open Go.ChangeShapes Go.WideShapes Go.ChangeAt Go.RowKit
open Go.Proofs.YtdikhdfpcipdbaaGreatDoor.nums Go.Proofs.YtdikhdfpcipdbaaGreatDoor.mem
open Go.Proofs.YtdikhdfpcipdbaaGreatDoor.tab (Ret)
open Go.Proofs.YtdikhdfpcipdbaaGreatDoor.rd (R okR ageR zR rx ra ro OwnR)
open Go.Proofs.YtdikhdfpcipdbaaGreatDoor.il (nth Ints Own)
open Go.Proofs.YtdikhdfpcipdbaaGreatDoor.stm (Fr heard fv Frs Pl)
set_option linter.unusedVariables false

set_option maxRecDepth 100000 in
set_option maxHeartbeats 1000000 in
theorem specFed_no (s : S) (p : P) (a : Option Addr) (n cap : Nat) (w : World) (h : Arg w s p) (hb : Bd s 1048576) (ho : ok s = false) : Calls Tryz.prog 11 #[sv s p, .slice a n cap] w (RetS zS w) := by
  have KA := (Has.fresh w 27 (cs6 s p)).alloc (Obj.cells #[.slice none 0 0, .slice none 0 0, .slice none 0 0, .int .i64 0, .bool false, .slice none 0 0] 27)
  have R := Has.fresh (w.alloc (Obj.cells (cs6 s p) 27)) 27 #[.slice none 0 0, .slice none 0 0, .slice none 0 0, .int .i64 0, .bool false, .slice none 0 0]
  have g0 := gr_alloc (World.grownBy_alloc w (Obj.cells (cs6 s p) 27) none) (Obj.cells #[.slice none 0 0, .slice none 0 0, .slice none 0 0, .int .i64 0, .bool false, .slice none 0 0] 27)
  simp only [World.size_alloc] at R
  have cO := fun W (k : Arg W s p) => specSensesOk s p W k hb
  rw [ho] at cO
  obtain ⟨⟨c0, c1, c2⟩, c3, c4, c5⟩ := six KA
  go_enter Tryz.func11, Tryz.ntmps11
  go_wp2_with fail
  refine (cO _ (h.kept g0)).mono ?_
  rintro e w1 ⟨rfl, r⟩
  replace R := R.grown r (by simp)
  replace g0 := gr_trans g0 r
  obtain ⟨⟨d0, d1, d2⟩, d3, d4, d5⟩ := six R
  obtain ⟨⟨e0, e1, e2⟩, e3, e4, e5⟩ := free6 R
  clear c0 c1 c2 c3 c4 c5 KA
  go_wp2_with fail
  obtain ⟨⟨t0, t1, t2⟩, t3, t4, t5⟩ := six (set6 R (.slice none 0 0) (.slice none 0 0) (.slice none 0 0) (.int .i64 0) (.bool false) (.slice none 0 0))
  have G := gr6 g0 (show w.heap.size ≤ w.heap.size + 1 by omega) (.slice none 0 0) (.slice none 0 0) (.slice none 0 0) (.int .i64 0) (.bool false) (.slice none 0 0)
  have Q := (own_zero ((((((w1.setCell ⟨w.heap.size + 1, 0, none⟩ (.slice none 0 0)).setCell ⟨w.heap.size + 1, 1, none⟩ (.slice none 0 0)).setCell ⟨w.heap.size + 1, 2, none⟩ (.slice none 0 0)).setCell ⟨w.heap.size + 1, 3, none⟩ (.int .i64 0)).setCell ⟨w.heap.size + 1, 4, none⟩ (.bool false)).setCell ⟨w.heap.size + 1, 5, none⟩ (.slice none 0 0))).below (show w.heap.size ≤ _ from G.size)
  exact bodyPost_ret (v := .agg #[.slice none 0 0, .slice none 0 0, .slice none 0 0, .int .i64 0, .bool false, .slice none 0 0]) (by simp [results, Tryz.results11, go_sem, t0, t1, t2, t3, t4, t5]) rfl ⟨zP, rfl, G, Q⟩
theorem specFed (s : S) (p : P) (a : Option Addr) (cap : Nat) (fs : List Fr) (ps : List Pl) (w : World) (h : Arg w s p) (hb : Bd s 1048576) (hF : Frs w a fs ps) (hfl : fs.length ≤ 1048576) (hfv : ∀ k, k < fs.length → (fv fs k).length ≤ 1048576) :
    Calls Tryz.prog 11 #[sv s p, .slice a fs.length cap] w (RetS (fed s fs) w) := by
  cases ho : ok s
  · rw [fed_no ho]; exact specFed_no s p a fs.length cap w h hb ho
  · rw [fed_ok ho]; exact specFed_ok s p a cap fs ps w h (ok_iff.1 ho) hF hfl hfv
end Go.Proofs.YtdikhdfpcipdbaaGreatDoor.se

/- Fed of the program. -/
namespace Go.Proofs.YtdikhdfpcipdbaaGreatDoor.se
open Go.ChangeShapes Go.WideShapes Go.ChangeAt Go.RowKit
open Go.Proofs.YtdikhdfpcipdbaaGreatDoor.nums Go.Proofs.YtdikhdfpcipdbaaGreatDoor.mem
open Go.Proofs.YtdikhdfpcipdbaaGreatDoor.tab (Ret)
open Go.Proofs.YtdikhdfpcipdbaaGreatDoor.rd (R okR ageR zR rx ra ro OwnR)
open Go.Proofs.YtdikhdfpcipdbaaGreatDoor.il (nth Ints Own)
open Go.Proofs.YtdikhdfpcipdbaaGreatDoor.stm (Fr heard fv Frs Pl)
set_option linter.unusedVariables false

theorem aged2 (s : S) (p : P) (fs : List Fr) (w : World) (h : Arg w s p) (ho : Ok s) : Calls Tryz.prog 27 #[sv s p] w fun e w' => ∃ p5, e = .returned (sval s (upto s fs 0) p5) ∧ w.grownBy w' none ∧ OwnS w.heap.size w' (upto s fs 0) p5 := by
  refine (agedI s p w h ho).mono ?_
  rintro e w' ⟨p5, rfl, g, O⟩
  rw [upto_zero ho.sq4]
  refine ⟨p5, ?_, g, O⟩
  show Ending.returned (.agg #[.slice _ (s.sp.map ageR).length _, .slice _ (s.he.map ageR).length _, .slice _ (s.fa.map ageR).length _, _, _, _]) = _
  rw [List.length_map, List.length_map, List.length_map]
theorem past6 {w : World} {b g : Nat} {t : TypeId} {cs : Array Value} (hb : b ≠ g) (H : Has w b t cs) (u0 u1 u2 u3 u4 u5 : Value) : Has ((((((w.setCell ⟨g, 0, none⟩ u0).setCell ⟨g, 1, none⟩ u1).setCell ⟨g, 2, none⟩ u2).setCell ⟨g, 3, none⟩ u3).setCell ⟨g, 4, none⟩ u4).setCell ⟨g, 5, none⟩ u5) b t cs :=
  (((((H.set_other hb _ _).set_other hb _ _).set_other hb _ _).set_other hb _ _).set_other hb _ _).set_other hb _ _
/-- What each operation of the statement leaves that tells a Kind. -/
def LeftF (z : Nat) (s c : S) (pc p : P) (k : Nat) (q : Int) (a : Option Addr) (cap : Nat) (vs : List Int) : Nat → Value → World → Prop
  | 0, v, _ => v = sval s c pc
  | 1, v, _ => v = sv s p
  | 2, v, _ => v = frm.fr ((k : Int) + 1) q a vs.length cap
  | 3, v, _ => v = shapeV k a cap vs
  | 4, v, w => Told z s (toldS s c k vs) v w
  | _, _, _ => False
theorem LeftF.stab {z : Nat} {s c : S} {pc p : P} {k : Nat} {q : Int} {a : Option Addr} {cap : Nat} {vs : List Int} (j : Nat) (v : Value) (w w' : World) (h : LeftF z s c pc p k q a cap vs j v w) (hg : w.grownBy w' none) : LeftF z s c pc p k q a cap vs j v w' := by
  match j, h with
  | 0, h => exact h
  | 1, h => exact h
  | 2, h => exact h
  | 3, h => exact h
  | 4, h => exact Told.stab h hg

set_option maxRecDepth 100000 in
set_option maxHeartbeats 800000 in
theorem implFed_ok (s : S) (p : P) (a : Option Addr) (cap : Nat) (fs : List Fr) (ps : List Pl) (n f q : Addr) (w : World) (h : Arg w s p) (ho : Ok s) (hF : Frs w a fs ps) (hfl : fs.length ≤ 1048576) (hfv : ∀ k, k < fs.length → (fv fs k).length ≤ 1048576)
    (hv : Vals w) (he : sane.ErrB w n f q) (ht : sane.ErrT w) (hr : Rgs w) : Calls Tryz.prog 7 #[sv s p, .slice a fs.length cap] w (RetS (upto s fs 4) w) := by
  obtain ⟨a1, j1, a2, j2, a3, j3, a4, j4⟩ := p
  obtain ⟨y, ey, _, _⟩ := h.sq 0 (by rw [ho.sq4]; omega)
  simp only at ey
  subst ey
  have KA := (Has.fresh w 27 (cs6 s ⟨a1, j1, a2, j2, a3, j3, some y, j4⟩)).alloc (Obj.cells #[.slice none 0 0, .slice none 0 0, .slice none 0 0, .int .i64 0, .bool false, .slice none 0 0] 27)
  have R := Has.fresh (w.alloc (Obj.cells (cs6 s ⟨a1, j1, a2, j2, a3, j3, some y, j4⟩) 27)) 27 #[.slice none 0 0, .slice none 0 0, .slice none 0 0, .int .i64 0, .bool false, .slice none 0 0]
  have g0 := gr_alloc (World.grownBy_alloc w (Obj.cells (cs6 s ⟨a1, j1, a2, j2, a3, j3, some y, j4⟩) 27) none) (Obj.cells #[.slice none 0 0, .slice none 0 0, .slice none 0 0, .int .i64 0, .bool false, .slice none 0 0] 27)
  simp only [World.size_alloc] at R
  have hbd : Bd s 1048576 := ⟨by rw [ho.sp3]; omega, by rw [ho.he2]; omega, by rw [ho.fa6]; omega, by rw [ho.sq4]; omega⟩
  have cO := fun W (k : Arg W s ⟨a1, j1, a2, j2, a3, j3, some y, j4⟩) (k2 : Vals W) => implSensesOk s ⟨a1, j1, a2, j2, a3, j3, some y, j4⟩ W k hbd k2
  rw [ok_iff.2 ho] at cO
  obtain ⟨⟨c0, c1, c2⟩, c3, c4, c5⟩ := six KA
  go_enter Tryz.func7, Tryz.ntmps7
  go_wp2_with fail
  refine (cO _ (h.kept g0) (hv.kept g0)).mono ?_
  rintro e w1 ⟨rfl, r⟩
  replace KA := KA.grown r (by simp)
  replace R := R.grown r (by simp)
  replace g0 := gr_trans g0 r
  clear r c0 c1 c2 c3 c4 c5 cO
  obtain ⟨⟨c0, c1, c2⟩, c3, c4, c5⟩ := six KA
  go_wp2_with fail
  refine (aged2 s ⟨a1, j1, a2, j2, a3, j3, some y, j4⟩ fs _ (h.kept g0) ho).mono ?_
  rintro e w2 ⟨p5, rfl, r, O⟩
  have l1 := R.lt
  have K5 := Has.fresh w2 27 (scs s (upto s fs 0) p5)
  replace KA := (KA.grown r (by simp)).alloc (Obj.cells (scs s (upto s fs 0) p5) 27)
  replace R := (R.grown r (by simp)).alloc (Obj.cells (scs s (upto s fs 0) p5) 27)
  have l2 := r.size
  replace g0 := gr_alloc (gr_trans g0 r) (Obj.cells (scs s (upto s fs 0) p5) 27)
  replace O := (O.kept (World.grownBy_alloc w2 (Obj.cells (scs s (upto s fs 0) p5) 27) none)).below (c := w1.heap.size) (Nat.le_refl _)
  have l5 : w1.heap.size ≤ w2.heap.size := l2
  clear r c0 c1 c2 c3 c4 c5
  obtain ⟨⟨c0, c1, c2⟩, c3, c4, c5⟩ := six KA
  go_wp2_with fail
  generalize w1.heap.size = z0 at *
  generalize hz5 : w2.heap.size = z5 at *
  generalize w2.alloc (Obj.cells (scs s (upto s fs 0) p5) 27) = w3 at *
  have hsq := Lib.hid ho.sq4
  go_loopw [6, 7, 8, 9, 19] (fun s6 s7 s8 s9 i wr => ∃ (k : Nat) (c : S) (pc : P), k ≤ 4 ∧ i = .int .i64 k ∧ Hid (upto s fs k = c) ∧ Has wr w.heap.size 27 (cs6 s ⟨a1, j1, a2, j2, a3, j3, some y, j4⟩) ∧ Has wr (w.heap.size + 1) 27 #[.slice none 0 0, .slice none 0 0, .slice none 0 0, .int .i64 0, .bool false, .slice none 0 0] ∧ Has wr z5 27 (scs s c pc) ∧ OwnS z0 wr c pc ∧ z0 ≤ wr.heap.size ∧ w.grownBy wr none) (fun _ _ _ _ i _ => 4 - (intOf i).toNat)
  case atStart => exact ⟨0, _, p5, by omega, rfl, Lib.hid rfl, KA, R, K5, O, by have := K5.lt; omega, g0⟩
  case round =>
    clear KA R K5 O g0 c0 c1 c2 c3 c4 c5
    obtain ⟨k, c, pc, hk, rfl, hc, KA, R, K5, O, hsz, hg⟩ := hrel
    have hlt4 : decide ((k : Int) < (s.sq.length : Int)) = decide (k < 4) := by rw [hsq.out]; simp; omega
    by_cases hlt : k < 4
    · obtain ⟨y', ey, _, cy⟩ := (h.sq.kept hg) k (by have := hsq.out; omega)
      have hkl : k < s.sq.length := by have := hsq.out; omega
      simp only at ey
      injection ey with ey
      subst ey
      have cH := stm.implHeard a cap fs ps ((k : Int) + 1) (nth s.sq k) wr (hv.kept hg) (hF.kept hg) hfl hfv
      rw [show heard ((k : Int) + 1) (nth s.sq k) fs = hd s fs k from rfl] at cH
      cases hH : hd s fs k with
      | none =>
        rw [hH] at cH
        have hn := Lib.hid ((upto_skip hlt hH).trans hc.out)
        clear hH hlt4
        obtain ⟨⟨b0, b1, b2⟩, b3, b4, b5⟩ := six KA
        go_wp2_with fail
        refine cH.mono ?_
        rintro e w4 ⟨g4, rfl⟩
        go_wp2_with fail
        go_roundw
        case rel =>
          exact ⟨k + 1, c, pc, by omega, by go_num, hn, (KA.grown g4 (by simp)).alloc _, (R.grown g4 (by simp)).alloc _, (K5.grown g4 (by simp)).alloc _, (O.kept g4).kept (World.grownBy_alloc _ _ _), Nat.le_trans hsz (gr_alloc g4 _).size, gr_alloc (gr_trans hg g4) _⟩
        case measure => simp [intOf]; omega
      | some F =>
        obtain ⟨kk, q4, vs⟩ := F
        have hkk := (hd_ok hH).2
        have hvl := hd_len hH
        have hn := (upto_tell hlt hH)
        rw [hc.out] at hn
        replace hn := Lib.hid hn
        rw [hH] at cH
        simp only at hkk hvl
        subst hkk
        have hls := (len_upto s fs k).2.2.2
        rw [hc.out] at hls
        clear hH hlt4
        obtain ⟨⟨b0, b1, b2⟩, b3, b4, b5⟩ := six KA
        go_wp2_with fail
        refine cH.mono ?_
        rintro e w4 ⟨g4, a5, cap5, rfl, own4⟩
        have hvI := own4.ints
        have l8 : w4.heap.size ≠ z5 := by have := (K5.grown g4 (by simp)).lt; omega
        have K8 := Has.fresh w4 50 #[.int .i64 ((k : Int) + 1), .int .i64 q4, .slice a5 vs.length cap5]
        have ga := gr_alloc g4 (Obj.cells #[.int .i64 ((k : Int) + 1), .int .i64 q4, .slice a5 vs.length cap5] 50)
        replace KA := KA.grown ga (by simp)
        replace R := R.grown ga (by simp)
        replace K5 := K5.grown ga (by simp)
        replace O := O.kept ga
        replace hg := gr_trans hg ga
        replace hsz := Nat.le_trans hsz ga.size
        replace hvI : Ints (w4.alloc (Obj.cells #[.int .i64 ((k : Int) + 1), .int .i64 q4, .slice a5 vs.length cap5] 50)) a5 vs := hvI.kept (World.grownBy_alloc _ _ _)
        have n8 : w4.heap.size ≠ z5 := l8
        clear b0 b1 b2 b3 b4 b5 cH own4 g4 ga
        go_wp2_with fail
        generalize w4.heap.size = z8 at *
        generalize w4.alloc (Obj.cells #[.int .i64 ((k : Int) + 1), .int .i64 q4, .slice a5 vs.length cap5] 50) = w5 at *
        refine iv.region_inv 5 (fun i => i + 33) (LeftF z0 s c pc ⟨a1, j1, a2, j2, a3, j3, some y, j4⟩ k q4 a5 cap5 vs) (by kernel_rfl) (by kernel_rfl) (by kernel_rfl) (by decide) (by kernel_rfl) (by kernel_rfl) (fun i j _ _ e => by simpa using e) (fun i hi => by simp; omega) LeftF.stab ?_ ?_
        · intro i o a W hi ho2 hgW hsz2 hdf hold hdeps
          obtain ⟨⟨tl⟩, df⟩ := a
          obtain ⟨x0, x1, x2, x3, x4, x5, x6, x7, x8, x9, x10, x11, x12, x13, x14, x15, x16, x17, x18, x19, x20, x21, x22, x23, x24, x25, x26, x27, x28, x29, x30, x31, x32, x33, x34, x35, x36, x37, x38, x39, x40, x41, x42, x43, x44, x45, rfl⟩ := lit46 tl (by simpa using hsz2)
          have ed : df = [] := by simpa using hdf
          subst ed
          have e := hold 2 (fun j _ => by omega)
          simp at e
          subst e
          have e := hold 5 (fun j _ => by omega)
          simp at e
          subst e
          have e := hold 8 (fun j _ => by omega)
          simp at e
          subst e
          clear hold hdf
          rcases (show i = 0 ∨ i = 1 ∨ i = 2 ∨ i = 3 ∨ i = 4 by omega) with rfl | rfl | rfl | rfl | rfl
          all_goals simp at ho2
          all_goals subst ho2
          all_goals simp [Region.binds, LeftF] at hdeps
          · obtain ⟨⟨b0, b1, b2⟩, b3, b4, b5⟩ := six (K5.grown hgW (by simp))
            go_wp2_with fail
            exact ⟨gr_refl _ _, rfl⟩
          · obtain ⟨⟨b0, b1, b2⟩, b3, b4, b5⟩ := six (KA.grown hgW (by simp))
            go_wp2_with fail
            exact ⟨gr_refl _ _, rfl⟩
          · obtain ⟨b0, b1, b2, _, _, _⟩ := frm.three (K8.grown hgW (by simp))
            go_wp2_with fail
            exact ⟨gr_refl _ _, rfl⟩
          · subst hdeps
            go_wp2_with fail
            refine (shape_call hlt q4 a5 cap5 vs _ (hvI.kept hgW) hvl).mono ?_
            rintro e w6 ⟨rfl, r⟩
            go_wp2_with fail
            exact rfl
          · obtain ⟨rfl, rfl, rfl⟩ := hdeps
            go_wp2_with fail
            refine (told_call hlt z0 s c pc ⟨a1, j1, a2, j2, a3, j3, some y, j4⟩ a5 cap5 vs n f q _ ho ((h.kept hg).kept hgW) (hvI.kept hgW) hvl ((he.kept hg).kept hgW) ((ht.kept hg).kept hgW) ((hr.kept hg).kept hgW) (O.kept hgW) (Nat.le_trans hsz hgW.size)).mono ?_
            rintro e w6 ⟨v, rfl, r, hT⟩
            go_wp2_with fail
            exact hT
        · intro o W hgW hsz2 hdf hold hnew
          obtain ⟨⟨tl⟩, df⟩ := o
          obtain ⟨x0, x1, x2, x3, x4, x5, x6, x7, x8, x9, x10, x11, x12, x13, x14, x15, x16, x17, x18, x19, x20, x21, x22, x23, x24, x25, x26, x27, x28, x29, x30, x31, x32, x33, x34, x35, x36, x37, x38, x39, x40, x41, x42, x43, x44, x45, rfl⟩ := lit46 tl (by simpa using hsz2)
          have ed : df = [] := by simpa using hdf
          subst ed
          obtain ⟨v, e, ⟨b1, m1, b2, m2, b3, m3, b4, m4⟩, ev, O6⟩ := hnew 4 (by omega)
          simp at e
          subst e
          subst ev
          clear hnew
          have e := hold 0 (fun j _ => by omega)
          simp at e
          subst e
          have e := hold 1 (fun j _ => by omega)
          simp at e
          subst e
          have e := hold 2 (fun j _ => by omega)
          simp at e
          subst e
          have e := hold 3 (fun j _ => by omega)
          simp at e
          subst e
          have e := hold 4 (fun j _ => by omega)
          simp at e
          subst e
          have e := hold 5 (fun j _ => by omega)
          simp at e
          subst e
          have e := hold 6 (fun j _ => by omega)
          simp at e
          subst e
          have e := hold 7 (fun j _ => by omega)
          simp at e
          subst e
          have e := hold 8 (fun j _ => by omega)
          simp at e
          subst e
          have e := hold 9 (fun j _ => by omega)
          simp at e
          subst e
          have e := hold 10 (fun j _ => by omega)
          simp at e
          subst e
          have e := hold 11 (fun j _ => by omega)
          simp at e
          subst e
          have e := hold 12 (fun j _ => by omega)
          simp at e
          subst e
          have e := hold 13 (fun j _ => by omega)
          simp at e
          subst e
          have e := hold 14 (fun j _ => by omega)
          simp at e
          subst e
          have e := hold 15 (fun j _ => by omega)
          simp at e
          subst e
          have e := hold 16 (fun j _ => by omega)
          simp at e
          subst e
          have e := hold 17 (fun j _ => by omega)
          simp at e
          subst e
          have e := hold 18 (fun j _ => by omega)
          simp at e
          subst e
          have e := hold 19 (fun j _ => by omega)
          simp at e
          subst e
          have e := hold 20 (fun j _ => by omega)
          simp at e
          subst e
          have e := hold 21 (fun j _ => by omega)
          simp at e
          subst e
          have e := hold 22 (fun j _ => by omega)
          simp at e
          subst e
          have e := hold 23 (fun j _ => by omega)
          simp at e
          subst e
          have e := hold 24 (fun j _ => by omega)
          simp at e
          subst e
          have e := hold 25 (fun j _ => by omega)
          simp at e
          subst e
          have e := hold 26 (fun j _ => by omega)
          simp at e
          subst e
          have e := hold 27 (fun j _ => by omega)
          simp at e
          subst e
          have e := hold 28 (fun j _ => by omega)
          simp at e
          subst e
          have e := hold 29 (fun j _ => by omega)
          simp at e
          subst e
          have e := hold 30 (fun j _ => by omega)
          simp at e
          subst e
          have e := hold 31 (fun j _ => by omega)
          simp at e
          subst e
          have e := hold 32 (fun j _ => by omega)
          simp at e
          subst e
          have e := hold 38 (fun j _ => by omega)
          simp at e
          subst e
          have e := hold 39 (fun j _ => by omega)
          simp at e
          subst e
          have e := hold 40 (fun j _ => by omega)
          simp at e
          subst e
          have e := hold 41 (fun j _ => by omega)
          simp at e
          subst e
          have e := hold 42 (fun j _ => by omega)
          simp at e
          subst e
          have e := hold 43 (fun j _ => by omega)
          simp at e
          subst e
          have e := hold 44 (fun j _ => by omega)
          simp at e
          subst e
          have e := hold 45 (fun j _ => by omega)
          simp at e
          subst e
          clear hold hdf hsz2
          have hls6 : k < (toldS s c k vs).sq.length := by rw [toldS_sq, hls]; exact hlt
          have K6 := K5.grown hgW (by simp)
          have KA6 := KA.grown hgW (by simp)
          have R6 := R.grown hgW (by simp)
          have K86 := K8.grown hgW (by simp)
          replace hg := gr_trans hg hgW
          obtain ⟨gq, oq, eq4, lq, zq, cq, fq, bq, _⟩ := O6.seq hls6 q4
          simp only at eq4
          subst eq4
          have O7 := O6.boxed K6 (.slice b1 s.sp.length m1) (.slice b2 s.he.length m2) (.slice b3 s.fa.length m3) (.int .i64 (toldS s c k vs).wn) (.bool (toldS s c k vs).ar) (.slice (some ⟨gq, oq, none⟩) s.sq.length m4)
          have K7 := set6 K6 (.slice b1 s.sp.length m1) (.slice b2 s.he.length m2) (.slice b3 s.fa.length m3) (.int .i64 (toldS s c k vs).wn) (.bool (toldS s c k vs).ar) (.slice (some ⟨gq, oq, none⟩) s.sq.length m4)
          have nA : w.heap.size ≠ z5 := by omega
          have nR : w.heap.size + 1 ≠ z5 := by omega
          have KA7 := past6 nA KA6 (.slice b1 s.sp.length m1) (.slice b2 s.he.length m2) (.slice b3 s.fa.length m3) (.int .i64 (toldS s c k vs).wn) (.bool (toldS s c k vs).ar) (.slice (some ⟨gq, oq, none⟩) s.sq.length m4)
          have R7 := past6 nR R6 (.slice b1 s.sp.length m1) (.slice b2 s.he.length m2) (.slice b3 s.fa.length m3) (.int .i64 (toldS s c k vs).wn) (.bool (toldS s c k vs).ar) (.slice (some ⟨gq, oq, none⟩) s.sq.length m4)
          have K87 := past6 n8 K86 (.slice b1 s.sp.length m1) (.slice b2 s.he.length m2) (.slice b3 s.fa.length m3) (.int .i64 (toldS s c k vs).wn) (.bool (toldS s c k vs).ar) (.slice (some ⟨gq, oq, none⟩) s.sq.length m4)
          have G7 := gr6 hg (show w.heap.size ≤ z5 by omega) (.slice b1 s.sp.length m1) (.slice b2 s.he.length m2) (.slice b3 s.fa.length m3) (.int .i64 (toldS s c k vs).wn) (.bool (toldS s c k vs).ar) (.slice (some ⟨gq, oq, none⟩) s.sq.length m4)
          obtain ⟨gq', oq', eq5, lq7, zq7, cq7, fq7, bq7, O8⟩ := O7.seq hls6 q4
          simp only [Option.some.injEq, Addr.mk.injEq, and_true] at eq5
          obtain ⟨e1, e2⟩ := eq5
          subst e1 e2
          have dA := O7.nbox KA7 (by decide) (by decide) _ bq7
          have dR := O7.nbox R7 (by decide) (by decide) _ bq7
          have d5 := O7.nbox K7 (by decide) (by decide) _ bq7
          obtain ⟨⟨f0, f1, f2⟩, f3, f4, f5⟩ := free6 K6
          obtain ⟨⟨i0, i1, i2⟩, i3, i4, i5⟩ := six K6
          obtain ⟨⟨p0, p1, p2⟩, p3, p4, p5'⟩ := six K7
          obtain ⟨r0, r1, r2, _, _, _⟩ := frm.three K87
          have lW : z0 ≤ W.heap.size := Nat.le_trans hsz hgW.size
          simp only [List.drop_succ_cons, List.drop_zero]
          go_wp2_with fail
          go_roundw
          case rel => exact ⟨k + 1, withSeq (toldS s c k vs) k q4, ⟨b1, m1, b2, m2, b3, m3, some ⟨gq, oq, none⟩, m4⟩, by omega, by go_num, hn, KA7.set_other (Ne.symm dA) _ _, R7.set_other (Ne.symm dR) _ _, K7.set_other (Ne.symm d5) _ _, O8, by simpa using lW, gr_new G7 (by omega) _ _⟩
          case measure => simp [intOf]; omega
    · obtain rfl : k = 4 := by omega
      have hl := len_upto s fs 4
      rw [hc.out] at hl ⊢
      have hx : decide ((4 : Int) < (s.sq.length : Int)) = false := by rw [hsq.out]; rfl
      have hx' : ¬ (4 : Int) < (s.sq.length : Int) := by rw [hsq.out]; decide
      obtain ⟨⟨b0, b1, b2⟩, b3, b4, b5⟩ := six K5
      obtain ⟨⟨d0, d1, d2⟩, d3, d4, d5⟩ := six R
      obtain ⟨⟨e0, e1, e2⟩, e3, e4, e5⟩ := free6 R
      have HL := Lib.hid hl
      clear hl hlt4
      go_wp2_with fail
      have Q := O.boxed R (.slice pc.a1 s.sp.length pc.c1) (.slice pc.a2 s.he.length pc.c2) (.slice pc.a3 s.fa.length pc.c3) (.int .i64 c.wn) (.bool c.ar) (.slice pc.a4 s.sq.length pc.c4)
      have G := gr6 hg (show w.heap.size ≤ w.heap.size + 1 by omega) (.slice pc.a1 s.sp.length pc.c1) (.slice pc.a2 s.he.length pc.c2) (.slice pc.a3 s.fa.length pc.c3) (.int .i64 c.wn) (.bool c.ar) (.slice pc.a4 s.sq.length pc.c4)
      obtain ⟨⟨t0, t1, t2⟩, t3, t4, t5⟩ := six (set6 R (.slice pc.a1 s.sp.length pc.c1) (.slice pc.a2 s.he.length pc.c2) (.slice pc.a3 s.fa.length pc.c3) (.int .i64 c.wn) (.bool c.ar) (.slice pc.a4 s.sq.length pc.c4))
      refine bodyPost_ret (v := sval s c pc) (by simp [results, Tryz.results7, go_sem, t0, t1, t2, t3, t4, t5]) rfl ⟨pc, ?_, G, by rw [hc.out]; exact Q.below (show w.heap.size ≤ z0 by omega)⟩
      obtain ⟨h1, h2, h3, h4⟩ := HL.out
      rw [hc.out]
      show Ending.returned (.agg #[.slice _ s.sp.length _, .slice _ s.he.length _, .slice _ s.fa.length _, _, _, .slice _ s.sq.length _]) = Ending.returned (.agg #[.slice _ c.sp.length _, .slice _ c.he.length _, .slice _ c.fa.length _, _, _, .slice _ c.sq.length _])
      rw [h1, h2, h3, h4, hsq.out]

set_option maxRecDepth 100000 in
set_option maxHeartbeats 1000000 in
theorem implFed_no (s : S) (p : P) (a : Option Addr) (n cap : Nat) (w : World) (h : Arg w s p) (hb : Bd s 1048576) (ho : ok s = false) (hv : Vals w) : Calls Tryz.prog 7 #[sv s p, .slice a n cap] w (RetS zS w) := by
  have KA := (Has.fresh w 27 (cs6 s p)).alloc (Obj.cells #[.slice none 0 0, .slice none 0 0, .slice none 0 0, .int .i64 0, .bool false, .slice none 0 0] 27)
  have R := Has.fresh (w.alloc (Obj.cells (cs6 s p) 27)) 27 #[.slice none 0 0, .slice none 0 0, .slice none 0 0, .int .i64 0, .bool false, .slice none 0 0]
  have g0 := gr_alloc (World.grownBy_alloc w (Obj.cells (cs6 s p) 27) none) (Obj.cells #[.slice none 0 0, .slice none 0 0, .slice none 0 0, .int .i64 0, .bool false, .slice none 0 0] 27)
  simp only [World.size_alloc] at R
  have cO := fun W (k : Arg W s p) (k2 : Vals W) => implSensesOk s p W k hb k2
  rw [ho] at cO
  obtain ⟨⟨c0, c1, c2⟩, c3, c4, c5⟩ := six KA
  go_enter Tryz.func7, Tryz.ntmps7
  go_wp2_with fail
  refine (cO _ (h.kept g0) (hv.kept g0)).mono ?_
  rintro e w1 ⟨rfl, r⟩
  replace R := R.grown r (by simp)
  replace g0 := gr_trans g0 r
  obtain ⟨⟨d0, d1, d2⟩, d3, d4, d5⟩ := six R
  obtain ⟨⟨e0, e1, e2⟩, e3, e4, e5⟩ := free6 R
  clear c0 c1 c2 c3 c4 c5 KA
  go_wp2_with fail
  obtain ⟨⟨t0, t1, t2⟩, t3, t4, t5⟩ := six (set6 R (.slice none 0 0) (.slice none 0 0) (.slice none 0 0) (.int .i64 0) (.bool false) (.slice none 0 0))
  have G := gr6 g0 (show w.heap.size ≤ w.heap.size + 1 by omega) (.slice none 0 0) (.slice none 0 0) (.slice none 0 0) (.int .i64 0) (.bool false) (.slice none 0 0)
  have Q := (own_zero ((((((w1.setCell ⟨w.heap.size + 1, 0, none⟩ (.slice none 0 0)).setCell ⟨w.heap.size + 1, 1, none⟩ (.slice none 0 0)).setCell ⟨w.heap.size + 1, 2, none⟩ (.slice none 0 0)).setCell ⟨w.heap.size + 1, 3, none⟩ (.int .i64 0)).setCell ⟨w.heap.size + 1, 4, none⟩ (.bool false)).setCell ⟨w.heap.size + 1, 5, none⟩ (.slice none 0 0))).below (show w.heap.size ≤ _ from G.size)
  exact bodyPost_ret (v := .agg #[.slice none 0 0, .slice none 0 0, .slice none 0 0, .int .i64 0, .bool false, .slice none 0 0]) (by simp [results, Tryz.results7, go_sem, t0, t1, t2, t3, t4, t5]) rfl ⟨zP, rfl, G, Q⟩
theorem implFed (s : S) (p : P) (a : Option Addr) (cap : Nat) (fs : List Fr) (ps : List Pl) (n f q : Addr) (w : World) (h : Arg w s p) (hb : Bd s 1048576) (hF : Frs w a fs ps) (hfl : fs.length ≤ 1048576) (hfv : ∀ k, k < fs.length → (fv fs k).length ≤ 1048576)
    (hv : Vals w) (he : sane.ErrB w n f q) (ht : sane.ErrT w) (hr : Rgs w) : Calls Tryz.prog 7 #[sv s p, .slice a fs.length cap] w (RetS (fed s fs) w) := by
  cases ho : ok s
  · rw [fed_no ho]; exact implFed_no s p a fs.length cap w h hb ho hv
  · rw [fed_ok ho]; exact implFed_ok s p a cap fs ps n f q w h (ok_iff.1 ho) hF hfl hfv hv he ht hr
end Go.Proofs.YtdikhdfpcipdbaaGreatDoor.se

/- FactsOf of the program. -/
namespace Go.Proofs.YtdikhdfpcipdbaaGreatDoor.se
open Go.ChangeShapes Go.WideShapes Go.ChangeAt Go.RowKit
open Go.Proofs.YtdikhdfpcipdbaaGreatDoor.nums Go.Proofs.YtdikhdfpcipdbaaGreatDoor.mem
open Go.Proofs.YtdikhdfpcipdbaaGreatDoor.tab (Ret)
open Go.Proofs.YtdikhdfpcipdbaaGreatDoor.md (Fx cs8 fac eight free8)
theorem gr_drewQ {a w : World} {row : Option Nat} (h : a.grownBy w row) : a.grownBy w.drew row := gr_drewN h 1
open Go.Proofs.YtdikhdfpcipdbaaGreatDoor.qt (region_below_tail rg_ret rg_same gr_rg)
set_option linter.unusedVariables false


set_option maxHeartbeats 4000000 in
theorem implFacts (s : S) (p : P) (c t : Int) (w : World) (h : Arg w s p) (hb : Bd s 1048576) (hv : Vals w) : Calls Tryz.prog 9 #[sv s p, .int .i64 c, .int .i64 t] w (Ret (fac (factsOf s c t)) w) := by
  have A0 := (Has.fresh w 27 (cs6 s p)).alloc (Obj.cells (cs8 zF) 35)
  have R0 := Has.fresh (w.alloc (Obj.cells (cs6 s p) 27)) 35 (cs8 zF)
  have g0 := gr_alloc (World.grownBy_alloc w (Obj.cells (cs6 s p) 27) none) (Obj.cells (cs8 zF) 35)
  simp only [World.size_alloc] at R0
  have hl1 := hb.sp
  have hl2 := hb.he
  have cO := fun W (k : Arg W s p) (k2 : Vals W) => implSensesOk s p W k hb k2
  have cC := cas.implCaseOk c
  have hn := factsOf_no (s := s) (c := c) t
  have hy := factsOf_yes (s := s) (c := c) t
  obtain ⟨⟨c0, c1, c2⟩, c3, c4, c5⟩ := six A0
  cases h1 : ok s
  · rw [h1] at cO hn
    rw [hn rfl]
    clear hn hy h1 cC
    go_enter Tryz.func9, Tryz.ntmps9
    go_wp2_with fail
    refine (cO _ (h.kept g0) (hv.kept g0)).mono ?_
    rintro e w1 ⟨rfl, g1⟩
    have R1 := R0.grown g1 (by simp)
    obtain ⟨r0, r1, r2, r3, r4, r5, r6, r7⟩ := eight R1
    obtain ⟨f0, f1, f2, f3, f4, f5, f6, f7⟩ := free8 R1
    go_wp2_with fail
    obtain ⟨u0, u1, u2, u3, u4, u5, u6, u7⟩ := eight (put8 R1 (.int .i64 0) (.bool false) (.int .i64 0) (.bool false) (.int .i64 0) (.bool false) (.int .i64 0) (.int .i64 0))
    exact bodyPost_ret (v := fac zF) (by simp [results, Tryz.results9, go_sem, u0, u1, u2, u3, u4, u5, u6, u7, zF]) rfl ⟨rfl, gr8 (gr_trans g0 g1) (by omega) _ _ _ _ _ _ _ _⟩
  · rw [h1] at cO hn hy
    cases h2 : cas.caseOk c
    · rw [h2] at cC hn
      rw [hn rfl]
      clear hn hy h1 h2
      go_enter Tryz.func9, Tryz.ntmps9
      go_wp2_with fail
      refine (cO _ (h.kept g0) (hv.kept g0)).mono ?_
      rintro e w1 ⟨rfl, g1⟩
      have R1 := R0.grown g1 (by simp)
      obtain ⟨r0, r1, r2, r3, r4, r5, r6, r7⟩ := eight R1
      obtain ⟨f0, f1, f2, f3, f4, f5, f6, f7⟩ := free8 R1
      go_wp2_with fail
      refine (cC _).mono ?_
      rintro e w2 ⟨rfl, rfl⟩
      go_wp2_with fail
      obtain ⟨u0, u1, u2, u3, u4, u5, u6, u7⟩ := eight (put8 R1 (.int .i64 0) (.bool false) (.int .i64 0) (.bool false) (.int .i64 0) (.bool false) (.int .i64 0) (.int .i64 0))
      exact bodyPost_ret (v := fac zF) (by simp [results, Tryz.results9, go_sem, u0, u1, u2, u3, u4, u5, u6, u7, zF]) rfl ⟨rfl, gr8 (gr_trans g0 g1) (by omega) _ _ _ _ _ _ _ _⟩
    · rw [h2] at cC hy
      rw [hy rfl]
      clear hn hy h1 h2
      have cT := fun W (k : rd.Arg W p.a1 s.sp) => vt.implVoteThree p.a1 p.c1 s.sp 3 W k hl1
      have cU := fun W (k : rd.Arg W p.a2 s.he) => vt.implVoteTwo p.a2 p.c2 s.he 3 10 W k hl2
      have cB := fun W => fix.implBetween t 0 1000 W
      generalize vt.voteThree s.sp 3 = v3 at *
      generalize vt.voteTwo s.he 3 10 = v2 at *
      generalize btw t 0 1000 = T at *
      obtain ⟨x3, o3⟩ := v3
      obtain ⟨x2, o2⟩ := v2
      go_enter Tryz.func9, Tryz.ntmps9
      go_wp2_with fail
      refine (cO _ (h.kept g0) (hv.kept g0)).mono ?_
      rintro e w1 ⟨rfl, g1⟩
      replace A0 := A0.grown g1 (by simp)
      replace R0 := R0.grown g1 (by simp)
      replace g0 := gr_trans g0 g1
      clear g1 c0 c1 c2 c3 c4 c5
      obtain ⟨⟨c0, c1, c2⟩, c3, c4, c5⟩ := six A0
      go_wp2_with fail
      refine (cC _).mono ?_
      rintro e w2 ⟨rfl, rfl⟩
      go_upto_region 3 with fail
      generalize hsz : w1.heap.size = z1 at *
      have hlt : w.heap.size + 1 < z1 := by rw [← hsz]; exact R0.lt
      go_cut [7] (fun b wx => ∃ g, b = .pointer (some ⟨g, 0, none⟩) ∧ z1 ≤ g ∧ w1.grownBy wx none ∧ Has wx g 35 #[.int .i64 0, .bool false, .int .i64 0, .bool false, .int .i64 c, .bool s.ar, .int .i64 s.wn, .int .i64 T])
      case first =>
        have KS : ∀ W, w1.grownBy W none → (W.cell? ⟨w.heap.size, 3, none⟩ = some (.int .i64 s.wn) ∧ W.cell? ⟨w.heap.size, 4, none⟩ = some (.bool s.ar)) := fun W k => ⟨(A0.grown k (by simp)).cell 3, (A0.grown k (by simp)).cell 4⟩
        go_region_held3 (fun W => W.cell? ⟨w.heap.size, 3, none⟩ = some (.int .i64 s.wn) ∧ W.cell? ⟨w.heap.size, 4, none⟩ = some (.bool s.ar))
          (first | (refine KS _ ?_; (repeat (first | with_reducible exact gr_refl _ _ | with_reducible refine gr_drewQ ?_ | with_reducible refine gr_alloc ?_ _ | with_reducible refine gr_new ?_ (Nat.le_refl _) _ _)); done) | fail)
          (first | (go_at_call 34; refine (cB _).mono ?_; rintro e v ⟨rfl, rfl⟩) | fail)
        all_goals go_wp2_with fail
        all_goals go_meet
        all_goals refine ⟨_, rfl, Nat.le_refl _, gr_drewQ (World.grownBy_alloc _ _ _), ?_⟩
        all_goals exact hsz ▸ (show Has _ w1.heap.size _ _ from Has.fresh w1 35 #[.int .i64 0, .bool false, .int .i64 0, .bool false, .int .i64 c, .bool s.ar, .int .i64 s.wn, .int .i64 T])
      case rest =>
        obtain ⟨b, rfl, hbz, gx, F0⟩ := hcut
        have n0 : w.heap.size ≠ b := by omega
        have n1 : w.heap.size + 1 ≠ b := by omega
        have nb : w.heap.size ≤ b := by omega
        replace A0 := A0.grown gx (by simp)
        replace R0 := R0.grown gx (by simp)
        replace g0 := gr_trans g0 gx
        clear gx c0 c1 c2 c3 c4 c5 cO cC cB hsz
        obtain ⟨⟨c0, c1, c2⟩, c3, c4, c5⟩ := six A0
        go_wp2_with fail
        refine (cT _ (h.kept g0).sp).mono ?_
        rintro e w3 ⟨rfl, g1⟩
        replace A0 := A0.grown g1 (by simp)
        replace R0 := R0.grown g1 (by simp)
        replace F0 := F0.grown g1 (by simp)
        replace g0 := gr_trans g0 g1
        clear g1 c0 c1 c2 c3 c4 c5
        obtain ⟨⟨c0, c1, c2⟩, c3, c4, c5⟩ := six A0
        obtain ⟨r0, r1, r2, r3, r4, r5, r6, r7⟩ := eight F0
        obtain ⟨f0, f1, f2, f3, f4, f5, f6, f7⟩ := free8 F0
        go_wp2_with fail
        replace A0 := (A0.set_other n0 0 (.int .i64 x3)).set_other n0 1 (.bool o3)
        replace R0 := (R0.set_other n1 0 (.int .i64 x3)).set_other n1 1 (.bool o3)
        have F1 := Has.put F0 0 (.int .i64 x3) (cs' := #[.int .i64 x3, .bool false, .int .i64 0, .bool false, .int .i64 c, .bool s.ar, .int .i64 s.wn, .int .i64 T]) rfl
        replace F0 := Has.put F1 1 (.bool o3) (cs' := #[.int .i64 x3, .bool o3, .int .i64 0, .bool false, .int .i64 c, .bool s.ar, .int .i64 s.wn, .int .i64 T]) rfl
        replace g0 := gr_new (gr_new g0 nb 0 (.int .i64 x3)) nb 1 (.bool o3)
        clear c0 c1 c2 c3 c4 c5 r0 r1 r2 r3 r4 r5 r6 r7 f0 f1 f2 f3 f4 f5 f6 f7 F1
        generalize (w3.setCell ⟨b, 0, none⟩ (.int .i64 x3)).setCell ⟨b, 1, none⟩ (.bool o3) = w4 at *
        refine (cU _ (h.kept g0).he).mono ?_
        rintro e w5 ⟨rfl, g1⟩
        replace R0 := R0.grown g1 (by simp)
        replace F0 := F0.grown g1 (by simp)
        replace g0 := gr_trans g0 g1
        clear g1 A0 cT cU
        obtain ⟨r0, r1, r2, r3, r4, r5, r6, r7⟩ := eight F0
        obtain ⟨f0, f1, f2, f3, f4, f5, f6, f7⟩ := free8 F0
        obtain ⟨c0, c1, c2, c3, c4, c5, c6, c7⟩ := eight R0
        obtain ⟨d0, d1, d2, d3, d4, d5, d6, d7⟩ := free8 R0
        go_wp2_with fail
        have R1 := put8 ((R0.set_other n1 2 (.int .i64 x2)).set_other n1 3 (.bool o2)) (.int .i64 x3) (.bool o3) (.int .i64 x2) (.bool o2) (.int .i64 c) (.bool s.ar) (.int .i64 s.wn) (.int .i64 T)
        obtain ⟨u0, u1, u2, u3, u4, u5, u6, u7⟩ := eight R1
        exact bodyPost_ret (v := fac ⟨x3, o3, x2, o2, c, s.ar, s.wn, T⟩) (by simp [results, Tryz.results9, go_sem, u0, u1, u2, u3, u4, u5, u6, u7]) rfl ⟨rfl, gr8 (gr_new (gr_new g0 nb 2 (.int .i64 x2)) nb 3 (.bool o2)) (by omega) _ _ _ _ _ _ _ _⟩

end Go.Proofs.YtdikhdfpcipdbaaGreatDoor.se

