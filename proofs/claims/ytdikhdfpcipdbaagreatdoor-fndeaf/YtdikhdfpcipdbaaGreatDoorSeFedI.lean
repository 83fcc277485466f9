/- Fed of the program. -/
import Derived.Test.YtdikhdfpcipdbaaGreatDoorSeStep
import Derived.Test.YtdikhdfpcipdbaaGreatDoorSeOk
import Derived.Test.YtdikhdfpcipdbaaGreatDoorStHeardI
import Derived.Test.YtdikhdfpcipdbaaGreatDoorLit
namespace Go.Proofs.YtdikhdfpcipdbaaGreatDoor.se
open Go.ChangeShapes Go.WideShapes Go.ChangeAt Go.RowKit
open Go.Proofs.YtdikhdfpcipdbaaGreatDoor.nums Go.Proofs.YtdikhdfpcipdbaaGreatDoor.mem
open Go.Proofs.YtdikhdfpcipdbaaGreatDoor.tab (Ret)
open Go.Proofs.YtdikhdfpcipdbaaGreatDoor.rd (R okR ageR zR rx ra ro OwnR)
open Go.Proofs.YtdikhdfpcipdbaaGreatDoor.il (nth Ints Own)
open Go.Proofs.YtdikhdfpcipdbaaGreatDoor.stm (Fr heard fv Frs Pl)
set_option linter.unusedVariables false

theorem aged2 (s : S) (p : P) (fs : List Fr) (w : World) (h : Arg w s p) (ho : Ok s) : Calls Tryz.prog 27 #[sv s p] w fun e w' => ∃ p5, e = .returned (sval s (upto s fs 0) p5) ∧ w.grownBy w' none ∧ OwnS w.heap.size w' (upto s fs 0) p5 := by
  refine (agedI s p w h ho).mono ?_
  rintro e w' ⟨p5, rfl, g, O⟩
  rw [upto_zero ho.sq4]
  refine ⟨p5, ?_, g, O⟩
  show Ending.returned (.agg #[.slice _ (s.sp.map ageR).length _, .slice _ (s.he.map ageR).length _, .slice _ (s.fa.map ageR).length _, _, _, _]) = _
  rw [List.length_map, List.length_map, List.length_map]
theorem past6 {w : World} {b g : Nat} {t : TypeId} {cs : Array Value} (hb : b ≠ g) (H : Has w b t cs) (u0 u1 u2 u3 u4 u5 : Value) : Has ((((((w.setCell ⟨g, 0, none⟩ u0).setCell ⟨g, 1, none⟩ u1).setCell ⟨g, 2, none⟩ u2).setCell ⟨g, 3, none⟩ u3).setCell ⟨g, 4, none⟩ u4).setCell ⟨g, 5, none⟩ u5) b t cs :=
  (((((H.set_other hb _ _).set_other hb _ _).set_other hb _ _).set_other hb _ _).set_other hb _ _).set_other hb _ _
/-- What each operation of the statement leaves that tells a Kind. -/
def LeftF (z : Nat) (s c : S) (pc p : P) (k : Nat) (q : Int) (a : Option Addr) (cap : Nat) (vs : List Int) : Nat → Value → World → Prop
  | 0, v, _ => v = sval s c pc
  | 1, v, _ => v = sv s p
  | 2, v, _ => v = frm.fr ((k : Int) + 1) q a vs.length cap
  | 3, v, _ => v = shapeV k a cap vs
  | 4, v, w => Told z s (toldS s c k vs) v w
  | _, _, _ => False
theorem LeftF.stab {z : Nat} {s c : S} {pc p : P} {k : Nat} {q : Int} {a : Option Addr} {cap : Nat} {vs : List Int} (j : Nat) (v : Value) (w w' : World) (h : LeftF z s c pc p k q a cap vs j v w) (hg : w.grownBy w' none) : LeftF z s c pc p k q a cap vs j v w' := by
  match j, h with
  | 0, h => exact h
  | 1, h => exact h
  | 2, h => exact h
  | 3, h => exact h
  | 4, h => exact Told.stab h hg

set_option maxRecDepth 100000 in
set_option maxHeartbeats 800000 in
theorem implFed_ok (s : S) (p : P) (a : Option Addr) (cap : Nat) (fs : List Fr) (ps : List Pl) (n f q : Addr) (w : World) (h : Arg w s p) (ho : Ok s) (hF : Frs w a fs ps) (hfl : fs.length ≤ 1048576) (hfv : ∀ k, k < fs.length → (fv fs k).length ≤ 1048576)
    (hv : Vals w) (he : sane.ErrB w n f q) (ht : sane.ErrT w) (hr : Rgs w) : Calls Tryz.prog 7 #[sv s p, .slice a fs.length cap] w (RetS (upto s fs 4) w) := by
  obtain ⟨a1, j1, a2, j2, a3, j3, a4, j4⟩ := p
  obtain ⟨y, ey, _, _⟩ := h.sq 0 (by rw [ho.sq4]; omega)
  simp only at ey
  subst ey
  have KA := (Has.fresh w 27 (cs6 s ⟨a1, j1, a2, j2, a3, j3, some y, j4⟩)).alloc (Obj.cells #[.slice none 0 0, .slice none 0 0, .slice none 0 0, .int .i64 0, .bool false, .slice none 0 0] 27)
  have R := Has.fresh (w.alloc (Obj.cells (cs6 s ⟨a1, j1, a2, j2, a3, j3, some y, j4⟩) 27)) 27 #[.slice none 0 0, .slice none 0 0, .slice none 0 0, .int .i64 0, .bool false, .slice none 0 0]
  have g0 := gr_alloc (World.grownBy_alloc w (Obj.cells (cs6 s ⟨a1, j1, a2, j2, a3, j3, some y, j4⟩) 27) none) (Obj.cells #[.slice none 0 0, .slice none 0 0, .slice none 0 0, .int .i64 0, .bool false, .slice none 0 0] 27)
  simp only [World.size_alloc] at R
  have hbd : Bd s 1048576 := ⟨by rw [ho.sp3]; omega, by rw [ho.he2]; omega, by rw [ho.fa6]; omega, by rw [ho.sq4]; omega⟩
  have cO := fun W (k : Arg W s ⟨a1, j1, a2, j2, a3, j3, some y, j4⟩) (k2 : Vals W) => implSensesOk s ⟨a1, j1, a2, j2, a3, j3, some y, j4⟩ W k hbd k2
  rw [ok_iff.2 ho] at cO
  obtain ⟨⟨c0, c1, c2⟩, c3, c4, c5⟩ := six KA
  go_enter Tryz.func7, Tryz.ntmps7
  go_wp2_with fail
  refine (cO _ (h.kept g0) (hv.kept g0)).mono ?_
  rintro e w1 ⟨rfl, r⟩
  replace KA := KA.grown r (by simp)
  replace R := R.grown r (by simp)
  replace g0 := gr_trans g0 r
  clear r c0 c1 c2 c3 c4 c5 cO
  obtain ⟨⟨c0, c1, c2⟩, c3, c4, c5⟩ := six KA
  go_wp2_with fail
  refine (aged2 s ⟨a1, j1, a2, j2, a3, j3, some y, j4⟩ fs _ (h.kept g0) ho).mono ?_
  rintro e w2 ⟨p5, rfl, r, O⟩
  have l1 := R.lt
  have K5 := Has.fresh w2 27 (scs s (upto s fs 0) p5)
  replace KA := (KA.grown r (by simp)).alloc (Obj.cells (scs s (upto s fs 0) p5) 27)
  replace R := (R.grown r (by simp)).alloc (Obj.cells (scs s (upto s fs 0) p5) 27)
  have l2 := r.size
  replace g0 := gr_alloc (gr_trans g0 r) (Obj.cells (scs s (upto s fs 0) p5) 27)
  replace O := (O.kept (World.grownBy_alloc w2 (Obj.cells (scs s (upto s fs 0) p5) 27) none)).below (c := w1.heap.size) (Nat.le_refl _)
  have l5 : w1.heap.size ≤ w2.heap.size := l2
  clear r c0 c1 c2 c3 c4 c5
  obtain ⟨⟨c0, c1, c2⟩, c3, c4, c5⟩ := six KA
  go_wp2_with fail
  generalize w1.heap.size = z0 at *
  generalize hz5 : w2.heap.size = z5 at *
  generalize w2.alloc (Obj.cells (scs s (upto s fs 0) p5) 27) = w3 at *
  have hsq := Lib.hid ho.sq4
  go_loopw [6, 7, 8, 9, 19] (fun s6 s7 s8 s9 i wr => ∃ (k : Nat) (c : S) (pc : P), k ≤ 4 ∧ i = .int .i64 k ∧ Hid (upto s fs k = c) ∧ Has wr w.heap.size 27 (cs6 s ⟨a1, j1, a2, j2, a3, j3, some y, j4⟩) ∧ Has wr (w.heap.size + 1) 27 #[.slice none 0 0, .slice none 0 0, .slice none 0 0, .int .i64 0, .bool false, .slice none 0 0] ∧ Has wr z5 27 (scs s c pc) ∧ OwnS z0 wr c pc ∧ z0 ≤ wr.heap.size ∧ w.grownBy wr none) (fun _ _ _ _ i _ => 4 - (intOf i).toNat)
  case atStart => exact ⟨0, _, p5, by omega, rfl, Lib.hid rfl, KA, R, K5, O, by have := K5.lt; omega, g0⟩
  case round =>
    clear KA R K5 O g0 c0 c1 c2 c3 c4 c5
    obtain ⟨k, c, pc, hk, rfl, hc, KA, R, K5, O, hsz, hg⟩ := hrel
    have hlt4 : decide ((k : Int) < (s.sq.length : Int)) = decide (k < 4) := by rw [hsq.out]; simp; omega
    by_cases hlt : k < 4
    · obtain ⟨y', ey, _, cy⟩ := (h.sq.kept hg) k (by have := hsq.out; omega)
      have hkl : k < s.sq.length := by have := hsq.out; omega
      simp only at ey
      injection ey with ey
      subst ey
      have cH := stm.implHeard a cap fs ps ((k : Int) + 1) (nth s.sq k) wr (hv.kept hg) (hF.kept hg) hfl hfv
      rw [show heard ((k : Int) + 1) (nth s.sq k) fs = hd s fs k from rfl] at cH
      cases hH : hd s fs k with
      | none =>
        rw [hH] at cH
        have hn := Lib.hid ((upto_skip hlt hH).trans hc.out)
        clear hH hlt4
        obtain ⟨⟨b0, b1, b2⟩, b3, b4, b5⟩ := six KA
        go_wp2_with fail
        refine cH.mono ?_
        rintro e w4 ⟨g4, rfl⟩
        go_wp2_with fail
        go_roundw
        case rel =>
          exact ⟨k + 1, c, pc, by omega, by go_num, hn, (KA.grown g4 (by simp)).alloc _, (R.grown g4 (by simp)).alloc _, (K5.grown g4 (by simp)).alloc _, (O.kept g4).kept (World.grownBy_alloc _ _ _), Nat.le_trans hsz (gr_alloc g4 _).size, gr_alloc (gr_trans hg g4) _⟩
        case measure => simp [intOf]; omega
      | some F =>
        obtain ⟨kk, q4, vs⟩ := F
        have hkk := (hd_ok hH).2
        have hvl := hd_len hH
        have hn := (upto_tell hlt hH)
        rw [hc.out] at hn
        replace hn := Lib.hid hn
        rw [hH] at cH
        simp only at hkk hvl
        subst hkk
        have hls := (len_upto s fs k).2.2.2
        rw [hc.out] at hls
        clear hH hlt4
        obtain ⟨⟨b0, b1, b2⟩, b3, b4, b5⟩ := six KA
        go_wp2_with fail
        refine cH.mono ?_
        rintro e w4 ⟨g4, a5, cap5, rfl, own4⟩
        have hvI := own4.ints
        have l8 : w4.heap.size ≠ z5 := by have := (K5.grown g4 (by simp)).lt; omega
        have K8 := Has.fresh w4 50 #[.int .i64 ((k : Int) + 1), .int .i64 q4, .slice a5 vs.length cap5]
        have ga := gr_alloc g4 (Obj.cells #[.int .i64 ((k : Int) + 1), .int .i64 q4, .slice a5 vs.length cap5] 50)
        replace KA := KA.grown ga (by simp)
        replace R := R.grown ga (by simp)
        replace K5 := K5.grown ga (by simp)
        replace O := O.kept ga
        replace hg := gr_trans hg ga
        replace hsz := Nat.le_trans hsz ga.size
        replace hvI : Ints (w4.alloc (Obj.cells #[.int .i64 ((k : Int) + 1), .int .i64 q4, .slice a5 vs.length cap5] 50)) a5 vs := hvI.kept (World.grownBy_alloc _ _ _)
        have n8 : w4.heap.size ≠ z5 := l8
        clear b0 b1 b2 b3 b4 b5 cH own4 g4 ga
        go_wp2_with fail
        generalize w4.heap.size = z8 at *
        generalize w4.alloc (Obj.cells #[.int .i64 ((k : Int) + 1), .int .i64 q4, .slice a5 vs.length cap5] 50) = w5 at *
        refine iv.region_inv 5 (fun i => i + 33) (LeftF z0 s c pc ⟨a1, j1, a2, j2, a3, j3, some y, j4⟩ k q4 a5 cap5 vs) (by kernel_rfl) (by kernel_rfl) (by kernel_rfl) (by decide) (by kernel_rfl) (by kernel_rfl) (fun i j _ _ e => by simpa using e) (fun i hi => by simp; omega) LeftF.stab ?_ ?_
        · intro i o a W hi ho2 hgW hsz2 hdf hold hdeps
          obtain ⟨⟨tl⟩, df⟩ := a
          obtain ⟨x0, x1, x2, x3, x4, x5, x6, x7, x8, x9, x10, x11, x12, x13, x14, x15, x16, x17, x18, x19, x20, x21, x22, x23, x24, x25, x26, x27, x28, x29, x30, x31, x32, x33, x34, x35, x36, x37, x38, x39, x40, x41, x42, x43, x44, x45, rfl⟩ := lit46 tl (by simpa using hsz2)
          have ed : df = [] := by simpa using hdf
          subst ed
          have e := hold 2 (fun j _ => by omega)
          simp at e
          subst e
          have e := hold 5 (fun j _ => by omega)
          simp at e
          subst e
          have e := hold 8 (fun j _ => by omega)
          simp at e
          subst e
          clear hold hdf
          rcases (show i = 0 ∨ i = 1 ∨ i = 2 ∨ i = 3 ∨ i = 4 by omega) with rfl | rfl | rfl | rfl | rfl
          all_goals simp at ho2
          all_goals subst ho2
          all_goals simp [Region.binds, LeftF] at hdeps
          · obtain ⟨⟨b0, b1, b2⟩, b3, b4, b5⟩ := six (K5.grown hgW (by simp))
            go_wp2_with fail
            exact ⟨gr_refl _ _, rfl⟩
          · obtain ⟨⟨b0, b1, b2⟩, b3, b4, b5⟩ := six (KA.grown hgW (by simp))
            go_wp2_with fail
            exact ⟨gr_refl _ _, rfl⟩
          · obtain ⟨b0, b1, b2, _, _, _⟩ := frm.three (K8.grown hgW (by simp))
            go_wp2_with fail
            exact ⟨gr_refl _ _, rfl⟩
          · subst hdeps
            go_wp2_with fail
            refine (shape_call hlt q4 a5 cap5 vs _ (hvI.kept hgW) hvl).mono ?_
            rintro e w6 ⟨rfl, r⟩
            go_wp2_with fail
            exact rfl
          · obtain ⟨rfl, rfl, rfl⟩ := hdeps
            go_wp2_with fail
            refine (told_call hlt z0 s c pc ⟨a1, j1, a2, j2, a3, j3, some y, j4⟩ a5 cap5 vs n f q _ ho ((h.kept hg).kept hgW) (hvI.kept hgW) hvl ((he.kept hg).kept hgW) ((ht.kept hg).kept hgW) ((hr.kept hg).kept hgW) (O.kept hgW) (Nat.le_trans hsz hgW.size)).mono ?_
            rintro e w6 ⟨v, rfl, r, hT⟩
            go_wp2_with fail
            exact hT
        · intro o W hgW hsz2 hdf hold hnew
          obtain ⟨⟨tl⟩, df⟩ := o
          obtain ⟨x0, x1, x2, x3, x4, x5, x6, x7, x8, x9, x10, x11, x12, x13, x14, x15, x16, x17, x18, x19, x20, x21, x22, x23, x24, x25, x26, x27, x28, x29, x30, x31, x32, x33, x34, x35, x36, x37, x38, x39, x40, x41, x42, x43, x44, x45, rfl⟩ := lit46 tl (by simpa using hsz2)
          have ed : df = [] := by simpa using hdf
          subst ed
          obtain ⟨v, e, ⟨b1, m1, b2, m2, b3, m3, b4, m4⟩, ev, O6⟩ := hnew 4 (by omega)
          simp at e
          subst e
          subst ev
          clear hnew
          have e := hold 0 (fun j _ => by omega)
          simp at e
          subst e
          have e := hold 1 (fun j _ => by omega)
          simp at e
          subst e
          have e := hold 2 (fun j _ => by omega)
          simp at e
          subst e
          have e := hold 3 (fun j _ => by omega)
          simp at e
          subst e
          have e := hold 4 (fun j _ => by omega)
          simp at e
          subst e
          have e := hold 5 (fun j _ => by omega)
          simp at e
          subst e
          have e := hold 6 (fun j _ => by omega)
          simp at e
          subst e
          have e := hold 7 (fun j _ => by omega)
          simp at e
          subst e
          have e := hold 8 (fun j _ => by omega)
          simp at e
          subst e
          have e := hold 9 (fun j _ => by omega)
          simp at e
          subst e
          have e := hold 10 (fun j _ => by omega)
          simp at e
          subst e
          have e := hold 11 (fun j _ => by omega)
          simp at e
          subst e
          have e := hold 12 (fun j _ => by omega)
          simp at e
          subst e
          have e := hold 13 (fun j _ => by omega)
          simp at e
          subst e
          have e := hold 14 (fun j _ => by omega)
          simp at e
          subst e
          have e := hold 15 (fun j _ => by omega)
          simp at e
          subst e
          have e := hold 16 (fun j _ => by omega)
          simp at e
          subst e
          have e := hold 17 (fun j _ => by omega)
          simp at e
          subst e
          have e := hold 18 (fun j _ => by omega)
          simp at e
          subst e
          have e := hold 19 (fun j _ => by omega)
          simp at e
          subst e
          have e := hold 20 (fun j _ => by omega)
          simp at e
          subst e
          have e := hold 21 (fun j _ => by omega)
          simp at e
          subst e
          have e := hold 22 (fun j _ => by omega)
          simp at e
          subst e
          have e := hold 23 (fun j _ => by omega)
          simp at e
          subst e
          have e := hold 24 (fun j _ => by omega)
          simp at e
          subst e
          have e := hold 25 (fun j _ => by omega)
          simp at e
          subst e
          have e := hold 26 (fun j _ => by omega)
          simp at e
          subst e
          have e := hold 27 (fun j _ => by omega)
          simp at e
          subst e
          have e := hold 28 (fun j _ => by omega)
          simp at e
          subst e
          have e := hold 29 (fun j _ => by omega)
          simp at e
          subst e
          have e := hold 30 (fun j _ => by omega)
          simp at e
          subst e
          have e := hold 31 (fun j _ => by omega)
          simp at e
          subst e
          have e := hold 32 (fun j _ => by omega)
          simp at e
          subst e
          have e := hold 38 (fun j _ => by omega)
          simp at e
          subst e
          have e := hold 39 (fun j _ => by omega)
          simp at e
          subst e
          have e := hold 40 (fun j _ => by omega)
          simp at e
          subst e
          have e := hold 41 (fun j _ => by omega)
          simp at e
          subst e
          have e := hold 42 (fun j _ => by omega)
          simp at e
          subst e
          have e := hold 43 (fun j _ => by omega)
          simp at e
          subst e
          have e := hold 44 (fun j _ => by omega)
          simp at e
          subst e
          have e := hold 45 (fun j _ => by omega)
          simp at e
          subst e
          clear hold hdf hsz2
          have hls6 : k < (toldS s c k vs).sq.length := by rw [toldS_sq, hls]; exact hlt
          have K6 := K5.grown hgW (by simp)
          have KA6 := KA.grown hgW (by simp)
          have R6 := R.grown hgW (by simp)
          have K86 := K8.grown hgW (by simp)
          replace hg := gr_trans hg hgW
          obtain ⟨gq, oq, eq4, lq, zq, cq, fq, bq, _⟩ := O6.seq hls6 q4
          simp only at eq4
          subst eq4
          have O7 := O6.boxed K6 (.slice b1 s.sp.length m1) (.slice b2 s.he.length m2) (.slice b3 s.fa.length m3) (.int .i64 (toldS s c k vs).wn) (.bool (toldS s c k vs).ar) (.slice (some ⟨gq, oq, none⟩) s.sq.length m4)
          have K7 := set6 K6 (.slice b1 s.sp.length m1) (.slice b2 s.he.length m2) (.slice b3 s.fa.length m3) (.int .i64 (toldS s c k vs).wn) (.bool (toldS s c k vs).ar) (.slice (some ⟨gq, oq, none⟩) s.sq.length m4)
          have nA : w.heap.size ≠ z5 := by omega
          have nR : w.heap.size + 1 ≠ z5 := by omega
          have KA7 := past6 nA KA6 (.slice b1 s.sp.length m1) (.slice b2 s.he.length m2) (.slice b3 s.fa.length m3) (.int .i64 (toldS s c k vs).wn) (.bool (toldS s c k vs).ar) (.slice (some ⟨gq, oq, none⟩) s.sq.length m4)
          have R7 := past6 nR R6 (.slice b1 s.sp.length m1) (.slice b2 s.he.length m2) (.slice b3 s.fa.length m3) (.int .i64 (toldS s c k vs).wn) (.bool (toldS s c k vs).ar) (.slice (some ⟨gq, oq, none⟩) s.sq.length m4)
          have K87 := past6 n8 K86 (.slice b1 s.sp.length m1) (.slice b2 s.he.length m2) (.slice b3 s.fa.length m3) (.int .i64 (toldS s c k vs).wn) (.bool (toldS s c k vs).ar) (.slice (some ⟨gq, oq, none⟩) s.sq.length m4)
          have G7 := gr6 hg (show w.heap.size ≤ z5 by omega) (.slice b1 s.sp.length m1) (.slice b2 s.he.length m2) (.slice b3 s.fa.length m3) (.int .i64 (toldS s c k vs).wn) (.bool (toldS s c k vs).ar) (.slice (some ⟨gq, oq, none⟩) s.sq.length m4)
          obtain ⟨gq', oq', eq5, lq7, zq7, cq7, fq7, bq7, O8⟩ := O7.seq hls6 q4
          simp only [Option.some.injEq, Addr.mk.injEq, and_true] at eq5
          obtain ⟨e1, e2⟩ := eq5
          subst e1 e2
          have dA := O7.nbox KA7 (by decide) (by decide) _ bq7
          have dR := O7.nbox R7 (by decide) (by decide) _ bq7
          have d5 := O7.nbox K7 (by decide) (by decide) _ bq7
          obtain ⟨⟨f0, f1, f2⟩, f3, f4, f5⟩ := free6 K6
          obtain ⟨⟨i0, i1, i2⟩, i3, i4, i5⟩ := six K6
          obtain ⟨⟨p0, p1, p2⟩, p3, p4, p5'⟩ := six K7
          obtain ⟨r0, r1, r2, _, _, _⟩ := frm.three K87
          have lW : z0 ≤ W.heap.size := Nat.le_trans hsz hgW.size
          simp only [List.drop_succ_cons, List.drop_zero]
          go_wp2_with fail
          go_roundw
          case rel => exact ⟨k + 1, withSeq (toldS s c k vs) k q4, ⟨b1, m1, b2, m2, b3, m3, some ⟨gq, oq, none⟩, m4⟩, by omega, by go_num, hn, KA7.set_other (Ne.symm dA) _ _, R7.set_other (Ne.symm dR) _ _, K7.set_other (Ne.symm d5) _ _, O8, by simpa using lW, gr_new G7 (by omega) _ _⟩
          case measure => simp [intOf]; omega
    · obtain rfl : k = 4 := by omega
      have hl := len_upto s fs 4
      rw [hc.out] at hl ⊢
      have hx : decide ((4 : Int) < (s.sq.length : Int)) = false := by rw [hsq.out]; rfl
      have hx' : ¬ (4 : Int) < (s.sq.length : Int) := by rw [hsq.out]; decide
      obtain ⟨⟨b0, b1, b2⟩, b3, b4, b5⟩ := six K5
      obtain ⟨⟨d0, d1, d2⟩, d3, d4, d5⟩ := six R
      obtain ⟨⟨e0, e1, e2⟩, e3, e4, e5⟩ := free6 R
      have HL := Lib.hid hl
      clear hl hlt4
      go_wp2_with fail
      have Q := O.boxed R (.slice pc.a1 s.sp.length pc.c1) (.slice pc.a2 s.he.length pc.c2) (.slice pc.a3 s.fa.length pc.c3) (.int .i64 c.wn) (.bool c.ar) (.slice pc.a4 s.sq.length pc.c4)
      have G := gr6 hg (show w.heap.size ≤ w.heap.size + 1 by omega) (.slice pc.a1 s.sp.length pc.c1) (.slice pc.a2 s.he.length pc.c2) (.slice pc.a3 s.fa.length pc.c3) (.int .i64 c.wn) (.bool c.ar) (.slice pc.a4 s.sq.length pc.c4)
      obtain ⟨⟨t0, t1, t2⟩, t3, t4, t5⟩ := six (set6 R (.slice pc.a1 s.sp.length pc.c1) (.slice pc.a2 s.he.length pc.c2) (.slice pc.a3 s.fa.length pc.c3) (.int .i64 c.wn) (.bool c.ar) (.slice pc.a4 s.sq.length pc.c4))
      refine bodyPost_ret (v := sval s c pc) (by simp [results, Tryz.results7, go_sem, t0, t1, t2, t3, t4, t5]) rfl ⟨pc, ?_, G, by rw [hc.out]; exact Q.below (show w.heap.size ≤ z0 by omega)⟩
      obtain ⟨h1, h2, h3, h4⟩ := HL.out
      rw [hc.out]
      show Ending.returned (.agg #[.slice _ s.sp.length _, .slice _ s.he.length _, .slice _ s.fa.length _, _, _, .slice _ s.sq.length _]) = Ending.returned (.agg #[.slice _ c.sp.length _, .slice _ c.he.length _, .slice _ c.fa.length _, _, _, .slice _ c.sq.length _])
      rw [h1, h2, h3, h4, hsq.out]

set_option maxRecDepth 100000 in
set_option maxHeartbeats 1000000 in
theorem implFed_no (s : S) (p : P) (a : Option Addr) (n cap : Nat) (w : World) (h : Arg w s p) (hb : Bd s 1048576) (ho : ok s = false) (hv : Vals w) : Calls Tryz.prog 7 #[sv s p, .slice a n cap] w (RetS zS w) := by
  have KA := (Has.fresh w 27 (cs6 s p)).alloc (Obj.cells #[.slice none 0 0, .slice none 0 0, .slice none 0 0, .int .i64 0, .bool false, .slice none 0 0] 27)
  have R := Has.fresh (w.alloc (Obj.cells (cs6 s p) 27)) 27 #[.slice none 0 0, .slice none 0 0, .slice none 0 0, .int .i64 0, .bool false, .slice none 0 0]
  have g0 := gr_alloc (World.grownBy_alloc w (Obj.cells (cs6 s p) 27) none) (Obj.cells #[.slice none 0 0, .slice none 0 0, .slice none 0 0, .int .i64 0, .bool false, .slice none 0 0] 27)
  simp only [World.size_alloc] at R
  have cO := fun W (k : Arg W s p) (k2 : Vals W) => implSensesOk s p W k hb k2
  rw [ho] at cO
  obtain ⟨⟨c0, c1, c2⟩, c3, c4, c5⟩ := six KA
  go_enter Tryz.func7, Tryz.ntmps7
  go_wp2_with fail
  refine (cO _ (h.kept g0) (hv.kept g0)).mono ?_
  rintro e w1 ⟨rfl, r⟩
  replace R := R.grown r (by simp)
  replace g0 := gr_trans g0 r
  obtain ⟨⟨d0, d1, d2⟩, d3, d4, d5⟩ := six R
  obtain ⟨⟨e0, e1, e2⟩, e3, e4, e5⟩ := free6 R
  clear c0 c1 c2 c3 c4 c5 KA
  go_wp2_with fail
  obtain ⟨⟨t0, t1, t2⟩, t3, t4, t5⟩ := six (set6 R (.slice none 0 0) (.slice none 0 0) (.slice none 0 0) (.int .i64 0) (.bool false) (.slice none 0 0))
  have G := gr6 g0 (show w.heap.size ≤ w.heap.size + 1 by omega) (.slice none 0 0) (.slice none 0 0) (.slice none 0 0) (.int .i64 0) (.bool false) (.slice none 0 0)
  have Q := (own_zero ((((((w1.setCell ⟨w.heap.size + 1, 0, none⟩ (.slice none 0 0)).setCell ⟨w.heap.size + 1, 1, none⟩ (.slice none 0 0)).setCell ⟨w.heap.size + 1, 2, none⟩ (.slice none 0 0)).setCell ⟨w.heap.size + 1, 3, none⟩ (.int .i64 0)).setCell ⟨w.heap.size + 1, 4, none⟩ (.bool false)).setCell ⟨w.heap.size + 1, 5, none⟩ (.slice none 0 0))).below (show w.heap.size ≤ _ from G.size)
  exact bodyPost_ret (v := .agg #[.slice none 0 0, .slice none 0 0, .slice none 0 0, .int .i64 0, .bool false, .slice none 0 0]) (by simp [results, Tryz.results7, go_sem, t0, t1, t2, t3, t4, t5]) rfl ⟨zP, rfl, G, Q⟩
theorem implFed (s : S) (p : P) (a : Option Addr) (cap : Nat) (fs : List Fr) (ps : List Pl) (n f q : Addr) (w : World) (h : Arg w s p) (hb : Bd s 1048576) (hF : Frs w a fs ps) (hfl : fs.length ≤ 1048576) (hfv : ∀ k, k < fs.length → (fv fs k).length ≤ 1048576)
    (hv : Vals w) (he : sane.ErrB w n f q) (ht : sane.ErrT w) (hr : Rgs w) : Calls Tryz.prog 7 #[sv s p, .slice a fs.length cap] w (RetS (fed s fs) w) := by
  cases ho : ok s
  · rw [fed_no ho]; exact implFed_no s p a fs.length cap w h hb ho hv
  · rw [fed_ok ho]; exact implFed_ok s p a cap fs ps n f q w h (ok_iff.1 ho) hF hfl hfv hv he ht hr
end Go.Proofs.YtdikhdfpcipdbaaGreatDoor.se
