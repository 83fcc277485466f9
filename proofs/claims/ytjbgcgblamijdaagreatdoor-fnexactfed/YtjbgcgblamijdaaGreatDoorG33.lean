/- Fed of the program. Senses copied by the model: l15Copy. -/
import Derived.Test.YtjbgcgblamijdaaGreatDoorG30
import Derived.Test.YtjbgcgblamijdaaGreatDoorG31
import Derived.Test.YtjbgcgblamijdaaGreatDoorG32
import Derived.Test.YtjbgcgblamijdaaGreatDoorG27
import Derived.Test.YtjbgcgblamijdaaGreatDoorG20
import Derived.Deep.AppendLies
/- Fed of the program. -/
namespace Go.Proofs.YtjbgcgblamijdaaGreatDoor.se
open Go.ChangeShapes Go.WideShapes Go.ChangeAt Go.RowKit
open Go.Proofs.YtjbgcgblamijdaaGreatDoor.nums Go.Proofs.YtjbgcgblamijdaaGreatDoor.mem
open Go.Proofs.YtjbgcgblamijdaaGreatDoor.tab (Ret)
open Go.Proofs.YtjbgcgblamijdaaGreatDoor.rd (R okR ageR zR rx ra ro OwnR)
open Go.Proofs.YtjbgcgblamijdaaGreatDoor.il (nth Ints Own)
open Go.Proofs.YtjbgcgblamijdaaGreatDoor.stm (Fr heard fv Frs Pl)
set_option linter.unusedVariables false

theorem aged2 (s : S) (p : P) (fs : List Fr) (w : World) (h : Arg w s p) (ho : Ok s) : Calls Tryz.prog 37 #[sv s p] w fun e w' => ∃ p5, e = .returned (sval s (upto s fs 0) p5) ∧ w.grownBy w' none ∧ OwnS w.heap.size w' (upto s fs 0) p5 := by
  refine (agedI s p w h ho).mono ?_
  rintro e w' ⟨p5, rfl, g, O⟩
  rw [upto_zero ho.sq4]
  refine ⟨p5, ?_, g, O⟩
  show Ending.returned (.agg #[.slice _ (s.sp.map ageR).length _, .slice _ (s.he.map ageR).length _, .slice _ (s.fa.map ageR).length _, _, _, _]) = _
  rw [List.length_map, List.length_map, List.length_map]
theorem past6 {w : World} {b g : Nat} {t : TypeId} {cs : Array Value} (hb : b ≠ g) (H : Has w b t cs) (u0 u1 u2 u3 u4 u5 : Value) : Has ((((((w.setCell ⟨g, 0, none⟩ u0).setCell ⟨g, 1, none⟩ u1).setCell ⟨g, 2, none⟩ u2).setCell ⟨g, 3, none⟩ u3).setCell ⟨g, 4, none⟩ u4).setCell ⟨g, 5, none⟩ u5) b t cs :=
  (((((H.set_other hb _ _).set_other hb _ _).set_other hb _ _).set_other hb _ _).set_other hb _ _).set_other hb _ _
/-- What each operation of the statement leaves that tells a Kind. -/
def LeftF (z : Nat) (s c : S) (pc p : P) (k : Nat) (q : Int) (a : Option Addr) (cap : Nat) (vs : List Int) : Nat → Value → World → Prop
  | 0, v, _ => v = sval s c pc
  | 1, v, _ => v = sv s p
  | 2, v, _ => v = frm.fr ((k : Int) + 1) q a vs.length cap
  | 3, v, _ => v = shapeV k a cap vs
  | 4, v, w => Told z s (toldS s c k vs) v w
  | _, _, _ => False
theorem LeftF.stab {z : Nat} {s c : S} {pc p : P} {k : Nat} {q : Int} {a : Option Addr} {cap : Nat} {vs : List Int} (j : Nat) (v : Value) (w w' : World) (h : LeftF z s c pc p k q a cap vs j v w) (hg : w.grownBy w' none) : LeftF z s c pc p k q a cap vs j v w' := by
  match j, h with
  | 0, h => exact h
  | 1, h => exact h
  | 2, h => exact h
  | 3, h => exact h
  | 4, h => exact Told.stab h hg

set_option maxRecDepth 100000 in
set_option maxHeartbeats 800000 in
theorem implFed_ok (s : S) (p : P) (a : Option Addr) (cap : Nat) (fs : List Fr) (ps : List Pl) (n f q : Addr) (w : World) (h : Arg w s p) (ho : Ok s) (hF : Frs w a fs ps) (hfl : fs.length ≤ 1048576) (hfv : ∀ k, k < fs.length → (fv fs k).length ≤ 1048576)
    (hv : Vals w) (he : sane.ErrB w n f q) (ht : sane.ErrT w) (hr : Rgs w) : Calls Tryz.prog 8 #[sv s p, .slice a fs.length cap] w (RetS (upto s fs 4) w) := by
  obtain ⟨a1, j1, a2, j2, a3, j3, a4, j4⟩ := p
  obtain ⟨y, ey, _, _⟩ := h.sq 0 (by rw [ho.sq4]; omega)
  simp only at ey
  subst ey
  have KA := (Has.fresh w 27 (cs6 s ⟨a1, j1, a2, j2, a3, j3, some y, j4⟩)).alloc (Obj.cells #[.slice none 0 0, .slice none 0 0, .slice none 0 0, .int .i64 0, .bool false, .slice none 0 0] 27)
  have R := Has.fresh (w.alloc (Obj.cells (cs6 s ⟨a1, j1, a2, j2, a3, j3, some y, j4⟩) 27)) 27 #[.slice none 0 0, .slice none 0 0, .slice none 0 0, .int .i64 0, .bool false, .slice none 0 0]
  have g0 := gr_alloc (World.grownBy_alloc w (Obj.cells (cs6 s ⟨a1, j1, a2, j2, a3, j3, some y, j4⟩) 27) none) (Obj.cells #[.slice none 0 0, .slice none 0 0, .slice none 0 0, .int .i64 0, .bool false, .slice none 0 0] 27)
  simp only [World.size_alloc] at R
  have hbd : Bd s 1048576 := ⟨by rw [ho.sp3]; omega, by rw [ho.he2]; omega, by rw [ho.fa6]; omega, by rw [ho.sq4]; omega⟩
  have cO := fun W (k : Arg W s ⟨a1, j1, a2, j2, a3, j3, some y, j4⟩) (k2 : Vals W) => implSensesOk s ⟨a1, j1, a2, j2, a3, j3, some y, j4⟩ W k hbd k2
  rw [ok_iff.2 ho] at cO
  obtain ⟨⟨c0, c1, c2⟩, c3, c4, c5⟩ := six KA
  go_enter Tryz.func8, Tryz.ntmps8
  go_wp2_with fail
  refine (cO _ (h.kept g0) (hv.kept g0)).mono ?_
  rintro e w1 ⟨rfl, r⟩
  replace KA := KA.grown r (by simp)
  replace R := R.grown r (by simp)
  replace g0 := gr_trans g0 r
  clear r c0 c1 c2 c3 c4 c5 cO
  obtain ⟨⟨c0, c1, c2⟩, c3, c4, c5⟩ := six KA
  go_wp2_with fail
  refine (aged2 s ⟨a1, j1, a2, j2, a3, j3, some y, j4⟩ fs _ (h.kept g0) ho).mono ?_
  rintro e w2 ⟨p5, rfl, r, O⟩
  have l1 := R.lt
  have K5 := Has.fresh w2 27 (scs s (upto s fs 0) p5)
  replace KA := (KA.grown r (by simp)).alloc (Obj.cells (scs s (upto s fs 0) p5) 27)
  replace R := (R.grown r (by simp)).alloc (Obj.cells (scs s (upto s fs 0) p5) 27)
  have l2 := r.size
  replace g0 := gr_alloc (gr_trans g0 r) (Obj.cells (scs s (upto s fs 0) p5) 27)
  replace O := (O.kept (World.grownBy_alloc w2 (Obj.cells (scs s (upto s fs 0) p5) 27) none)).below (c := w1.heap.size) (Nat.le_refl _)
  have l5 : w1.heap.size ≤ w2.heap.size := l2
  clear r c0 c1 c2 c3 c4 c5
  obtain ⟨⟨c0, c1, c2⟩, c3, c4, c5⟩ := six KA
  go_wp2_with fail
  generalize w1.heap.size = z0 at *
  generalize hz5 : w2.heap.size = z5 at *
  generalize w2.alloc (Obj.cells (scs s (upto s fs 0) p5) 27) = w3 at *
  have hsq := Lib.hid ho.sq4
  go_loopw [6, 7, 8, 9, 19] (fun s6 s7 s8 s9 i wr => ∃ (k : Nat) (c : S) (pc : P), k ≤ 4 ∧ i = .int .i64 k ∧ Hid (upto s fs k = c) ∧ Has wr w.heap.size 27 (cs6 s ⟨a1, j1, a2, j2, a3, j3, some y, j4⟩) ∧ Has wr (w.heap.size + 1) 27 #[.slice none 0 0, .slice none 0 0, .slice none 0 0, .int .i64 0, .bool false, .slice none 0 0] ∧ Has wr z5 27 (scs s c pc) ∧ OwnS z0 wr c pc ∧ z0 ≤ wr.heap.size ∧ w.grownBy wr none) (fun _ _ _ _ i _ => 4 - (intOf i).toNat)
  case atStart => exact ⟨0, _, p5, by omega, rfl, Lib.hid rfl, KA, R, K5, O, by have := K5.lt; omega, g0⟩
  case round =>
    clear KA R K5 O g0 c0 c1 c2 c3 c4 c5
    obtain ⟨k, c, pc, hk, rfl, hc, KA, R, K5, O, hsz, hg⟩ := hrel
    have hlt4 : decide ((k : Int) < (s.sq.length : Int)) = decide (k < 4) := by rw [hsq.out]; simp; omega
    by_cases hlt : k < 4
    · obtain ⟨y', ey, _, cy⟩ := (h.sq.kept hg) k (by have := hsq.out; omega)
      have hkl : k < s.sq.length := by have := hsq.out; omega
      simp only at ey
      injection ey with ey
      subst ey
      have cH := stm.implHeard a cap fs ps ((k : Int) + 1) (nth s.sq k) wr (hv.kept hg) (hF.kept hg) hfl hfv
      rw [show heard ((k : Int) + 1) (nth s.sq k) fs = hd s fs k from rfl] at cH
      cases hH : hd s fs k with
      | none =>
        rw [hH] at cH
        have hn := Lib.hid ((upto_skip hlt hH).trans hc.out)
        clear hH hlt4
        obtain ⟨⟨b0, b1, b2⟩, b3, b4, b5⟩ := six KA
        go_wp2_with fail
        refine cH.mono ?_
        rintro e w4 ⟨g4, rfl⟩
        go_wp2_with fail
        go_roundw
        case rel =>
          exact ⟨k + 1, c, pc, by omega, by go_num, hn, (KA.grown g4 (by simp)).alloc _, (R.grown g4 (by simp)).alloc _, (K5.grown g4 (by simp)).alloc _, (O.kept g4).kept (World.grownBy_alloc _ _ _), Nat.le_trans hsz (gr_alloc g4 _).size, gr_alloc (gr_trans hg g4) _⟩
        case measure => simp [intOf]; omega
      | some F =>
        obtain ⟨kk, q4, vs⟩ := F
        have hkk := (hd_ok hH).2
        have hvl := hd_len hH
        have hn := (upto_tell hlt hH)
        rw [hc.out] at hn
        replace hn := Lib.hid hn
        rw [hH] at cH
        simp only at hkk hvl
        subst hkk
        have hls := (len_upto s fs k).2.2.2
        rw [hc.out] at hls
        clear hH hlt4
        obtain ⟨⟨b0, b1, b2⟩, b3, b4, b5⟩ := six KA
        go_wp2_with fail
        refine cH.mono ?_
        rintro e w4 ⟨g4, a5, cap5, rfl, own4⟩
        have hvI := own4.ints
        have l8 : w4.heap.size ≠ z5 := by have := (K5.grown g4 (by simp)).lt; omega
        have K8 := Has.fresh w4 62 #[.int .i64 ((k : Int) + 1), .int .i64 q4, .slice a5 vs.length cap5]
        have ga := gr_alloc g4 (Obj.cells #[.int .i64 ((k : Int) + 1), .int .i64 q4, .slice a5 vs.length cap5] 62)
        replace KA := KA.grown ga (by simp)
        replace R := R.grown ga (by simp)
        replace K5 := K5.grown ga (by simp)
        replace O := O.kept ga
        replace hg := gr_trans hg ga
        replace hsz := Nat.le_trans hsz ga.size
        replace hvI : Ints (w4.alloc (Obj.cells #[.int .i64 ((k : Int) + 1), .int .i64 q4, .slice a5 vs.length cap5] 62)) a5 vs := hvI.kept (World.grownBy_alloc _ _ _)
        have n8 : w4.heap.size ≠ z5 := l8
        clear b0 b1 b2 b3 b4 b5 cH own4 g4 ga
        go_wp2_with fail
        generalize w4.heap.size = z8 at *
        generalize w4.alloc (Obj.cells #[.int .i64 ((k : Int) + 1), .int .i64 q4, .slice a5 vs.length cap5] 62) = w5 at *
        refine iv.region_inv 5 (fun i => i + 33) (LeftF z0 s c pc ⟨a1, j1, a2, j2, a3, j3, some y, j4⟩ k q4 a5 cap5 vs) (by kernel_rfl) (by kernel_rfl) (by kernel_rfl) (by decide) (by kernel_rfl) (by kernel_rfl) (fun i j _ _ e => by simpa using e) (fun i hi => by simp; omega) LeftF.stab ?_ ?_
        · intro i o a W hi ho2 hgW hsz2 hdf hold hdeps
          obtain ⟨⟨tl⟩, df⟩ := a
          obtain ⟨x0, x1, x2, x3, x4, x5, x6, x7, x8, x9, x10, x11, x12, x13, x14, x15, x16, x17, x18, x19, x20, x21, x22, x23, x24, x25, x26, x27, x28, x29, x30, x31, x32, x33, x34, x35, x36, x37, x38, x39, x40, x41, x42, x43, x44, x45, rfl⟩ := lit46 tl (by simpa using hsz2)
          have ed : df = [] := by simpa using hdf
          subst ed
          have e := hold 2 (fun j _ => by omega)
          simp at e
          subst e
          have e := hold 5 (fun j _ => by omega)
          simp at e
          subst e
          have e := hold 8 (fun j _ => by omega)
          simp at e
          subst e
          clear hold hdf
          rcases (show i = 0 ∨ i = 1 ∨ i = 2 ∨ i = 3 ∨ i = 4 by omega) with rfl | rfl | rfl | rfl | rfl
          all_goals simp at ho2
          all_goals subst ho2
          all_goals simp [Region.binds, LeftF] at hdeps
          · obtain ⟨⟨b0, b1, b2⟩, b3, b4, b5⟩ := six (K5.grown hgW (by simp))
            go_wp2_with fail
            exact ⟨gr_refl _ _, rfl⟩
          · obtain ⟨⟨b0, b1, b2⟩, b3, b4, b5⟩ := six (KA.grown hgW (by simp))
            go_wp2_with fail
            exact ⟨gr_refl _ _, rfl⟩
          · obtain ⟨b0, b1, b2, _, _, _⟩ := frm.three (K8.grown hgW (by simp))
            go_wp2_with fail
            exact ⟨gr_refl _ _, rfl⟩
          · subst hdeps
            go_wp2_with fail
            refine (shape_call hlt q4 a5 cap5 vs _ (hvI.kept hgW) hvl).mono ?_
            rintro e w6 ⟨rfl, r⟩
            go_wp2_with fail
            exact rfl
          · obtain ⟨rfl, rfl, rfl⟩ := hdeps
            go_wp2_with fail
            refine (told_call hlt z0 s c pc ⟨a1, j1, a2, j2, a3, j3, some y, j4⟩ a5 cap5 vs n f q _ ho ((h.kept hg).kept hgW) (hvI.kept hgW) hvl ((he.kept hg).kept hgW) ((ht.kept hg).kept hgW) ((hr.kept hg).kept hgW) (O.kept hgW) (Nat.le_trans hsz hgW.size)).mono ?_
            rintro e w6 ⟨v, rfl, r, hT⟩
            go_wp2_with fail
            exact hT
        · intro o W hgW hsz2 hdf hold hnew
          obtain ⟨⟨tl⟩, df⟩ := o
          obtain ⟨x0, x1, x2, x3, x4, x5, x6, x7, x8, x9, x10, x11, x12, x13, x14, x15, x16, x17, x18, x19, x20, x21, x22, x23, x24, x25, x26, x27, x28, x29, x30, x31, x32, x33, x34, x35, x36, x37, x38, x39, x40, x41, x42, x43, x44, x45, rfl⟩ := lit46 tl (by simpa using hsz2)
          have ed : df = [] := by simpa using hdf
          subst ed
          obtain ⟨v, e, ⟨b1, m1, b2, m2, b3, m3, b4, m4⟩, ev, O6⟩ := hnew 4 (by omega)
          simp at e
          subst e
          subst ev
          clear hnew
          have e := hold 0 (fun j _ => by omega)
          simp at e
          subst e
          have e := hold 1 (fun j _ => by omega)
          simp at e
          subst e
          have e := hold 2 (fun j _ => by omega)
          simp at e
          subst e
          have e := hold 3 (fun j _ => by omega)
          simp at e
          subst e
          have e := hold 4 (fun j _ => by omega)
          simp at e
          subst e
          have e := hold 5 (fun j _ => by omega)
          simp at e
          subst e
          have e := hold 6 (fun j _ => by omega)
          simp at e
          subst e
          have e := hold 7 (fun j _ => by omega)
          simp at e
          subst e
          have e := hold 8 (fun j _ => by omega)
          simp at e
          subst e
          have e := hold 9 (fun j _ => by omega)
          simp at e
          subst e
          have e := hold 10 (fun j _ => by omega)
          simp at e
          subst e
          have e := hold 11 (fun j _ => by omega)
          simp at e
          subst e
          have e := hold 12 (fun j _ => by omega)
          simp at e
          subst e
          have e := hold 13 (fun j _ => by omega)
          simp at e
          subst e
          have e := hold 14 (fun j _ => by omega)
          simp at e
          subst e
          have e := hold 15 (fun j _ => by omega)
          simp at e
          subst e
          have e := hold 16 (fun j _ => by omega)
          simp at e
          subst e
          have e := hold 17 (fun j _ => by omega)
          simp at e
          subst e
          have e := hold 18 (fun j _ => by omega)
          simp at e
          subst e
          have e := hold 19 (fun j _ => by omega)
          simp at e
          subst e
          have e := hold 20 (fun j _ => by omega)
          simp at e
          subst e
          have e := hold 21 (fun j _ => by omega)
          simp at e
          subst e
          have e := hold 22 (fun j _ => by omega)
          simp at e
          subst e
          have e := hold 23 (fun j _ => by omega)
          simp at e
          subst e
          have e := hold 24 (fun j _ => by omega)
          simp at e
          subst e
          have e := hold 25 (fun j _ => by omega)
          simp at e
          subst e
          have e := hold 26 (fun j _ => by omega)
          simp at e
          subst e
          have e := hold 27 (fun j _ => by omega)
          simp at e
          subst e
          have e := hold 28 (fun j _ => by omega)
          simp at e
          subst e
          have e := hold 29 (fun j _ => by omega)
          simp at e
          subst e
          have e := hold 30 (fun j _ => by omega)
          simp at e
          subst e
          have e := hold 31 (fun j _ => by omega)
          simp at e
          subst e
          have e := hold 32 (fun j _ => by omega)
          simp at e
          subst e
          have e := hold 38 (fun j _ => by omega)
          simp at e
          subst e
          have e := hold 39 (fun j _ => by omega)
          simp at e
          subst e
          have e := hold 40 (fun j _ => by omega)
          simp at e
          subst e
          have e := hold 41 (fun j _ => by omega)
          simp at e
          subst e
          have e := hold 42 (fun j _ => by omega)
          simp at e
          subst e
          have e := hold 43 (fun j _ => by omega)
          simp at e
          subst e
          have e := hold 44 (fun j _ => by omega)
          simp at e
          subst e
          have e := hold 45 (fun j _ => by omega)
          simp at e
          subst e
          clear hold hdf hsz2
          have hls6 : k < (toldS s c k vs).sq.length := by rw [toldS_sq, hls]; exact hlt
          have K6 := K5.grown hgW (by simp)
          have KA6 := KA.grown hgW (by simp)
          have R6 := R.grown hgW (by simp)
          have K86 := K8.grown hgW (by simp)
          replace hg := gr_trans hg hgW
          obtain ⟨gq, oq, eq4, lq, zq, cq, fq, bq, _⟩ := O6.seq hls6 q4
          simp only at eq4
          subst eq4
          have O7 := O6.boxed K6 (.slice b1 s.sp.length m1) (.slice b2 s.he.length m2) (.slice b3 s.fa.length m3) (.int .i64 (toldS s c k vs).wn) (.bool (toldS s c k vs).ar) (.slice (some ⟨gq, oq, none⟩) s.sq.length m4)
          have K7 := set6 K6 (.slice b1 s.sp.length m1) (.slice b2 s.he.length m2) (.slice b3 s.fa.length m3) (.int .i64 (toldS s c k vs).wn) (.bool (toldS s c k vs).ar) (.slice (some ⟨gq, oq, none⟩) s.sq.length m4)
          have nA : w.heap.size ≠ z5 := by omega
          have nR : w.heap.size + 1 ≠ z5 := by omega
          have KA7 := past6 nA KA6 (.slice b1 s.sp.length m1) (.slice b2 s.he.length m2) (.slice b3 s.fa.length m3) (.int .i64 (toldS s c k vs).wn) (.bool (toldS s c k vs).ar) (.slice (some ⟨gq, oq, none⟩) s.sq.length m4)
          have R7 := past6 nR R6 (.slice b1 s.sp.length m1) (.slice b2 s.he.length m2) (.slice b3 s.fa.length m3) (.int .i64 (toldS s c k vs).wn) (.bool (toldS s c k vs).ar) (.slice (some ⟨gq, oq, none⟩) s.sq.length m4)
          have K87 := past6 n8 K86 (.slice b1 s.sp.length m1) (.slice b2 s.he.length m2) (.slice b3 s.fa.length m3) (.int .i64 (toldS s c k vs).wn) (.bool (toldS s c k vs).ar) (.slice (some ⟨gq, oq, none⟩) s.sq.length m4)
          have G7 := gr6 hg (show w.heap.size ≤ z5 by omega) (.slice b1 s.sp.length m1) (.slice b2 s.he.length m2) (.slice b3 s.fa.length m3) (.int .i64 (toldS s c k vs).wn) (.bool (toldS s c k vs).ar) (.slice (some ⟨gq, oq, none⟩) s.sq.length m4)
          obtain ⟨gq', oq', eq5, lq7, zq7, cq7, fq7, bq7, O8⟩ := O7.seq hls6 q4
          simp only [Option.some.injEq, Addr.mk.injEq, and_true] at eq5
          obtain ⟨e1, e2⟩ := eq5
          subst e1 e2
          have dA := O7.nbox KA7 (by decide) (by decide) _ bq7
          have dR := O7.nbox R7 (by decide) (by decide) _ bq7
          have d5 := O7.nbox K7 (by decide) (by decide) _ bq7
          obtain ⟨⟨f0, f1, f2⟩, f3, f4, f5⟩ := free6 K6
          obtain ⟨⟨i0, i1, i2⟩, i3, i4, i5⟩ := six K6
          obtain ⟨⟨p0, p1, p2⟩, p3, p4, p5'⟩ := six K7
          obtain ⟨r0, r1, r2, _, _, _⟩ := frm.three K87
          have lW : z0 ≤ W.heap.size := Nat.le_trans hsz hgW.size
          simp only [List.drop_succ_cons, List.drop_zero]
          go_wp2_with fail
          go_roundw
          case rel => exact ⟨k + 1, withSeq (toldS s c k vs) k q4, ⟨b1, m1, b2, m2, b3, m3, some ⟨gq, oq, none⟩, m4⟩, by omega, by go_num, hn, KA7.set_other (Ne.symm dA) _ _, R7.set_other (Ne.symm dR) _ _, K7.set_other (Ne.symm d5) _ _, O8, by simpa using lW, gr_new G7 (by omega) _ _⟩
          case measure => simp [intOf]; omega
    · obtain rfl : k = 4 := by omega
      have hl := len_upto s fs 4
      rw [hc.out] at hl ⊢
      have hx : decide ((4 : Int) < (s.sq.length : Int)) = false := by rw [hsq.out]; rfl
      have hx' : ¬ (4 : Int) < (s.sq.length : Int) := by rw [hsq.out]; decide
      obtain ⟨⟨b0, b1, b2⟩, b3, b4, b5⟩ := six K5
      obtain ⟨⟨d0, d1, d2⟩, d3, d4, d5⟩ := six R
      obtain ⟨⟨e0, e1, e2⟩, e3, e4, e5⟩ := free6 R
      have HL := Lib.hid hl
      clear hl hlt4
      go_wp2_with fail
      have Q := O.boxed R (.slice pc.a1 s.sp.length pc.c1) (.slice pc.a2 s.he.length pc.c2) (.slice pc.a3 s.fa.length pc.c3) (.int .i64 c.wn) (.bool c.ar) (.slice pc.a4 s.sq.length pc.c4)
      have G := gr6 hg (show w.heap.size ≤ w.heap.size + 1 by omega) (.slice pc.a1 s.sp.length pc.c1) (.slice pc.a2 s.he.length pc.c2) (.slice pc.a3 s.fa.length pc.c3) (.int .i64 c.wn) (.bool c.ar) (.slice pc.a4 s.sq.length pc.c4)
      obtain ⟨⟨t0, t1, t2⟩, t3, t4, t5⟩ := six (set6 R (.slice pc.a1 s.sp.length pc.c1) (.slice pc.a2 s.he.length pc.c2) (.slice pc.a3 s.fa.length pc.c3) (.int .i64 c.wn) (.bool c.ar) (.slice pc.a4 s.sq.length pc.c4))
      refine bodyPost_ret (v := sval s c pc) (by simp [results, Tryz.results8, go_sem, t0, t1, t2, t3, t4, t5]) rfl ⟨pc, ?_, G, by rw [hc.out]; exact Q.below (show w.heap.size ≤ z0 by omega)⟩
      obtain ⟨h1, h2, h3, h4⟩ := HL.out
      rw [hc.out]
      show Ending.returned (.agg #[.slice _ s.sp.length _, .slice _ s.he.length _, .slice _ s.fa.length _, _, _, .slice _ s.sq.length _]) = Ending.returned (.agg #[.slice _ c.sp.length _, .slice _ c.he.length _, .slice _ c.fa.length _, _, _, .slice _ c.sq.length _])
      rw [h1, h2, h3, h4, hsq.out]

set_option maxRecDepth 100000 in
set_option maxHeartbeats 1000000 in
theorem implFed_no (s : S) (p : P) (a : Option Addr) (n cap : Nat) (w : World) (h : Arg w s p) (hb : Bd s 1048576) (ho : ok s = false) (hv : Vals w) : Calls Tryz.prog 8 #[sv s p, .slice a n cap] w (RetS zS w) := by
  have KA := (Has.fresh w 27 (cs6 s p)).alloc (Obj.cells #[.slice none 0 0, .slice none 0 0, .slice none 0 0, .int .i64 0, .bool false, .slice none 0 0] 27)
  have R := Has.fresh (w.alloc (Obj.cells (cs6 s p) 27)) 27 #[.slice none 0 0, .slice none 0 0, .slice none 0 0, .int .i64 0, .bool false, .slice none 0 0]
  have g0 := gr_alloc (World.grownBy_alloc w (Obj.cells (cs6 s p) 27) none) (Obj.cells #[.slice none 0 0, .slice none 0 0, .slice none 0 0, .int .i64 0, .bool false, .slice none 0 0] 27)
  simp only [World.size_alloc] at R
  have cO := fun W (k : Arg W s p) (k2 : Vals W) => implSensesOk s p W k hb k2
  rw [ho] at cO
  obtain ⟨⟨c0, c1, c2⟩, c3, c4, c5⟩ := six KA
  go_enter Tryz.func8, Tryz.ntmps8
  go_wp2_with fail
  refine (cO _ (h.kept g0) (hv.kept g0)).mono ?_
  rintro e w1 ⟨rfl, r⟩
  replace R := R.grown r (by simp)
  replace g0 := gr_trans g0 r
  obtain ⟨⟨d0, d1, d2⟩, d3, d4, d5⟩ := six R
  obtain ⟨⟨e0, e1, e2⟩, e3, e4, e5⟩ := free6 R
  clear c0 c1 c2 c3 c4 c5 KA
  go_wp2_with fail
  obtain ⟨⟨t0, t1, t2⟩, t3, t4, t5⟩ := six (set6 R (.slice none 0 0) (.slice none 0 0) (.slice none 0 0) (.int .i64 0) (.bool false) (.slice none 0 0))
  have G := gr6 g0 (show w.heap.size ≤ w.heap.size + 1 by omega) (.slice none 0 0) (.slice none 0 0) (.slice none 0 0) (.int .i64 0) (.bool false) (.slice none 0 0)
  have Q := (own_zero ((((((w1.setCell ⟨w.heap.size + 1, 0, none⟩ (.slice none 0 0)).setCell ⟨w.heap.size + 1, 1, none⟩ (.slice none 0 0)).setCell ⟨w.heap.size + 1, 2, none⟩ (.slice none 0 0)).setCell ⟨w.heap.size + 1, 3, none⟩ (.int .i64 0)).setCell ⟨w.heap.size + 1, 4, none⟩ (.bool false)).setCell ⟨w.heap.size + 1, 5, none⟩ (.slice none 0 0))).below (show w.heap.size ≤ _ from G.size)
  exact bodyPost_ret (v := .agg #[.slice none 0 0, .slice none 0 0, .slice none 0 0, .int .i64 0, .bool false, .slice none 0 0]) (by simp [results, Tryz.results8, go_sem, t0, t1, t2, t3, t4, t5]) rfl ⟨zP, rfl, G, Q⟩
theorem implFed (s : S) (p : P) (a : Option Addr) (cap : Nat) (fs : List Fr) (ps : List Pl) (n f q : Addr) (w : World) (h : Arg w s p) (hb : Bd s 1048576) (hF : Frs w a fs ps) (hfl : fs.length ≤ 1048576) (hfv : ∀ k, k < fs.length → (fv fs k).length ≤ 1048576)
    (hv : Vals w) (he : sane.ErrB w n f q) (ht : sane.ErrT w) (hr : Rgs w) : Calls Tryz.prog 8 #[sv s p, .slice a fs.length cap] w (RetS (fed s fs) w) := by
  cases ho : ok s
  · rw [fed_no ho]; exact implFed_no s p a fs.length cap w h hb ho hv
  · rw [fed_ok ho]; exact implFed_ok s p a cap fs ps n f q w h (ok_iff.1 ho) hF hfl hfv hv he ht hr
end Go.Proofs.YtjbgcgblamijdaaGreatDoor.se

/- Senses copied by the model: l15Copy. -/
namespace Go.Proofs.YtjbgcgblamijdaaGreatDoor.se
open Go.ChangeShapes Go.WideShapes Go.ChangeAt Go.RowKit
open Go.Proofs.YtjbgcgblamijdaaGreatDoor.nums Go.Proofs.YtjbgcgblamijdaaGreatDoor.mem
open Go.Proofs.YtjbgcgblamijdaaGreatDoor.tab (Ret add_off)
open Go.Proofs.YtjbgcgblamijdaaGreatDoor.rd (R okR ageR zR rx ra ro OwnR rowR rowR_at arg_of_row add0 infoReading)
open Go.Proofs.YtjbgcgblamijdaaGreatDoor.il (nth Ints Own)
set_option linter.unusedVariables false

theorem rowR_one : ∀ (l : List R), ∀ u ∈ rowR l, u.oneCell' = true := by
  intro l
  induction l with
  | nil => intro u h; cases h
  | cons x l ih =>
    intro u h
    simp only [rowR, List.mem_cons] at h
    rcases h with rfl | rfl | rfl | h
    · rfl
    · rfl
    · rfl
    · exact ih u h
theorem rowR_len : ∀ (l : List R), (rowR l).length = l.length * 3 := by
  intro l
  induction l with
  | nil => rfl
  | cons x l ih => simp only [rowR, List.length_cons, ih]; omega
theorem news_of_arg {w : World} {x : Addr} {l : List R} (h : rd.Arg w (some x) l) : ∀ j u, (rowR l)[j]? = some u → w.cell? (x.add j) = some u := by
  intro j u hu
  have hj : j < l.length * 3 := by rw [← rowR_len]; exact (List.getElem?_eq_some_iff.1 hu).1
  obtain ⟨k, r, hr, rfl⟩ : ∃ k r, r < 3 ∧ j = k * 3 + r := ⟨j / 3, j % 3, by omega, by omega⟩
  have hk : k < l.length := by omega
  obtain ⟨y, e, _, c0, c1, c2⟩ := h k hk
  injection e with e
  subst e
  obtain ⟨r0, r1, r2⟩ := rowR_at l k hk
  rcases (show r = 0 ∨ r = 1 ∨ r = 2 by omega) with rfl | rfl | rfl
  · rw [Nat.add_zero] at hu ⊢; rw [r0] at hu; injection hu with hu; subst hu; exact c0
  · rw [r1] at hu; injection hu with hu; subst hu; rw [show k * 3 + 1 = k * 3 + (0 + 1) by omega, add_off]; exact c1
  · rw [r2] at hu; injection hu with hu; subst hu; rw [show k * 3 + 2 = k * 3 + (1 + 1) by omega, add_off]; exact c2
theorem own_of_row {w : World} {base cap g : Nat} {l : List R} (h : w.ownsRow base 42 3 (.slice (some ⟨g, 0, none⟩) l.length cap) l.length (rowR l)) : OwnR w (some ⟨g, 0, none⟩) l := by
  rcases h.2 with ⟨h0, _⟩ | ⟨g', cap', cur, hv, _, hc, _⟩
  · cases h0
  · injection hv with hv1 hv2 hv3
    injection hv1 with hv1
    injection hv1 with hv1 _ _
    subst hv1
    refine Or.inr ⟨g, cur, rfl, hc, fun k hk => ?_⟩
    obtain ⟨x, e, _, c0, c1, c2⟩ := arg_of_row h k hk
    injection e with e
    subst e
    rw [add0] at c0 c1 c2
    exact ⟨(Has.cell hc _).symm.trans c0, (Has.cell hc _).symm.trans c1, (Has.cell hc _).symm.trans c2⟩
/-- A list laid behind an empty one in a new block. -/
theorem app_copy {ops : Array Oper} {rest : List Oper} {o : Oper} {a : Act} {Q : Exit → Act → World → Prop} (hgd : o.guard = none) (s x : Operand)
    (ho : o.op = .call { callee := .builtin .append, args := #[s, x], argTypes := #[24, 24] }) (w0 : World) (g : Nat) (hg : w0.heap.size = g) (hs : a.eval s = .slice (some ⟨g, 0, none⟩) 0 0)
    (b : Option Addr) (cap : Nat) (l : List R) (hx : a.eval x = .slice b l.length cap) (h : rd.Arg w0 b l) (h0 : 0 < l.length) (hl : l.length ≤ 1048576)
    (H : ∀ g' cap' w', w0.grownBy w' none → OwnR w' (some ⟨g', 0, none⟩) l → w0.heap.size ≤ g' → g' < w'.heap.size → wpList Tryz.prog ops Q rest (a.put o.dst (.slice (some ⟨g', 0, none⟩) l.length cap')) w') :
    wpList Tryz.prog ops Q (o :: rest) a (w0.alloc (Obj.cells #[] 42)) := by
  subst hg
  obtain ⟨i0, hi, hz0, hz1, hz2⟩ := info_parts infoReading
  obtain ⟨ad, e, _⟩ := h 0 h0
  subst e
  have g0 : w0.grownBy (w0.alloc (Obj.cells #[] 42)) none := World.grownBy_alloc _ _ _
  have o0 := World.ownsRow_made (base := w0.heap.size) (e := 42) (size := 3) w0 #[] 0 (Nat.le_refl _) (Nat.zero_le _) rfl
  refine wpList_append_lies _ hgd s x _ ho w0.heap.size 42 i0 _ 3 24 Tryz.underlying24 hi hz0 hz1 hz2 rfl (by omega) _ 0 [] hs o0 ad l.length cap (rowR l) hx (rowR_len l) (news_of_arg (h.kept g0)) (rowR_one l) h0 (by unfold maxLen; omega) (by omega) (by simp) (w0.heap.size + 1) (by simp) ?_
  intro gg cap1 w1 hown hgrow hat hlt
  simp only [Nat.zero_add, List.nil_append] at hown ⊢
  exact H gg cap1 w1 (gr_past g0 hgrow (Nat.le_refl _)) (own_of_row hown) (by
    rcases hat with hat | hat
    · simp [Value.ownBlock] at hat; omega
    · omega) hlt

set_option maxRecDepth 100000 in
set_option maxHeartbeats 2000000 in
theorem specCopyL (sp he fa : List R) (wn : Int) (ar : Bool) (sq : List Int) (a1 a2 a3 a4 : Option Addr) (c1 c2 c3 c4 : Nat) (w : World) (h1 : rd.Arg w a1 sp) (h2 : rd.Arg w a2 he) (h3 : rd.Arg w a3 fa) (h4 : Ints w a4 sq)
    (p1 : 0 < sp.length) (p2 : 0 < he.length) (p3 : 0 < fa.length) (n1 : sp.length ≤ 1048576) (n2 : he.length ≤ 1048576) (n3 : fa.length ≤ 1048576) (n4 : sq.length ≤ 100) (z4 : sq ≠ []) :
    Calls Tryz.prog 49 #[sv ⟨sp, he, fa, wn, ar, sq⟩ ⟨a1, c1, a2, c2, a3, c3, a4, c4⟩] w (RetS ⟨sp, he, fa, wn, ar, sq⟩ w) := by
  have K : Has ((w.alloc (Obj.cells #[.slice a1 sp.length c1, .slice a2 he.length c2, .slice a3 fa.length c3, .int .i64 wn, .bool ar, .slice a4 sq.length c4] 27)).alloc (Obj.cells #[.slice none 0 0, .slice none 0 0, .slice none 0 0, .int .i64 0, .bool false, .slice none 0 0] 27)) w.heap.size 27 #[.slice a1 sp.length c1, .slice a2 he.length c2, .slice a3 fa.length c3, .int .i64 wn, .bool ar, .slice a4 sq.length c4] := (Has.fresh w _ _).alloc _
  have R := Has.fresh (w.alloc (Obj.cells #[.slice a1 sp.length c1, .slice a2 he.length c2, .slice a3 fa.length c3, .int .i64 wn, .bool ar, .slice a4 sq.length c4] 27)) 27 #[.slice none 0 0, .slice none 0 0, .slice none 0 0, .int .i64 0, .bool false, .slice none 0 0]
  have G := gr_alloc (World.grownBy_alloc w (Obj.cells #[.slice a1 sp.length c1, .slice a2 he.length c2, .slice a3 fa.length c3, .int .i64 wn, .bool ar, .slice a4 sq.length c4] 27) none) (Obj.cells #[.slice none 0 0, .slice none 0 0, .slice none 0 0, .int .i64 0, .bool false, .slice none 0 0] 27)
  simp only [World.size_alloc] at R
  have nz' : w.heap.size + 1 ≠ w.heap.size := by omega
  obtain ⟨⟨c_0, c_1, c_2⟩, c_3, c_4, c_5⟩ := six K
  obtain ⟨⟨f0, f1, f2⟩, f3, f4, f5⟩ := free6 K
  go_enter Tryz.func49, Tryz.ntmps49
  go_upto_region 1 with fail
  have hsW : w.heap.size + 1 < ((w.alloc (Obj.cells #[.slice a1 sp.length c1, .slice a2 he.length c2, .slice a3 fa.length c3, .int .i64 wn, .bool ar, .slice a4 sq.length c4] 27)).alloc (Obj.cells #[.slice none 0 0, .slice none 0 0, .slice none 0 0, .int .i64 0, .bool false, .slice none 0 0] 27)).heap.size := by simp
  generalize ((w.alloc (Obj.cells #[.slice a1 sp.length c1, .slice a2 he.length c2, .slice a3 fa.length c3, .int .i64 wn, .bool ar, .slice a4 sq.length c4] 27)).alloc (Obj.cells #[.slice none 0 0, .slice none 0 0, .slice none 0 0, .int .i64 0, .bool false, .slice none 0 0] 27)) = v0 at *
  obtain ⟨⟨x0, x1, x2⟩, _, _, _⟩ := six (K.alloc (Obj.cells #[] 42))
  go_upto_region 2 with (at_builtin; refine app_copy rfl _ _ rfl v0 _ rfl rfl a1 c1 sp rfl (h1.kept G) p1 n1 ?_; intro g1 k1 u1 r1 o1 b1 l1; clear c_0 c_1 c_2 c_3 c_4 c_5 f0 f1 f2 f3 f4 f5 x0 x1 x2; replace K := K.grown r1 (by simp); obtain ⟨⟨c_0, c_1, c_2⟩, c_3, c_4, c_5⟩ := six K; obtain ⟨⟨f0, f1, f2⟩, f3, f4, f5⟩ := free6 K)
  have t1 := gr_set (gr_refl u1 (some w.heap.size)) 0 (.slice (some ⟨g1, 0, none⟩) sp.length k1)
  replace G := gr_new (gr_trans G r1) (Nat.le_refl w.heap.size) 0 (.slice (some ⟨g1, 0, none⟩) sp.length k1)
  replace K := K.put 0 (.slice (some ⟨g1, 0, none⟩) sp.length k1) rfl
  replace R := (R.grown r1 (by simp)).set_other nz' 0 (.slice (some ⟨g1, 0, none⟩) sp.length k1)
  replace o1 := o1.grown t1 (fun x e => by cases e; simp; omega)
  replace l1 : g1 < (u1.setCell ⟨w.heap.size, 0, none⟩ (.slice (some ⟨g1, 0, none⟩) sp.length k1)).heap.size := by simpa using l1
  have s1 : v0.heap.size ≤ (u1.setCell ⟨w.heap.size, 0, none⟩ (.slice (some ⟨g1, 0, none⟩) sp.length k1)).heap.size := by simpa using r1.size
  clear c_0 c_1 c_2 c_3 c_4 c_5 f0 f1 f2 f3 f4 f5 t1 r1
  generalize u1.setCell ⟨w.heap.size, 0, none⟩ (.slice (some ⟨g1, 0, none⟩) sp.length k1) = v1 at *
  obtain ⟨⟨c_0, c_1, c_2⟩, c_3, c_4, c_5⟩ := six K
  obtain ⟨⟨f0, f1, f2⟩, f3, f4, f5⟩ := free6 K
  obtain ⟨⟨x0, x1, x2⟩, _, _, _⟩ := six (K.alloc (Obj.cells #[] 42))
  go_upto_region 3 with (at_builtin; refine app_copy rfl _ _ rfl v1 _ rfl rfl a2 c2 he rfl (h2.kept G) p2 n2 ?_; intro g2 k2 u2 r2 o2 b2 l2; clear c_0 c_1 c_2 c_3 c_4 c_5 f0 f1 f2 f3 f4 f5 x0 x1 x2; replace K := K.grown r2 (by simp); obtain ⟨⟨c_0, c_1, c_2⟩, c_3, c_4, c_5⟩ := six K; obtain ⟨⟨f0, f1, f2⟩, f3, f4, f5⟩ := free6 K)
  have t2 := gr_set (gr_refl u2 (some w.heap.size)) 1 (.slice (some ⟨g2, 0, none⟩) he.length k2)
  replace G := gr_new (gr_trans G r2) (Nat.le_refl w.heap.size) 1 (.slice (some ⟨g2, 0, none⟩) he.length k2)
  replace K := K.put 1 (.slice (some ⟨g2, 0, none⟩) he.length k2) rfl
  replace R := (R.grown r2 (by simp)).set_other nz' 1 (.slice (some ⟨g2, 0, none⟩) he.length k2)
  replace o2 := o2.grown t2 (fun x e => by cases e; simp; omega)
  replace o1 := (o1.kept r2).grown t2 (fun x e => by cases e; simp; omega)
  replace l2 : g2 < (u2.setCell ⟨w.heap.size, 1, none⟩ (.slice (some ⟨g2, 0, none⟩) he.length k2)).heap.size := by simpa using l2
  have s2 : v1.heap.size ≤ (u2.setCell ⟨w.heap.size, 1, none⟩ (.slice (some ⟨g2, 0, none⟩) he.length k2)).heap.size := by simpa using r2.size
  clear c_0 c_1 c_2 c_3 c_4 c_5 f0 f1 f2 f3 f4 f5 t2 r2
  generalize u2.setCell ⟨w.heap.size, 1, none⟩ (.slice (some ⟨g2, 0, none⟩) he.length k2) = v2 at *
  obtain ⟨⟨c_0, c_1, c_2⟩, c_3, c_4, c_5⟩ := six K
  obtain ⟨⟨f0, f1, f2⟩, f3, f4, f5⟩ := free6 K
  obtain ⟨⟨x0, x1, x2⟩, _, _, _⟩ := six (K.alloc (Obj.cells #[] 42))
  go_upto_region 4 with (at_builtin; refine app_copy rfl _ _ rfl v2 _ rfl rfl a3 c3 fa rfl (h3.kept G) p3 n3 ?_; intro g3 k3 u3 r3 o3 b3 l3; clear c_0 c_1 c_2 c_3 c_4 c_5 f0 f1 f2 f3 f4 f5 x0 x1 x2; replace K := K.grown r3 (by simp); obtain ⟨⟨c_0, c_1, c_2⟩, c_3, c_4, c_5⟩ := six K; obtain ⟨⟨f0, f1, f2⟩, f3, f4, f5⟩ := free6 K)
  have t3 := gr_set (gr_refl u3 (some w.heap.size)) 2 (.slice (some ⟨g3, 0, none⟩) fa.length k3)
  replace G := gr_new (gr_trans G r3) (Nat.le_refl w.heap.size) 2 (.slice (some ⟨g3, 0, none⟩) fa.length k3)
  replace K := K.put 2 (.slice (some ⟨g3, 0, none⟩) fa.length k3) rfl
  replace R := (R.grown r3 (by simp)).set_other nz' 2 (.slice (some ⟨g3, 0, none⟩) fa.length k3)
  replace o3 := o3.grown t3 (fun x e => by cases e; simp; omega)
  replace o1 := (o1.kept r3).grown t3 (fun x e => by cases e; simp; omega)
  replace o2 := (o2.kept r3).grown t3 (fun x e => by cases e; simp; omega)
  replace l3 : g3 < (u3.setCell ⟨w.heap.size, 2, none⟩ (.slice (some ⟨g3, 0, none⟩) fa.length k3)).heap.size := by simpa using l3
  have s3 : v2.heap.size ≤ (u3.setCell ⟨w.heap.size, 2, none⟩ (.slice (some ⟨g3, 0, none⟩) fa.length k3)).heap.size := by simpa using r3.size
  clear c_0 c_1 c_2 c_3 c_4 c_5 f0 f1 f2 f3 f4 f5 t3 r3
  generalize u3.setCell ⟨w.heap.size, 2, none⟩ (.slice (some ⟨g3, 0, none⟩) fa.length k3) = v3 at *
  obtain ⟨⟨c_0, c_1, c_2⟩, c_3, c_4, c_5⟩ := six K
  obtain ⟨⟨f0, f1, f2⟩, f3, f4, f5⟩ := free6 K
  go_wp2_with fail
  refine (stm.specCopy a4 c4 sq _ (h4.kept G) z4 n4).mono ?_
  rintro e w4 ⟨a5, k5, rfl, r4, q4'⟩
  obtain ⟨q4, b4⟩ := own_of_frm q4' z4
  replace G := gr_trans G r4
  replace K := K.grown r4 (by simp)
  replace R := R.grown r4 (by simp)
  replace o1 := o1.kept r4
  replace o2 := o2.kept r4
  replace o3 := o3.kept r4
  have lR := R.lt
  have s4 := r4.size
  clear c_0 c_1 c_2 c_3 c_4 c_5 f0 f1 f2 f3 f4 f5
  obtain ⟨⟨c_0, c_1, c_2⟩, c_3, c_4, c_5⟩ := six K
  obtain ⟨⟨f0, f1, f2⟩, f3, f4, f5⟩ := free6 K
  obtain ⟨⟨d0, d1, d2⟩, d3, d4, d5⟩ := six R
  obtain ⟨⟨e0, e1, e2⟩, e3, e4, e5⟩ := free6 R
  go_wp2_with fail
  have S1 := gr_set (gr_refl w4 (some w.heap.size)) 5 (.slice a5 sq.length k5)
  have O : OwnS v0.heap.size (w4.setCell ⟨w.heap.size, 5, none⟩ (.slice a5 sq.length k5)) ⟨sp, he, fa, wn, ar, sq⟩ ⟨some ⟨g1, 0, none⟩, k1, some ⟨g2, 0, none⟩, k2, some ⟨g3, 0, none⟩, k3, a5, k5⟩ :=
    ⟨o1.grown S1 (fun x e => by cases e; simp; omega), o2.grown S1 (fun x e => by cases e; simp; omega), o3.grown S1 (fun x e => by cases e; simp; omega), q4.grown S1 (fun x e => by have := b4 x e; simp; omega),
      (fun x e => by cases e; exact b1), (fun x e => by cases e; show v0.heap.size ≤ g2; omega), (fun x e => by cases e; show v0.heap.size ≤ g3; omega), (fun x e => by have := b4 x e; omega), (fun x y ex ey => by cases ex; cases ey; show g1 ≠ g2; omega), (fun x y ex ey => by cases ex; cases ey; show g1 ≠ g3; omega), (fun x y ex ey => by cases ex; cases ey; show g2 ≠ g3; omega)⟩
  have Q := O.set6 (w.heap.size + 1) hsW (.slice (some ⟨g1, 0, none⟩) sp.length k1) (.slice (some ⟨g2, 0, none⟩) he.length k2) (.slice (some ⟨g3, 0, none⟩) fa.length k3) (.int .i64 wn) (.bool ar) (.slice a5 sq.length k5)
  have GG := gr6 (gr_new G (Nat.le_refl w.heap.size) 5 (.slice a5 sq.length k5)) (show w.heap.size ≤ w.heap.size + 1 by omega) (.slice (some ⟨g1, 0, none⟩) sp.length k1) (.slice (some ⟨g2, 0, none⟩) he.length k2) (.slice (some ⟨g3, 0, none⟩) fa.length k3) (.int .i64 wn) (.bool ar) (.slice a5 sq.length k5)
  obtain ⟨⟨t0, t1, t2⟩, t3, t4, t5⟩ := six (set6 (R.set_other nz' 5 (.slice a5 sq.length k5)) (.slice (some ⟨g1, 0, none⟩) sp.length k1) (.slice (some ⟨g2, 0, none⟩) he.length k2) (.slice (some ⟨g3, 0, none⟩) fa.length k3) (.int .i64 wn) (.bool ar) (.slice a5 sq.length k5))
  exact bodyPost_ret (v := .agg #[.slice (some ⟨g1, 0, none⟩) sp.length k1, .slice (some ⟨g2, 0, none⟩) he.length k2, .slice (some ⟨g3, 0, none⟩) fa.length k3, .int .i64 wn, .bool ar, .slice a5 sq.length k5]) (by simp [results, Tryz.results49, go_sem, t0, t1, t2, t3, t4, t5]) rfl ⟨_, rfl, GG, Q.below (show w.heap.size ≤ v0.heap.size by omega)⟩
theorem specCopyS (s : S) (p : P) (w : World) (h : Arg w s p) (ho : Ok s) : Calls Tryz.prog 49 #[sv s p] w (RetS s w) :=
  specCopyL s.sp s.he s.fa s.wn s.ar s.sq p.a1 p.a2 p.a3 p.a4 p.c1 p.c2 p.c3 p.c4 w h.sp h.he h.fa h.sq (by rw [ho.sp3]; omega) (by rw [ho.he2]; omega) (by rw [ho.fa6]; omega) (by rw [ho.sp3]; omega) (by rw [ho.he2]; omega) (by rw [ho.fa6]; omega) (by rw [ho.sq4]; omega) (fun e => by have := ho.sq4; rw [e] at this; simp at this)
end Go.Proofs.YtjbgcgblamijdaaGreatDoor.se

