/- Senses where nothing is heard: aged, of the program. -/
import Derived.Test.YtdikhdfpcipdbaaGreatDoorSeTake
import Derived.Test.YtdikhdfpcipdbaaGreatDoorSeCopy
import Derived.Test.YtdikhdfpcipdbaaGreatDoorInvTail
namespace Go.Proofs.YtdikhdfpcipdbaaGreatDoor.se
open Go.ChangeShapes Go.WideShapes Go.ChangeAt Go.RowKit
open Go.Proofs.YtdikhdfpcipdbaaGreatDoor.nums Go.Proofs.YtdikhdfpcipdbaaGreatDoor.mem
open Go.Proofs.YtdikhdfpcipdbaaGreatDoor.tab (Ret wpList_make_has)
open Go.Proofs.YtdikhdfpcipdbaaGreatDoor.rd (R okR ageR zR rx ra ro OwnR)
open Go.Proofs.YtdikhdfpcipdbaaGreatDoor.il (nth Ints Own)
set_option linter.unusedVariables false

theorem gr_drewA {a w : World} {row : Option Nat} (h : a.grownBy w row) : a.grownBy w.drew row := gr_drewN h 1
theorem own_of_frm {base : Nat} {w : World} {a : Option Addr} {vs : List Int} (h : frm.Own base w a vs) (h0 : vs ≠ []) : Own w a vs ∧ ∀ x, il.blk a vs = some x → base ≤ x := by
  obtain ⟨g, o, cs, ha, hb, hc, hj⟩ := h
  have e := ha h0
  subst e
  refine ⟨Or.inr ⟨g, o, cs, rfl, hc, hj⟩, fun x hx => ?_⟩
  rw [il.blk_some h0] at hx; injection hx with hx; omega
/-- A list comes back in a block of its own, of so many cells. -/
def RetM (l m : List R) (w : World) (e : Ending) (w' : World) : Prop := ∃ (g : Nat) (cs : Array Value) (cap : Nat), e = .returned (.slice (some ⟨g, 0, none⟩) l.length cap) ∧ w.grownBy w' none ∧ Has w' g 42 cs ∧ cs.size = l.length * 3 ∧ w.heap.size ≤ g ∧
  ∀ k, k < l.length → cs[k * 3]? = some (.int .i64 (rx m k)) ∧ cs[k * 3 + 1]? = some (.int .i64 (ra m k)) ∧ cs[k * 3 + 2]? = some (.bool (ro m k))
set_option maxRecDepth 100000 in
set_option maxHeartbeats 4000000 in
theorem aged_call (a : Option Addr) (cap : Nat) (l : List R) (w : World) (h : rd.Arg w a l) (hl : l.length ≤ 1048576) (hok0 : l.all okR = true) : Calls Tryz.prog 63 #[.slice a l.length cap] w (RetM l (l.map ageR) w) := by
  obtain ⟨i0, hi, hz0, hz1, hz2⟩ := info_parts rd.infoReading
  go_enter Tryz.func63, Tryz.ntmps63
  go_wp2_with (at_make; refine wpList_make_has _ rfl _ _ _ rfl 42 i0 _ 3 Tryz.underlying24 hi hz0 hz1 .i64 .i64 _ _ l.length rfl rfl rfl rfl (by rw [hz2]; omega) (by unfold maxLen; omega) ?_)
  have hA0 := Has.fresh w 42 (madeCells (Value.cells (.agg #[.int .i64 0, .int .i64 0, .bool false])) (l.length * 3))
  go_loopw [11] (fun i wr => ∃ (k : Nat) (A : Array Value), k ≤ l.length ∧ i = .int .i64 k ∧ Has wr w.heap.size 42 A ∧ Hid (A.size = l.length * 3) ∧ Hid (rd.Laid A (l.map ageR) k) ∧ Hid (∀ j, j < k → okR (rx l j, ra l j, ro l j) = true) ∧ w.grownBy wr none) (fun i _ => l.length - (intOf i).toNat)
  case atStart => exact ⟨0, _, Nat.zero_le _, rfl, hA0, Lib.hid (size_madeCells _ _), Lib.hid (fun j hj => by omega), Lib.hid (fun j hj => by omega), World.grownBy_alloc _ _ _⟩
  case round =>
    clear hA0
    obtain ⟨k, A, hk, rfl, hA, hs, hr, hok, hg⟩ := hrel
    by_cases hlt : k < l.length
    · obtain ⟨x, rfl, hb, cx, cy, cz⟩ := (h.kept hg) k hlt
      have hsz := hA.lt
      have hB := Has.fresh wr 42 #[.int .i64 (rx l k), .int .i64 (ra l k), .bool (ro l k)]
      replace hA := hA.alloc (Obj.cells #[.int .i64 (rx l k), .int .i64 (ra l k), .bool (ro l k)] 42)
      have hg0 := gr_alloc hg (Obj.cells #[.int .i64 (rx l k), .int .i64 (ra l k), .bool (ro l k)] 42)
      by_cases ho : okR (rx l k, ra l k, ro l k) = true
      · go_wp2_with fail
        refine (rd.implReadingOk _ _ _ _).mono ?_
        rintro e w1 ⟨rfl, hg1⟩
        replace hA := hA.grown hg1 (by simp)
        replace hB := hB.grown hg1 (by simp)
        replace hg0 := gr_trans hg0 hg1
        obtain ⟨c0, c1, c2, _, _, _⟩ := rd.three hB
        clear hg1
        go_wp2_with fail
        refine (rd.implAged _ _ _ _).mono ?_
        rintro e w2 ⟨rfl, hg2⟩
        rw [rd.aged_ok ho]
        have HO := Lib.hid ho
        clear ho
        replace hA := hA.grown hg2 (by simp)
        replace hg0 := gr_trans hg0 hg2
        obtain ⟨v0, e0⟩ : ∃ v, A[k * 3]? = some v := ⟨_, Array.getElem?_eq_getElem (by have := hs.out; omega)⟩
        obtain ⟨v1, e1⟩ : ∃ v, A[k * 3 + 1]? = some v := ⟨_, Array.getElem?_eq_getElem (by have := hs.out; omega)⟩
        obtain ⟨v2, e2⟩ : ∃ v, A[k * 3 + 2]? = some v := ⟨_, Array.getElem?_eq_getElem (by have := hs.out; omega)⟩
        have d0 := (hA.cell (k * 3)).trans e0
        have d1 := (hA.cell (k * 3 + 1)).trans e1
        have d2 := (hA.cell (k * 3 + 2)).trans e2
        have g0 := hA.frozen (k * 3)
        have g1 := hA.frozen (k * 3 + 1)
        have g2 := hA.frozen (k * 3 + 2)
        clear e0 e1 e2 c0 c1 c2 hB hg2 cx cy cz
        go_wp2_with fail
        go_roundw
        case rel => exact ⟨k + 1, _, by omega, by go_num, ((hA.set _ _).set _ _).set _ _, Lib.hid (by simpa using hs.out), Lib.hid (hr.out.next (r := (rx l k, min 1000 (ra l k + 1), ro l k)) (Nat.le_of_eq hs.out.symm) hlt (rd.map_age hlt)), Lib.hid (fun j hj => by
          by_cases e : j = k
          · subst e; exact HO.out
          · exact hok.out j (by omega)), gr_new (gr_new (gr_new hg0 (Nat.le_refl _) _ _) (Nat.le_refl _) _ _) (Nat.le_refl _) _ _⟩
        case measure => simp [intOf]; omega
      · exact absurd (rd.all_at hok0 hlt) ho
    · obtain rfl : k = l.length := by omega
      go_wp2_with fail
      go_ret
      exact ⟨w.heap.size, A, l.length, rfl, hg, hA, hs.out, Nat.le_refl _, fun j hj => hr.out j hj⟩

/-- What a call of AgedAll leaves: a list in a new block of so many cells. -/
def Kept (z : Nat) (l m : List R) (v : Value) (w : World) : Prop := ∃ (g : Nat) (cs : Array Value) (cap : Nat), v = .slice (some ⟨g, 0, none⟩) l.length cap ∧ Has w g 42 cs ∧ cs.size = l.length * 3 ∧ z ≤ g ∧
  ∀ k, k < l.length → cs[k * 3]? = some (.int .i64 (rx m k)) ∧ cs[k * 3 + 1]? = some (.int .i64 (ra m k)) ∧ cs[k * 3 + 2]? = some (.bool (ro m k))
/-- What each operation of the first statement leaves. -/
def LeftA (b z : Nat) (sp he fa : List R) (a1 a2 a3 : Option Addr) (c1 c2 c3 : Nat) : Nat → Value → World → Prop
  | 0, v, _ => v = .pointer (some ⟨b, 0, none⟩)
  | 1, v, _ => v = .slice a1 sp.length c1
  | 2, v, w => Kept z sp (sp.map ageR) v w
  | 3, v, _ => v = .pointer (some ⟨b, 1, none⟩)
  | 4, v, _ => v = .slice a2 he.length c2
  | 5, v, w => Kept z he (he.map ageR) v w
  | 6, v, _ => v = .pointer (some ⟨b, 2, none⟩)
  | 7, v, _ => v = .slice a3 fa.length c3
  | 8, v, w => Kept z fa (fa.map ageR) v w
  | 9, v, _ => v = .pointer (some ⟨b, 0, none⟩)
  | _, _, _ => False
theorem Kept.stab {z : Nat} {l m : List R} {v : Value} {w w' : World} (h : Kept z l m v w) (hg : w.grownBy w' none) : Kept z l m v w' := by
  obtain ⟨g, cs, cap, h1, h2, h3⟩ := h
  exact ⟨g, cs, cap, h1, h2.grown hg (by simp), h3⟩
theorem LeftA.stab {b z : Nat} {sp he fa : List R} {a1 a2 a3 : Option Addr} {c1 c2 c3 : Nat} (j : Nat) (v : Value) (w w' : World) (h : LeftA b z sp he fa a1 a2 a3 c1 c2 c3 j v w) (hg : w.grownBy w' none) : LeftA b z sp he fa a1 a2 a3 c1 c2 c3 j v w' := by
  match j, h with
  | 0, h => exact h
  | 1, h => exact h
  | 2, h => exact Kept.stab h hg
  | 3, h => exact h
  | 4, h => exact h
  | 5, h => exact Kept.stab h hg
  | 6, h => exact h
  | 7, h => exact h
  | 8, h => exact Kept.stab h hg
  | 9, h => exact h

set_option maxRecDepth 100000 in
set_option maxHeartbeats 2000000 in
theorem agedL (sp he fa : List R) (wn : Int) (ar : Bool) (sq : List Int) (a1 a2 a3 a4 : Option Addr) (c1 c2 c3 c4 : Nat) (w : World) (h1 : rd.Arg w a1 sp) (h2 : rd.Arg w a2 he) (h3 : rd.Arg w a3 fa) (h4 : Ints w a4 sq)
    (n1 : sp.length ≤ 1048576) (n2 : he.length ≤ 1048576) (n3 : fa.length ≤ 1048576) (n4 : sq.length ≤ 100) (z4 : sq ≠ []) (m12 : sp.length ≠ he.length) (m13 : sp.length ≠ fa.length) (m23 : he.length ≠ fa.length) (o1 : sp.all okR = true) (o2 : he.all okR = true) (o3 : fa.all okR = true) :
    Calls Tryz.prog 27 #[sv ⟨sp, he, fa, wn, ar, sq⟩ ⟨a1, c1, a2, c2, a3, c3, a4, c4⟩] w (RetS ⟨sp.map ageR, he.map ageR, fa.map ageR, wn, ar, sq⟩ w) := by
  have K0 : Has ((w.alloc (Obj.cells #[.slice a1 sp.length c1, .slice a2 he.length c2, .slice a3 fa.length c3, .int .i64 wn, .bool ar, .slice a4 sq.length c4] 27)).alloc (Obj.cells #[.slice none 0 0, .slice none 0 0, .slice none 0 0, .int .i64 0, .bool false, .slice none 0 0] 27)) w.heap.size 27 #[.slice a1 sp.length c1, .slice a2 he.length c2, .slice a3 fa.length c3, .int .i64 wn, .bool ar, .slice a4 sq.length c4] := (Has.fresh w _ _).alloc _
  have R0 := Has.fresh (w.alloc (Obj.cells #[.slice a1 sp.length c1, .slice a2 he.length c2, .slice a3 fa.length c3, .int .i64 wn, .bool ar, .slice a4 sq.length c4] 27)) 27 #[.slice none 0 0, .slice none 0 0, .slice none 0 0, .int .i64 0, .bool false, .slice none 0 0]
  have g0 := gr_alloc (World.grownBy_alloc w (Obj.cells #[.slice a1 sp.length c1, .slice a2 he.length c2, .slice a3 fa.length c3, .int .i64 wn, .bool ar, .slice a4 sq.length c4] 27) none) (Obj.cells #[.slice none 0 0, .slice none 0 0, .slice none 0 0, .int .i64 0, .bool false, .slice none 0 0] 27)
  simp only [World.size_alloc] at R0
  have cA := fun W (k : rd.Arg W a1 sp) => aged_call a1 c1 sp W k n1 o1
  have cB := fun W (k : rd.Arg W a2 he) => aged_call a2 c2 he W k n2 o2
  have cC := fun W (k : rd.Arg W a3 fa) => aged_call a3 c3 fa W k n3 o3
  have cD := fun W (k : Ints W a4 sq) => stm.implClone a4 c4 sq W k z4 n4
  clear o1 o2 o3 n1 n2 n3 n4
  go_enter Tryz.func27, Tryz.ntmps27
  go_upto_region 1 with fail
  generalize (w.alloc (Obj.cells #[.slice a1 sp.length c1, .slice a2 he.length c2, .slice a3 fa.length c3, .int .i64 wn, .bool ar, .slice a4 sq.length c4] 27)).alloc (Obj.cells #[.slice none 0 0, .slice none 0 0, .slice none 0 0, .int .i64 0, .bool false, .slice none 0 0] 27) = wb at *
  have lb : w.heap.size < wb.heap.size := K0.lt
  replace h1 := h1.kept g0
  replace h2 := h2.kept g0
  replace h3 := h3.kept g0
  obtain ⟨⟨q0, q1, q2⟩, q3, q4, q5⟩ := six K0
  refine iv.region_inv 10 (fun i => i + 3) (LeftA w.heap.size wb.heap.size sp he fa a1 a2 a3 c1 c2 c3) (by kernel_rfl) (by kernel_rfl) (by kernel_rfl) (by decide) (by kernel_rfl) (by kernel_rfl) (fun i j _ _ e => by simpa using e) (fun i hi => by simp; omega) LeftA.stab ?_ ?_
  · intro i o a W hi ho hg hsz hdf hold hdeps
    obtain ⟨⟨tl⟩, df⟩ := a
    match tl, hsz with
    | [x0, x1, x2, x3, x4, x5, x6, x7, x8, x9, x10, x11, x12, x13, x14, x15, x16, x17, x18, x19], _ =>
      have e1 : x1 = .pointer (some ⟨w.heap.size, 0, none⟩) := by simpa using hold 1 (fun j _ => by omega)
      have ed : df = [] := by simpa using hdf
      subst e1 ed
      clear hold hdf q0 q1 q2 q3 q4 q5
      rcases (show i = 0 ∨ i = 1 ∨ i = 2 ∨ i = 3 ∨ i = 4 ∨ i = 5 ∨ i = 6 ∨ i = 7 ∨ i = 8 ∨ i = 9 by omega) with rfl | rfl | rfl | rfl | rfl | rfl | rfl | rfl | rfl | rfl
      all_goals simp at ho
      all_goals subst ho
      all_goals simp [Region.binds, LeftA] at hdeps
      · go_wp2_with fail
        exact ⟨gr_refl _ _, rfl⟩
      · subst hdeps
        obtain ⟨⟨b0, b1, b2⟩, b3, b4, b5⟩ := six (K0.grown hg (by simp))
        go_wp2_with fail
        exact ⟨gr_refl _ _, rfl⟩
      · skip
        subst hdeps
        go_wp2_with fail
        refine (cA _ (h1.kept hg)).mono ?_
        rintro e w1 ⟨g, cs, cap, rfl, r, hk, hs, hge, hc⟩
        go_wp2_with fail
        exact ⟨g, cs, cap, rfl, hk, hs, Nat.le_trans hg.size hge, hc⟩
      · go_wp2_with fail
        exact ⟨gr_refl _ _, rfl⟩
      · subst hdeps
        obtain ⟨⟨b0, b1, b2⟩, b3, b4, b5⟩ := six (K0.grown hg (by simp))
        go_wp2_with fail
        exact ⟨gr_refl _ _, rfl⟩
      · obtain ⟨hdeps, _⟩ := hdeps
        subst hdeps
        go_wp2_with fail
        refine (cB _ (h2.kept hg)).mono ?_
        rintro e w1 ⟨g, cs, cap, rfl, r, hk, hs, hge, hc⟩
        go_wp2_with fail
        exact ⟨g, cs, cap, rfl, hk, hs, Nat.le_trans hg.size hge, hc⟩
      · go_wp2_with fail
        exact ⟨gr_refl _ _, rfl⟩
      · subst hdeps
        obtain ⟨⟨b0, b1, b2⟩, b3, b4, b5⟩ := six (K0.grown hg (by simp))
        go_wp2_with fail
        exact ⟨gr_refl _ _, rfl⟩
      · obtain ⟨hdeps, _⟩ := hdeps
        subst hdeps
        go_wp2_with fail
        refine (cC _ (h3.kept hg)).mono ?_
        rintro e w1 ⟨g, cs, cap, rfl, r, hk, hs, hge, hc⟩
        go_wp2_with fail
        exact ⟨g, cs, cap, rfl, hk, hs, Nat.le_trans hg.size hge, hc⟩
      · go_wp2_with fail
        exact ⟨gr_refl _ _, rfl⟩
  · intro a W hg hsz hdf hold hnew
    obtain ⟨⟨tl⟩, df⟩ := a
    match tl, hsz with
    | [x0, x1, x2, x3, x4, x5, x6, x7, x8, x9, x10, x11, x12, x13, x14, x15, x16, x17, x18, x19], _ =>
      have e0 := hold 0 (fun j _ => by omega)
      have e1 : x1 = .pointer (some ⟨w.heap.size, 0, none⟩) := by simpa using hold 1 (fun j _ => by omega)
      have e2 : x2 = .pointer (some ⟨w.heap.size + 1, 0, none⟩) := by simpa using hold 2 (fun j _ => by omega)
      have ed : df = [] := by simpa using hdf
      subst e1 e2 ed
      obtain ⟨v, h, g1, A1, k1, e1, H1, s1, l1, L1⟩ := hnew 2 (by omega)
      obtain rfl : x5 = v := by simpa using h
      subst e1
      obtain ⟨v, h, g2, A2, k2, e1, H2, s2, l2, L2⟩ := hnew 5 (by omega)
      obtain rfl : x8 = v := by simpa using h
      subst e1
      obtain ⟨v, h, g3, A3, k3, e1, H3, s3, l3, L3⟩ := hnew 8 (by omega)
      obtain rfl : x11 = v := by simpa using h
      subst e1
      obtain ⟨v, h, e1⟩ := hnew 9 (by omega)
      obtain rfl : x12 = v := by simpa using h
      have e1' : x12 = .pointer (some ⟨w.heap.size, 0, none⟩) := e1
      subst e1'
      clear hnew hold hdf h e0
      have K := K0.grown hg (by simp)
      have R := R0.grown hg (by simp)
      obtain ⟨⟨b0, b1, b2⟩, b3, b4, b5⟩ := six K
      obtain ⟨⟨f0, f1, f2⟩, f3, f4, f5⟩ := free6 K
      clear q0 q1 q2 q3 q4 q5 cA cB cC h1 h2 h3
      simp only [List.drop_succ_cons, List.drop_zero]
      go_wp2_with fail
      have n12 : g1 ≠ g2 := fun e => by
        subst e; have := H1.symm.trans H2; simp at this; have := congrArg Array.size this; omega
      have n13 : g1 ≠ g3 := fun e => by
        subst e; have := H1.symm.trans H3; simp at this; have := congrArg Array.size this; omega
      have n23 : g2 ≠ g3 := fun e => by
        subst e; have := H2.symm.trans H3; simp at this; have := congrArg Array.size this; omega
      have lR := R0.lt
      have nz : w.heap.size ≠ w.heap.size + 1 := by omega
      have nz' : w.heap.size + 1 ≠ w.heap.size := by omega
      have u1 : g1 ≠ w.heap.size := by omega
      have u2 : g2 ≠ w.heap.size := by omega
      have u3 : g3 ≠ w.heap.size := by omega
      have G := gr_new (gr_new (gr_new (gr_trans g0 hg) (Nat.le_refl w.heap.size) 0 (.slice (some ⟨g1, 0, none⟩) sp.length k1)) (Nat.le_refl w.heap.size) 1 (.slice (some ⟨g2, 0, none⟩) he.length k2)) (Nat.le_refl w.heap.size) 2 (.slice (some ⟨g3, 0, none⟩) fa.length k3)
      replace K := ((K.put 0 (.slice (some ⟨g1, 0, none⟩) sp.length k1) rfl).put 1 (.slice (some ⟨g2, 0, none⟩) he.length k2) rfl).put 2 (.slice (some ⟨g3, 0, none⟩) fa.length k3) rfl
      replace R := ((R.set_other nz' 0 (.slice (some ⟨g1, 0, none⟩) sp.length k1)).set_other nz' 1 (.slice (some ⟨g2, 0, none⟩) he.length k2)).set_other nz' 2 (.slice (some ⟨g3, 0, none⟩) fa.length k3)
      replace H1 := ((H1.set_other u1 0 (.slice (some ⟨g1, 0, none⟩) sp.length k1)).set_other u1 1 (.slice (some ⟨g2, 0, none⟩) he.length k2)).set_other u1 2 (.slice (some ⟨g3, 0, none⟩) fa.length k3)
      replace H2 := ((H2.set_other u2 0 (.slice (some ⟨g1, 0, none⟩) sp.length k1)).set_other u2 1 (.slice (some ⟨g2, 0, none⟩) he.length k2)).set_other u2 2 (.slice (some ⟨g3, 0, none⟩) fa.length k3)
      replace H3 := ((H3.set_other u3 0 (.slice (some ⟨g1, 0, none⟩) sp.length k1)).set_other u3 1 (.slice (some ⟨g2, 0, none⟩) he.length k2)).set_other u3 2 (.slice (some ⟨g3, 0, none⟩) fa.length k3)
      clear b0 b1 b2 b3 b4 b5 f0 f1 f2 f3 f4 f5
      have hq := h4.kept G
      have lW : wb.heap.size ≤ (((W.setCell ⟨w.heap.size, 0, none⟩ (.slice (some ⟨g1, 0, none⟩) sp.length k1)).setCell ⟨w.heap.size, 1, none⟩ (.slice (some ⟨g2, 0, none⟩) he.length k2)).setCell ⟨w.heap.size, 2, none⟩ (.slice (some ⟨g3, 0, none⟩) fa.length k3)).heap.size := by simpa using hg.size
      generalize ((W.setCell ⟨w.heap.size, 0, none⟩ (.slice (some ⟨g1, 0, none⟩) sp.length k1)).setCell ⟨w.heap.size, 1, none⟩ (.slice (some ⟨g2, 0, none⟩) he.length k2)).setCell ⟨w.heap.size, 2, none⟩ (.slice (some ⟨g3, 0, none⟩) fa.length k3) = W2 at *
      refine (cD _ hq).mono ?_
      rintro e w4 ⟨a5, k5, rfl, r4, o4⟩
      obtain ⟨q4, b4⟩ := own_of_frm o4 z4
      replace G := gr_trans G r4
      replace K := K.grown r4 (by simp)
      replace R := R.grown r4 (by simp)
      replace H1 := H1.grown r4 (by simp)
      replace H2 := H2.grown r4 (by simp)
      replace H3 := H3.grown r4 (by simp)
      obtain ⟨⟨c0, c1, c2⟩, c3, c4, c5⟩ := six K
      obtain ⟨⟨f0, f1, f2⟩, f3, f4, f5⟩ := free6 K
      obtain ⟨⟨d0, d1, d2⟩, d3, d4, d5⟩ := six R
      obtain ⟨⟨e0, e1, e2⟩, e3, e4, e5⟩ := free6 R
      go_wp2_with fail
      have S1 := gr_set (gr_refl w4 (some w.heap.size)) 5 (.slice a5 sq.length k5)
      have O1 : OwnR w4 (some ⟨g1, 0, none⟩) (sp.map ageR) := Or.inr ⟨g1, A1, rfl, H1, fun k hk => L1 k (by simpa using hk)⟩
      have O2 : OwnR w4 (some ⟨g2, 0, none⟩) (he.map ageR) := Or.inr ⟨g2, A2, rfl, H2, fun k hk => L2 k (by simpa using hk)⟩
      have O3 : OwnR w4 (some ⟨g3, 0, none⟩) (fa.map ageR) := Or.inr ⟨g3, A3, rfl, H3, fun k hk => L3 k (by simpa using hk)⟩
      have O : OwnS wb.heap.size (w4.setCell ⟨w.heap.size, 5, none⟩ (.slice a5 sq.length k5)) ⟨sp.map ageR, he.map ageR, fa.map ageR, wn, ar, sq⟩ ⟨some ⟨g1, 0, none⟩, k1, some ⟨g2, 0, none⟩, k2, some ⟨g3, 0, none⟩, k3, a5, k5⟩ :=
        ⟨O1.grown S1 (fun x e => by cases e; simp; omega), O2.grown S1 (fun x e => by cases e; simp; omega), O3.grown S1 (fun x e => by cases e; simp; omega), q4.grown S1 (fun x e => by have := b4 x e; simp; omega),
          (fun x e => by cases e; exact l1), (fun x e => by cases e; exact l2), (fun x e => by cases e; exact l3), (fun x e => Nat.le_trans lW (b4 x e)), (fun x y ex ey => by cases ex; cases ey; exact n12), (fun x y ex ey => by cases ex; cases ey; exact n13), (fun x y ex ey => by cases ex; cases ey; exact n23)⟩
      have Q := O.set6 (w.heap.size + 1) lR (.slice (some ⟨g1, 0, none⟩) sp.length k1) (.slice (some ⟨g2, 0, none⟩) he.length k2) (.slice (some ⟨g3, 0, none⟩) fa.length k3) (.int .i64 wn) (.bool ar) (.slice a5 sq.length k5)
      have GG := gr6 (gr_new G (Nat.le_refl w.heap.size) 5 (.slice a5 sq.length k5)) (show w.heap.size ≤ w.heap.size + 1 by omega) (.slice (some ⟨g1, 0, none⟩) sp.length k1) (.slice (some ⟨g2, 0, none⟩) he.length k2) (.slice (some ⟨g3, 0, none⟩) fa.length k3) (.int .i64 wn) (.bool ar) (.slice a5 sq.length k5)
      obtain ⟨⟨t0, t1, t2⟩, t3, t4, t5⟩ := six (set6 (R.set_other nz' 5 (.slice a5 sq.length k5)) (.slice (some ⟨g1, 0, none⟩) sp.length k1) (.slice (some ⟨g2, 0, none⟩) he.length k2) (.slice (some ⟨g3, 0, none⟩) fa.length k3) (.int .i64 wn) (.bool ar) (.slice a5 sq.length k5))
      have el1 : (sp.map ageR).length = sp.length := List.length_map _
      have el2 : (he.map ageR).length = he.length := List.length_map _
      have el3 : (fa.map ageR).length = fa.length := List.length_map _
      refine bodyPost_ret (v := .agg #[.slice (some ⟨g1, 0, none⟩) sp.length k1, .slice (some ⟨g2, 0, none⟩) he.length k2, .slice (some ⟨g3, 0, none⟩) fa.length k3, .int .i64 wn, .bool ar, .slice a5 sq.length k5]) (by simp [results, Tryz.results27, go_sem, t0, t1, t2, t3, t4, t5]) rfl ⟨_, ?_, GG, Q.below (by omega)⟩
      show _ = Ending.returned (.agg #[.slice _ (sp.map ageR).length _, .slice _ (he.map ageR).length _, .slice _ (fa.map ageR).length _, _, _, _])
      rw [el1, el2, el3]
theorem agedI (s : S) (p : P) (w : World) (h : Arg w s p) (ho : Ok s) : Calls Tryz.prog 27 #[sv s p] w (RetS ⟨s.sp.map ageR, s.he.map ageR, s.fa.map ageR, s.wn, s.ar, s.sq⟩ w) :=
  agedL s.sp s.he s.fa s.wn s.ar s.sq p.a1 p.a2 p.a3 p.a4 p.c1 p.c2 p.c3 p.c4 w h.sp h.he h.fa h.sq (by rw [ho.sp3]; omega) (by rw [ho.he2]; omega) (by rw [ho.fa6]; omega) (by rw [ho.sq4]; omega) (fun e => by have := ho.sq4; rw [e] at this; simp at this)
    (by rw [ho.sp3, ho.he2]; omega) (by rw [ho.sp3, ho.fa6]; omega) (by rw [ho.he2, ho.fa6]; omega) ho.sp ho.he ho.fa
end Go.Proofs.YtdikhdfpcipdbaaGreatDoor.se
