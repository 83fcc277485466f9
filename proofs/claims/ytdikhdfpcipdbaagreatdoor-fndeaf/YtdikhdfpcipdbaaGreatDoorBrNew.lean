/- The model's new brain. -/
import Derived.Test.YtdikhdfpcipdbaaGreatDoorBrLow
import Derived.Test.YtdikhdfpcipdbaaGreatDoorBrZero
import Derived.Test.YtdikhdfpcipdbaaGreatDoorSeNew
import Derived.Test.YtdikhdfpcipdbaaGreatDoorInvTail
import Derived.Test.YtdikhdfpcipdbaaGreatDoorLit
namespace Go.Proofs.YtdikhdfpcipdbaaGreatDoor.br
open Go.ChangeShapes Go.WideShapes Go.ChangeAt Go.RowKit
open Go.Proofs.YtdikhdfpcipdbaaGreatDoor.nums Go.Proofs.YtdikhdfpcipdbaaGreatDoor.mem
open Go.Proofs.YtdikhdfpcipdbaaGreatDoor.tab (Ret)
open Go.Proofs.YtdikhdfpcipdbaaGreatDoor.fan (F okF zF fN fO fT)
open Go.Proofs.YtdikhdfpcipdbaaGreatDoor.il (nth Ints Own)
open Go.Proofs.YtdikhdfpcipdbaaGreatDoor.se (cons_of)
set_option linter.unusedVariables false

def newB : B := ⟨0, 0, List.replicate 6 zF, (0, false), se.newS, List.replicate 7 0, []⟩
theorem ok_newB : OkB newB := ⟨by decide, by decide, by decide, rfl, by decide, se.ok_iff.1 (by decide), by decide, rfl, by decide⟩
def frow : Array Value := madeCells (Value.cells (.agg #[.int .i64 0, .bool false, .bool false])) (6 * 3)
def qrow : Array Value := madeCells (Value.cells (.int .i64 0)) (7 * 1)
theorem run_mkF (W : World) : (Instr.makeSlice 84 (.int .i64 6) (.int .i64 6)).run Tryz.prog W = .ok (.slice (some ⟨W.heap.size, 0, none⟩) 6 6) (W.alloc (.cells frow 189)) := by
  obtain ⟨i0, hi, hz0, hz1, hz2⟩ := info_parts fan.infoFan
  have h := run_make (P := Tryz.prog) W 84 189 i0 _ Tryz.underlying84 hi hz0 .i64 .i64 6 6 (by omega) (by omega) (by rw [hz2]; omega) (by omega)
  rw [hz1] at h
  exact h
theorem run_mkO (W : World) : (Instr.makeSlice 25 (.int .i64 7) (.int .i64 7)).run Tryz.prog W = .ok (.slice (some ⟨W.heap.size, 0, none⟩) 7 7) (W.alloc (.cells qrow 2)) := by
  obtain ⟨i0, hi, hz0, hz1, hz2⟩ := info_parts il.infoInt
  have h := run_make (P := Tryz.prog) W 25 2 i0 _ Tryz.underlying25 hi hz0 .i64 .i64 7 7 (by omega) (by omega) (by rw [hz2]; omega) (by omega)
  rw [hz1] at h
  exact h
theorem frow_at {k : Nat} (h : k < 6) : frow[k * 3]? = some (.int .i64 0) ∧ frow[k * 3 + 1]? = some (.bool false) ∧ frow[k * 3 + 2]? = some (.bool false) := by
  unfold frow madeCells
  refine ⟨?_, ?_, ?_⟩
  · rw [Array.getElem?_map, Array.getElem?_range]
    simp [Value.cells, show k * 3 < 6 * 3 by omega]
  · rw [Array.getElem?_map, Array.getElem?_range]
    have : (k * 3 + 1) % 3 = 1 := by omega
    simp [Value.cells, show k * 3 + 1 < 6 * 3 by omega, this]
  · rw [Array.getElem?_map, Array.getElem?_range]
    have : (k * 3 + 2) % 3 = 2 := by omega
    simp [Value.cells, show k * 3 + 2 < 6 * 3 by omega, this]
theorem own_frow {W : World} {b : Nat} (h : Has W b 189 frow) : fan.OwnF W (some ⟨b, 0, none⟩) (List.replicate 6 zF) :=
  Or.inr ⟨b, _, rfl, h, fun k hk => by
    have hk' : k < 6 := by simpa using hk
    have e : (List.replicate 6 zF).getD k zF = zF := by rcases (show k = 0 ∨ k = 1 ∨ k = 2 ∨ k = 3 ∨ k = 4 ∨ k = 5 by omega) with rfl | rfl | rfl | rfl | rfl | rfl <;> rfl
    have e1 : fN (List.replicate 6 zF) k = 0 := by unfold fan.fN; rw [e]; rfl
    have e2 : fO (List.replicate 6 zF) k = false := by unfold fan.fO; rw [e]; rfl
    have e3 : fT (List.replicate 6 zF) k = false := by unfold fan.fT; rw [e]; rfl
    rw [e1, e2, e3]
    exact frow_at hk'⟩
/-- What each operation of NewBrain leaves. -/
def LeftN (z : Nat) : Nat → Value → World → Prop
  | 0, v, w => ∃ a : Addr, v = .slice (some a) 6 6 ∧ z ≤ a.block ∧ fan.OwnF w (some a) (List.replicate 6 zF)
  | 1, v, w => ∃ p, v = se.sv se.newS p ∧ se.OwnS z w se.newS p
  | 2, v, w => ∃ b : Nat, v = .slice (some ⟨b, 0, none⟩) 7 7 ∧ z ≤ b ∧ il.Own w (some ⟨b, 0, none⟩) (List.replicate 7 0)
  | 3, v, w => ∃ p, v = bv newB p ∧ OwnB z w newB p
  | _, _, _ => False
theorem LeftN.stab (z : Nat) (j : Nat) (v : Value) (w w' : World) (h : LeftN z j v w) (hg : w.grownBy w' none) : LeftN z j v w' := by
  match j, h with
  | 0, ⟨a, h1, h2, h3⟩ => exact ⟨a, h1, h2, h3.kept hg⟩
  | 1, ⟨p, h1, h2⟩ => exact ⟨p, h1, h2.kept hg⟩
  | 2, ⟨a, h1, h2, h3⟩ => exact ⟨a, h1, h2, h3.kept hg⟩
  | 3, ⟨p, h1, h2⟩ => exact ⟨p, h1, h2.kept hg⟩
theorem litN5 (tl : List Value) (h : tl.length = 5) : ∃ x0 x1 x2 x3 x4 : Value, tl = [x0, x1, x2, x3, x4] := by
  obtain ⟨x0, t0, e0, h0⟩ := cons_of h
  obtain ⟨x1, t1, e1, h1⟩ := cons_of h0
  obtain ⟨x2, t2, e2, h2⟩ := cons_of h1
  obtain ⟨x3, t3, e3, h3⟩ := cons_of h2
  obtain ⟨x4, t4, e4, h4⟩ := cons_of h3
  have e5 := List.eq_nil_of_length_eq_zero h4
  exact ⟨x0, x1, x2, x3, x4, by rw [e0, e1, e2, e3, e4, e5]⟩

set_option maxRecDepth 100000 in
set_option maxHeartbeats 4000000 in
theorem specNewBrain (w : World) : Calls Tryz.prog 108 #[] w (RetO newB w) := by
  have k0 := Has.fresh w 88 z13
  have gwb := World.grownBy_alloc w (Obj.cells z13 88) none
  have mF := run_mkF
  have mO := run_mkO
  go_enter Tryz.func108, Tryz.ntmps108
  go_wp2_with fail
  have hsz : w.heap.size < (w.alloc (Obj.cells z13 88)).heap.size := by simp
  generalize w.alloc (Obj.cells z13 88) = wb at *
  refine iv.region_inv 4 (fun i => i + 1) (LeftN wb.heap.size) (by kernel_rfl) (by kernel_rfl) (by kernel_rfl) (by decide) (by kernel_rfl) (by kernel_rfl) (fun i j _ _ e => by simpa using e) (fun i hi => by simp; omega) (LeftN.stab wb.heap.size) ?_ ?_
  · intro i o a W hi ho2 hgW hsz2 hdf hold hdeps
    obtain ⟨⟨tl⟩, df⟩ := a
    obtain ⟨x0, x1, x2, x3, x4, rfl⟩ := litN5 tl (by simpa using hsz2)
    have ed : df = [] := by simpa using hdf
    subst ed
    clear hold hdf
    rcases (show i = 0 ∨ i = 1 ∨ i = 2 ∨ i = 3 by omega) with rfl | rfl | rfl | rfl
    all_goals simp at ho2
    all_goals subst ho2
    all_goals simp [Region.binds, LeftN] at hdeps
    · go_wp2_with fail
      exact ⟨World.grownBy_alloc _ _ _, ⟨W.heap.size, 0, none⟩, rfl, hgW.size, own_frow (Has.fresh _ _ _)⟩
    · go_wp2_with fail
      refine (se.specNew _).mono ?_
      rintro e w1 ⟨ps, rfl, r, O⟩
      go_wp2_with fail
      exact ⟨ps, rfl, O.below hgW.size⟩
    · go_wp2_with fail
      exact ⟨World.grownBy_alloc _ _ _, W.heap.size, rfl, hgW.size, own_zero7 (Has.fresh _ _ _)⟩
    · obtain ⟨h0, h1, h2⟩ := hdeps
      obtain ⟨af, rfl, lf, of_⟩ := h0
      obtain ⟨ps, rfl, os⟩ := h1
      obtain ⟨aq, rfl, lq, oq⟩ := h2
      go_wp2_with fail
      exact ⟨gr_refl _ _, ⟨some af, 6, ps, some ⟨aq, 0, none⟩, 7⟩, rfl, of_, os, oq, (fun x e => by cases e; exact lf), (fun x e => by have e : il.blk (some ⟨aq, 0, none⟩) (List.replicate 7 0) = some x := e; rw [il.blk_some (by simp)] at e; injection e with e; omega)⟩
  · intro o W hgW hsz2 hdf hold hnew
    obtain ⟨⟨tl⟩, df⟩ := o
    obtain ⟨x0, x1, x2, x3, x4, rfl⟩ := litN5 tl (by simpa using hsz2)
    have ed : df = [] := by simpa using hdf
    subst ed
    have e0 := hold 0 (fun j _ => by omega)
    simp at e0
    subst e0
    obtain ⟨v, e, p, rfl, O⟩ := hnew 3 (by omega)
    simp at e
    subst e
    clear hnew hold hdf hsz2
    simp only [List.drop_succ_cons, List.drop_zero]
    have K := k0.grown hgW (by simp)
    obtain ⟨⟨⟨f0, f1, f2⟩, f3, f4⟩, ⟨⟨f5, f6, f7⟩, f8, f9, f10⟩, f11, f12⟩ := free13 K
    obtain ⟨⟨⟨d0, d1, d2⟩, d3, d4⟩, ⟨⟨d5, d6, d7⟩, d8, d9, d10⟩, d11, d12⟩ := thirteen K
    go_wp2_with fail
    replace O := O.low (chg_lay W w.heap.size (.int .i64 0) (.int .i64 0) (.slice p.fa 6 p.fc) (.int .i64 0) (.bool false) (.slice p.se.a1 3 p.se.c1) (.slice p.se.a2 2 p.se.c2) (.slice p.se.a3 6 p.se.c3) (.int .i64 0) (.bool false) (.slice p.se.a4 4 p.se.c4) (.slice p.ou 7 p.oc) (str [])) hsz
    have G := gr_lay (gr_trans gwb hgW) (Nat.le_refl w.heap.size) (.int .i64 0) (.int .i64 0) (.slice p.fa 6 p.fc) (.int .i64 0) (.bool false) (.slice p.se.a1 3 p.se.c1) (.slice p.se.a2 2 p.se.c2) (.slice p.se.a3 6 p.se.c3) (.int .i64 0) (.bool false) (.slice p.se.a4 4 p.se.c4) (.slice p.ou 7 p.oc) (str [])
    replace K := set_lay K (.int .i64 0) (.int .i64 0) (.slice p.fa 6 p.fc) (.int .i64 0) (.bool false) (.slice p.se.a1 3 p.se.c1) (.slice p.se.a2 2 p.se.c2) (.slice p.se.a3 6 p.se.c3) (.int .i64 0) (.bool false) (.slice p.se.a4 4 p.se.c4) (.slice p.ou 7 p.oc) (str [])
    obtain ⟨⟨⟨u0, u1, u2⟩, u3, u4⟩, ⟨⟨u5, u6, u7⟩, u8, u9, u10⟩, u11, u12⟩ := thirteen K
    exact bodyPost_ret (v := bv newB p) (by simp [results, Tryz.results108, go_sem, u0, u1, u2, u3, u4, u5, u6, u7, u8, u9, u10, u11, u12, newB, se.newS, se.zr]) rfl ⟨p, rfl, G, ⟨O.fa, O.se.below (Nat.le_of_lt hsz), O.ou, fun x e => Nat.le_trans (Nat.le_of_lt hsz) (O.zf x e), fun x e => Nat.le_trans (Nat.le_of_lt hsz) (O.zo x e)⟩⟩
end Go.Proofs.YtdikhdfpcipdbaaGreatDoor.br
