/- Chapter 17 of the model: a body, and how it moves. -/
import Derived.Test.YtdikhdfpcipdbaaGreatDoorBrStep
import Derived.Test.YtdikhdfpcipdbaaGreatDoorFix2
import Derived.Test.YtdikhdfpcipdbaaGreatDoorQuietTail
import Derived.Deep.DeepCutAuto
namespace Go.Proofs.YtdikhdfpcipdbaaGreatDoor.bo
open Go.ChangeShapes Go.WideShapes Go.ChangeAt Go.RowKit
open Go.Proofs.YtdikhdfpcipdbaaGreatDoor.nums Go.Proofs.YtdikhdfpcipdbaaGreatDoor.mem
open Go.Proofs.YtdikhdfpcipdbaaGreatDoor.tab (Ret quiet_w)
open Go.Proofs.YtdikhdfpcipdbaaGreatDoor.il (nth Ints)
open Go.Proofs.YtdikhdfpcipdbaaGreatDoor.rd (three set3)
open Go.Proofs.YtdikhdfpcipdbaaGreatDoor.qt (region_below_tail rg_ret rg_same gr_rg)
set_option linter.unusedVariables false

abbrev bd (h r s : Int) : Value := .agg #[.int .i64 h, .int .i64 r, .int .i64 s]
abbrev cs3 (h r s : Int) : Array Value := #[.int .i64 h, .int .i64 r, .int .i64 s]
def bodyOk (h r s : Int) : Bool := inb h 0 2000 && (inb r (-50) 50 && inb s 0 400)
theorem ok_iff {h r s : Int} : bodyOk h r s = true ↔ (0 ≤ h ∧ h ≤ 2000) ∧ (-50 ≤ r ∧ r ≤ 50) ∧ (0 ≤ s ∧ s ≤ 400) := by
  unfold bodyOk inb; simp
/-- The sum of the first k. -/
def psum (o : List Int) : Nat → Int
  | 0 => 0
  | k + 1 => psum o k + nth o k
theorem psum_in {o : List Int} (h : o.all bl.okO = true) : ∀ k, k ≤ o.length → 0 ≤ psum o k ∧ psum o k ≤ 1000 * k := by
  intro k
  induction k with
  | zero =>
    intro _
    show (0 : Int) ≤ 0 ∧ (0 : Int) ≤ 1000 * ((0 : Nat) : Int)
    omega
  | succ k ih =>
    intro hk
    have h1 := ih (by omega)
    have h2 := bl.ok_bd (bl.all_at h (show k < o.length by omega))
    show 0 ≤ psum o k + nth o k ∧ psum o k + nth o k ≤ 1000 * ((k + 1 : Nat) : Int)
    omega
def rise (r g L : Int) : Int := btw (r + kPart (L - 3000) 1 300 + btw g (-3) 3) (-50) 50
def mvH (h r s : Int) (o : List Int) (g : Int) : Int := btw (h + rise r g (psum o 6 + 30 * btw (s - 100) 0 200)) 0 2000
def mvR (h r s : Int) (o : List Int) (g : Int) : Int := if mvH h r s o g = 0 ∧ rise r g (psum o 6 + 30 * btw (s - 100) 0 200) < 0 then 0 else rise r g (psum o 6 + 30 * btw (s - 100) 0 200)
def mvS (s : Int) (o : List Int) : Int := kToward s (kPart 4 (nth o 6) 10) 10
theorem btw_in {x l h : Int} (hl : l ≤ h) : l ≤ btw x l h ∧ btw x l h ≤ h := by unfold btw; omega
theorem part_in (a b c : Int) : -1000000 ≤ kPart a b c ∧ kPart a b c ≤ 1000000 := by
  unfold kPart
  split
  · exact ⟨by decide, by decide⟩
  · exact ⟨fit_ge _, fit_le _⟩
theorem part4 {x : Int} (h : 0 ≤ x ∧ x ≤ 1000) : 0 ≤ kPart 4 x 10 ∧ kPart 4 x 10 ≤ 400 := by
  unfold kPart
  rw [if_neg (by omega), fit_same 4 (by omega) (by omega), fit_same x (by omega) (by omega), Int.tdiv_eq_ediv_of_nonneg (by omega)]
  unfold fit btw; omega
theorem mvS_in {s : Int} {o : List Int} (hs : 0 ≤ s ∧ s ≤ 400) (h : 0 ≤ nth o 6 ∧ nth o 6 ≤ 1000) : 0 ≤ mvS s o ∧ mvS s o ≤ 400 := by
  have := part4 h
  unfold mvS kToward
  rw [fit_same s (by omega) (by omega), fit_same (kPart 4 (nth o 6) 10) (by omega) (by omega)]
  unfold btw; omega
theorem mv_in {h r s : Int} {o : List Int} (g : Int) (hs : 0 ≤ s ∧ s ≤ 400) (ho : 0 ≤ nth o 6 ∧ nth o 6 ≤ 1000) : bodyOk (mvH h r s o g) (mvR h r s o g) (mvS s o) = true := by
  refine ok_iff.2 ⟨btw_in (by omega), ?_, mvS_in hs ho⟩
  unfold mvR
  split
  · omega
  · exact btw_in (by omega)

theorem specBodyOk (h r s : Int) (w : World) : Calls Tryz.prog 121 #[bd h r s] w (Ret (.bool (bodyOk h r s)) w) := by
  have K := Has.fresh w 90 (cs3 h r s)
  have g0 := World.grownBy_alloc w (Obj.cells (cs3 h r s) 90) none
  obtain ⟨c0, c1, c2, _, _, _⟩ := three K
  have q1 := fun W => fix.specIn h 0 2000 W
  have q2 := fun W => fix.specIn r (-50) 50 W
  have q3 := fun W => fix.specIn s 0 400 W
  unfold bodyOk
  cases h1 : inb h 0 2000
  · rw [h1] at q1
    go_enter Tryz.func121, Tryz.ntmps121
    go_wp2_with fail
    refine (q1 _).mono ?_
    rintro e w1 ⟨rfl, rfl⟩
    go_wp2_with fail
    go_ret
    exact ⟨rfl, g0⟩
  · rw [h1] at q1
    cases h2 : inb r (-50) 50
    · rw [h2] at q2
      go_enter Tryz.func121, Tryz.ntmps121
      go_wp2_with fail
      refine (q1 _).mono ?_
      rintro e w1 ⟨rfl, rfl⟩
      go_wp2_with fail
      refine (q2 _).mono ?_
      rintro e w1 ⟨rfl, rfl⟩
      go_wp2_with fail
      go_ret
      exact ⟨rfl, g0⟩
    · rw [h2] at q2
      go_enter Tryz.func121, Tryz.ntmps121
      go_wp2_with fail
      refine (q1 _).mono ?_
      rintro e w1 ⟨rfl, rfl⟩
      go_wp2_with fail
      refine (q2 _).mono ?_
      rintro e w1 ⟨rfl, rfl⟩
      go_wp2_with fail
      refine (q3 _).mono ?_
      rintro e w1 ⟨rfl, rfl⟩
      go_wp2_with fail
      go_ret
      exact ⟨rfl, g0⟩

set_option maxRecDepth 100000 in
set_option maxHeartbeats 4000000 in
theorem specMoved (h r s : Int) (a : Option Addr) (cap : Nat) (o : List Int) (g : Int) (w : World) (ho : Ints w a o) (hb : bodyOk h r s = true) (h7 : br.Seven o) (hg1 : -9223372036854775808 ≤ g) (hg2 : g ≤ 9223372036854775807) :
    Calls Tryz.prog 148 #[bd h r s, .slice a o.length cap, .int .i64 g] w (Ret (bd (mvH h r s o g) (mvR h r s o g) (mvS s o)) w) := by
  obtain ⟨⟨a1, a2⟩, ⟨a3, a4⟩, a5, a6⟩ := ok_iff.1 hb
  have K := (Has.fresh w 90 (cs3 h r s)).alloc (Obj.cells (cs3 0 0 0) 90)
  have R := Has.fresh (w.alloc (Obj.cells (cs3 h r s) 90)) 90 (cs3 0 0 0)
  have G := gr_alloc (World.grownBy_alloc w (Obj.cells (cs3 h r s) 90) none) (Obj.cells (cs3 0 0 0) 90)
  simp only [World.size_alloc] at R
  have cO := fun W => specBodyOk h r s W
  rw [hb] at cO
  have cA := fun W k => bl.specAll a cap o 7 W k (by rw [h7.1]; unfold maxLen; omega)
  have eA : (decide ((o.length : Int) = 7) && o.all bl.okO) = true := by rw [h7.1, h7.2]; rfl
  rw [eA] at cA
  clear eA
  have H7 := Lib.hid h7
  have hps := Lib.hid (psum_in h7.2)
  have hs6 := psum_in h7.2 6 (by rw [h7.1]; omega)
  have h6 := bl.ok_bd (bl.all_at h7.2 (show 6 < o.length by rw [h7.1]; omega))
  clear h7 hb
  have bB := btw_in (x := s - 100) (show (0 : Int) ≤ 200 by omega)
  have cB := fun W => fix.specBetween (s - 100) 0 200 W
  have cP := fun W => fix.specPart (psum o 6 + 30 * btw (s - 100) 0 200 - 3000) 1 300 W
  have bP := part_in (psum o 6 + 30 * btw (s - 100) 0 200 - 3000) 1 300
  have cG := fun W => fix.specBetween g (-3) 3 W
  have bG := btw_in (x := g) (show (-3 : Int) ≤ 3 by omega)
  have cR := fun W => fix.specBetween (r + kPart (psum o 6 + 30 * btw (s - 100) 0 200 - 3000) 1 300 + btw g (-3) 3) (-50) 50 W
  have bR := btw_in (x := r + kPart (psum o 6 + 30 * btw (s - 100) 0 200 - 3000) 1 300 + btw g (-3) 3) (show (-50 : Int) ≤ 50 by omega)
  have cH := fun W => fix.specBetween (h + rise r g (psum o 6 + 30 * btw (s - 100) 0 200)) 0 2000 W
  have bH := btw_in (x := h + rise r g (psum o 6 + 30 * btw (s - 100) 0 200)) (show (0 : Int) ≤ 2000 by omega)
  have cQ := fun W => fix.specPart 4 (nth o 6) 10 W
  have bQ := part4 h6
  have cT := fun W => fix.specToward s (kPart 4 (nth o 6) 10) 10 W (by omega) (by omega)
  unfold mvR mvH mvS
  unfold rise at *
  generalize btw (s - 100) 0 200 = B at *
  generalize hX : psum o 6 = X at *
  generalize kPart (X + 30 * B - 3000) 1 300 = A at *
  generalize btw g (-3) 3 = C at *
  generalize btw (r + A + C) (-50) 50 = D at *
  generalize btw (h + D) 0 2000 = E at *
  generalize kPart 4 (nth o 6) 10 = Q at *
  generalize kToward s Q 10 = T at *
  obtain ⟨Z, hZ⟩ : ∃ x : Int, (if E = 0 ∧ D < 0 then 0 else D) = x := ⟨_, rfl⟩
  rw [hZ]
  replace hZ := Lib.hid hZ
  obtain ⟨c0, c1, c2, _, _, _⟩ := three K
  go_enter Tryz.func148, Tryz.ntmps148
  go_wp2_with fail
  refine (cO _).mono ?_
  rintro e w1 ⟨rfl, k⟩
  replace G := gr_trans G k
  replace K := K.grown k (by simp)
  replace R := R.grown k (by simp)
  clear c0 c1 c2 cO
  have hsz := k.size
  clear k
  simp only [World.size_alloc] at hsz
  go_wp2_with fail
  refine (cA _ (ho.kept G)).mono ?_
  rintro e w2 ⟨rfl, rfl⟩
  clear cA
  go_wp2_with fail
  go_loopw [7, 8] (fun l i wr => ∃ k : Nat, k ≤ 6 ∧ i = .int .i64 k ∧ l = .int .i64 (psum o k) ∧ wr = w1) (fun _ i _ => 6 - (intOf i).toNat)
  case atStart => exact ⟨0, by omega, rfl, rfl, rfl⟩
  case round =>
    obtain ⟨k, hk, rfl, rfl, rfl⟩ := hrel
    by_cases hlt : k < 6
    · have hko : k < o.length := by have := H7.out.1; omega
      obtain ⟨x, rfl, _, cx⟩ := (ho.kept G) k hko
      have b1 := hps.out k (by omega)
      have b2 := bl.ok_bd (bl.all_at H7.out.2 hko)
      go_wp2_with fail
      go_roundw
      case rel => exact ⟨k + 1, by omega, by go_num, rfl, by first | rfl | trivial⟩
      case measure => simp [intOf]; omega
    · obtain rfl : k = 6 := by omega
      rw [hX]
      clear hlt hk
      obtain ⟨c0, c1, c2, _, _, _⟩ := three K
      go_wp2_with fail
      refine (cB _).mono ?_
      rintro e w3 ⟨rfl, rfl⟩
      go_upto_region 9 with fail
      go_quiet (first | (go_at_call 169; with_reducible exact quiet_w (cP _)) | (go_at_call 44; first | with_reducible exact quiet_w (cG _) | with_reducible exact quiet_w (cR _)))
      replace G := gr_drewN G nq
      replace K : Has (wr.drewN nq) w.heap.size 90 (cs3 h r s) := K
      replace R : Has (wr.drewN nq) (w.heap.size + 1) 90 (cs3 0 0 0) := R
      replace hsz : w.heap.size + 1 + 1 ≤ (wr.drewN nq).heap.size := hsz
      clear c0 c1 c2
      generalize wr.drewN nq = wn at *
      obtain ⟨c0, c1, c2, _, _, _⟩ := three K
      go_wp2_with fail
      refine (cH _).mono ?_
      rintro e w4 ⟨rfl, rfl⟩
      go_upto_region 11 with fail
      have D1 := Has.fresh wn 90 (cs3 E D 0)
      replace G := gr_alloc G (Obj.cells (cs3 E D 0) 90)
      replace K := K.alloc (Obj.cells (cs3 E D 0) 90)
      replace R := R.alloc (Obj.cells (cs3 E D 0) 90)
      clear c0 c1 c2
      have lq : w.heap.size + 1 < wn.heap.size := by omega
      generalize hq : wn.heap.size = q at *
      generalize wn.alloc (Obj.cells (cs3 E D 0) 90) = wb at *
      obtain ⟨c0, c1, c2, _, _, _⟩ := three K
      obtain ⟨d0, d1, d2, f0, f1, f2⟩ := three D1
      by_cases hE : E = 0
      · have m1 : (E == 0) = true := beq_iff_eq.2 hE
        have m3 : decide (E = 0) = true := decide_eq_true hE
        by_cases hD : D < 0
        · have m4 : decide (D < 0) = true := decide_eq_true hD
          have hz : Z = 0 := by rw [← hZ.out, if_pos ⟨hE, hD⟩]
          subst hz
          clear hZ hE
          go_upto_region 13 with fail
          replace D1 := D1.put 1 (.int .i64 0) (cs' := cs3 E 0 0) rfl
          replace K := K.set_other (g' := q) (by omega) 1 (.int .i64 0)
          replace R := R.set_other (g' := q) (by omega) 1 (.int .i64 0)
          replace G := gr_new G (show w.heap.size ≤ q by omega) 1 (.int .i64 0)
          generalize wb.setCell ⟨q, 1, none⟩ (.int .i64 0) = wc at *
          clear c0 c1 c2 d0 d1 d2 f0 f1 f2
          obtain ⟨x, rfl, _, cx⟩ := (ho.kept G) 6 (by have := H7.out.1; omega)
          obtain ⟨c0, c1, c2, _, _, _⟩ := three K
          have hl6 : 6 < o.length := by have := H7.out.1; omega
          have hl6i : (6 : Int) < (o.length : Int) := by omega
          have hl6d : decide ((6 : Int) < (o.length : Int)) = true := decide_eq_true hl6i
          have e0 : ∀ d os, (Go.Sort.grow (redrawn wc d) os).cell? ⟨w.heap.size, 2, none⟩ = some (.int .i64 s) := cell_regrown c2
          have e1 : ∀ d os, (Go.Sort.grow (redrawn wc d) os).cell? (x.add 6) = some (.int .i64 (nth o 6)) := cell_regrown cx
          have e2 := e1
          simp [Addr.add] at e2
          clear c0 c1 c2 cx
          refine region_below_tail 8 (by kernel_rfl) (by kernel_rfl) ?_
          simp only [List.take_succ_cons, List.take_zero, List.drop_succ_cons, List.drop_zero]
          repeat (quiet_step (first | (go_at_call 169; with_reducible exact rg_same (cQ _)) | (go_at_call 170; with_reducible exact rg_same (cT _)) | fail))
          refine wpQuiet_nil ?_
          intro _ hw'
          obtain ⟨⟨dq, osq⟩, hw''⟩ := hw'
          subst hw''
          have gq := gr_rg wc dq osq
          replace G := gr_trans G gq
          replace D1 := D1.grown gq (by simp)
          replace R := R.grown gq (by simp)
          clear gq e0 e1 e2
          generalize Go.Sort.grow (redrawn wc dq) osq = wd at *
          obtain ⟨d0, d1, d2, f0, f1, f2⟩ := three D1
          go_upto_region 14 with fail
          replace D1 := D1.put 2 (.int .i64 T) (cs' := cs3 E 0 T) rfl
          replace R := R.set_other (g' := q) (by omega) 2 (.int .i64 T)
          replace G := gr_new G (show w.heap.size ≤ q by omega) 2 (.int .i64 T)
          clear d0 d1 d2 f0 f1 f2
          generalize wd.setCell ⟨q, 2, none⟩ (.int .i64 T) = we at *
          obtain ⟨d0, d1, d2, f0, f1, f2⟩ := three D1
          obtain ⟨k0, k1, k2, p0, p1, p2⟩ := three R
          go_wp2_with fail
          obtain ⟨u0, u1, u2, _, _, _⟩ := three (set3 R (.int .i64 E) (.int .i64 0) (.int .i64 T))
          exact bodyPost_ret (v := bd E 0 T) (by simp [results, Tryz.results148, go_sem, u0, u1, u2]) rfl ⟨rfl, gr_new (gr_new (gr_new G (by omega) _ _) (by omega) _ _) (by omega) _ _⟩
        · have m4 : decide (D < 0) = false := decide_eq_false hD
          have hz : Z = D := by rw [← hZ.out, if_neg (fun e => hD e.2)]
          subst hz
          clear hZ hE
          go_upto_region 13 with fail
          generalize wb = wc at *
          clear c0 c1 c2 d0 d1 d2 f0 f1 f2
          obtain ⟨x, rfl, _, cx⟩ := (ho.kept G) 6 (by have := H7.out.1; omega)
          obtain ⟨c0, c1, c2, _, _, _⟩ := three K
          have hl6 : 6 < o.length := by have := H7.out.1; omega
          have hl6i : (6 : Int) < (o.length : Int) := by omega
          have hl6d : decide ((6 : Int) < (o.length : Int)) = true := decide_eq_true hl6i
          have e0 : ∀ d os, (Go.Sort.grow (redrawn wc d) os).cell? ⟨w.heap.size, 2, none⟩ = some (.int .i64 s) := cell_regrown c2
          have e1 : ∀ d os, (Go.Sort.grow (redrawn wc d) os).cell? (x.add 6) = some (.int .i64 (nth o 6)) := cell_regrown cx
          have e2 := e1
          simp [Addr.add] at e2
          clear c0 c1 c2 cx
          refine region_below_tail 8 (by kernel_rfl) (by kernel_rfl) ?_
          simp only [List.take_succ_cons, List.take_zero, List.drop_succ_cons, List.drop_zero]
          repeat (quiet_step (first | (go_at_call 169; with_reducible exact rg_same (cQ _)) | (go_at_call 170; with_reducible exact rg_same (cT _)) | fail))
          refine wpQuiet_nil ?_
          intro _ hw'
          obtain ⟨⟨dq, osq⟩, hw''⟩ := hw'
          subst hw''
          have gq := gr_rg wc dq osq
          replace G := gr_trans G gq
          replace D1 := D1.grown gq (by simp)
          replace R := R.grown gq (by simp)
          clear gq e0 e1 e2
          generalize Go.Sort.grow (redrawn wc dq) osq = wd at *
          obtain ⟨d0, d1, d2, f0, f1, f2⟩ := three D1
          go_upto_region 14 with fail
          replace D1 := D1.put 2 (.int .i64 T) (cs' := cs3 E Z T) rfl
          replace R := R.set_other (g' := q) (by omega) 2 (.int .i64 T)
          replace G := gr_new G (show w.heap.size ≤ q by omega) 2 (.int .i64 T)
          clear d0 d1 d2 f0 f1 f2
          generalize wd.setCell ⟨q, 2, none⟩ (.int .i64 T) = we at *
          obtain ⟨d0, d1, d2, f0, f1, f2⟩ := three D1
          obtain ⟨k0, k1, k2, p0, p1, p2⟩ := three R
          go_wp2_with fail
          obtain ⟨u0, u1, u2, _, _, _⟩ := three (set3 R (.int .i64 E) (.int .i64 Z) (.int .i64 T))
          exact bodyPost_ret (v := bd E Z T) (by simp [results, Tryz.results148, go_sem, u0, u1, u2]) rfl ⟨rfl, gr_new (gr_new (gr_new G (by omega) _ _) (by omega) _ _) (by omega) _ _⟩
      · have m1 : (E == 0) = false := beq_eq_false_iff_ne.2 hE
        have m3 : decide (E = 0) = false := decide_eq_false hE
        have hz : Z = D := by rw [← hZ.out, if_neg (fun e => hE e.1)]
        subst hz
        clear hZ hE
        go_upto_region 13 with fail
        generalize wb = wc at *
        clear c0 c1 c2 d0 d1 d2 f0 f1 f2
        obtain ⟨x, rfl, _, cx⟩ := (ho.kept G) 6 (by have := H7.out.1; omega)
        obtain ⟨c0, c1, c2, _, _, _⟩ := three K
        have hl6 : 6 < o.length := by have := H7.out.1; omega
        have hl6i : (6 : Int) < (o.length : Int) := by omega
        have hl6d : decide ((6 : Int) < (o.length : Int)) = true := decide_eq_true hl6i
        have e0 : ∀ d os, (Go.Sort.grow (redrawn wc d) os).cell? ⟨w.heap.size, 2, none⟩ = some (.int .i64 s) := cell_regrown c2
        have e1 : ∀ d os, (Go.Sort.grow (redrawn wc d) os).cell? (x.add 6) = some (.int .i64 (nth o 6)) := cell_regrown cx
        have e2 := e1
        simp [Addr.add] at e2
        clear c0 c1 c2 cx
        refine region_below_tail 8 (by kernel_rfl) (by kernel_rfl) ?_
        simp only [List.take_succ_cons, List.take_zero, List.drop_succ_cons, List.drop_zero]
        repeat (quiet_step (first | (go_at_call 169; with_reducible exact rg_same (cQ _)) | (go_at_call 170; with_reducible exact rg_same (cT _)) | fail))
        refine wpQuiet_nil ?_
        intro _ hw'
        obtain ⟨⟨dq, osq⟩, hw''⟩ := hw'
        subst hw''
        have gq := gr_rg wc dq osq
        replace G := gr_trans G gq
        replace D1 := D1.grown gq (by simp)
        replace R := R.grown gq (by simp)
        clear gq e0 e1 e2
        generalize Go.Sort.grow (redrawn wc dq) osq = wd at *
        obtain ⟨d0, d1, d2, f0, f1, f2⟩ := three D1
        go_upto_region 14 with fail
        replace D1 := D1.put 2 (.int .i64 T) (cs' := cs3 E Z T) rfl
        replace R := R.set_other (g' := q) (by omega) 2 (.int .i64 T)
        replace G := gr_new G (show w.heap.size ≤ q by omega) 2 (.int .i64 T)
        clear d0 d1 d2 f0 f1 f2
        generalize wd.setCell ⟨q, 2, none⟩ (.int .i64 T) = we at *
        obtain ⟨d0, d1, d2, f0, f1, f2⟩ := three D1
        obtain ⟨k0, k1, k2, p0, p1, p2⟩ := three R
        go_wp2_with fail
        obtain ⟨u0, u1, u2, _, _, _⟩ := three (set3 R (.int .i64 E) (.int .i64 Z) (.int .i64 T))
        exact bodyPost_ret (v := bd E Z T) (by simp [results, Tryz.results148, go_sem, u0, u1, u2]) rfl ⟨rfl, gr_new (gr_new (gr_new G (by omega) _ _) (by omega) _ _) (by omega) _ _⟩
end Go.Proofs.YtdikhdfpcipdbaaGreatDoor.bo
