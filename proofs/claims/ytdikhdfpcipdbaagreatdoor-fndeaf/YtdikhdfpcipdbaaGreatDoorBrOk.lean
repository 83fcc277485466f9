/- The model's BrainOk at a right brain; IsStill; CaseOf. -/
import Derived.Test.YtdikhdfpcipdbaaGreatDoorBrStill
import Derived.Test.YtdikhdfpcipdbaaGreatDoorBr
import Derived.Test.YtdikhdfpcipdbaaGreatDoorSeOk
import Derived.Test.YtdikhdfpcipdbaaGreatDoorBlSlewS
import Derived.Test.YtdikhdfpcipdbaaGreatDoorMd
import Derived.Test.YtdikhdfpcipdbaaGreatDoorCaIn
namespace Go.Proofs.YtdikhdfpcipdbaaGreatDoor.br
open Go.ChangeShapes Go.WideShapes Go.ChangeAt Go.RowKit
open Go.Proofs.YtdikhdfpcipdbaaGreatDoor.nums Go.Proofs.YtdikhdfpcipdbaaGreatDoor.mem
open Go.Proofs.YtdikhdfpcipdbaaGreatDoor.tab (Ret)
open Go.Proofs.YtdikhdfpcipdbaaGreatDoor.fan (F okF zF fN fO fT)
open Go.Proofs.YtdikhdfpcipdbaaGreatDoor.gt (G)
open Go.Proofs.YtdikhdfpcipdbaaGreatDoor.il (nth Ints Own)
set_option linter.unusedVariables false

theorem fan_ok {l : List F} (h : l.all okF = true) {k : Nat} (hk : k < l.length) : inb (fN l k) 0 100 = true := by
  have := List.all_eq_true.1 h l[k] (List.getElem_mem hk)
  have e : l.getD k zF = l[k] := by simp [List.getD, hk]
  show inb (l.getD k zF).1 0 100 = true
  rw [e]; exact this
theorem bd_ok {s : se.S} (h : se.Ok s) : se.Bd s 1048576 := ⟨by rw [h.sp3]; omega, by rw [h.he2]; omega, by rw [h.fa6]; omega, by rw [h.sq4]; omega⟩

set_option maxRecDepth 100000 in
set_option maxHeartbeats 4000000 in
theorem specBrainOk (b : B) (p : P) (w : World) (h : Arg w b p) (ho : OkB b) : Calls Tryz.prog 120 #[bv b p] w (Ret (.bool true) w) := by
  have K := Has.fresh w 88 (cs13 b p)
  have g0 := World.grownBy_alloc w (Obj.cells (cs13 b p) 88) none
  have q1 := fun W => md.specMode b.md W
  rw [show md.modeOk b.md = true from ho.md] at q1
  have q2 := fun W => fix.specIn b.tm 0 1000 W
  rw [ho.tm] at q2
  have q3 := fun W => gt.specGateOk b.ga W
  rw [show gt.gateOk b.ga.1 = true from ho.ga] at q3
  have q4 := fun W k => se.specSensesOk b.se p.se W k (bd_ok ho.se)
  rw [se.ok_iff.2 ho.se] at q4
  have q5 := fun W k => bl.specAll p.ou p.oc b.ou 7 W k (by rw [ho.ou7]; unfold maxLen; omega)
  have hall := Lib.hid ho
  have d6 : ((b.fa.length : Int) == 6) = true := by rw [ho.fa6]; rfl
  have d6' : decide ((b.fa.length : Int) = 6) = true := by rw [ho.fa6]; rfl
  have d60 : decide ((b.ta.length : Int) ≤ 60) = true := by have := ho.ta; simp; omega
  clear ho
  obtain ⟨⟨⟨c0, c1, c2⟩, c3, c4⟩, ⟨⟨c5, c6, c7⟩, c8, c9, c10⟩, c11, c12⟩ := thirteen K
  go_enter Tryz.func120, Tryz.ntmps120
  go_wp2_with fail
  go_loopw [3] (fun i wr => ∃ k : Nat, k ≤ b.fa.length ∧ i = .int .i64 k ∧ Has wr w.heap.size 88 (cs13 b p) ∧ w.grownBy wr none) (fun i _ => b.fa.length - (intOf i).toNat)
  case atStart => exact ⟨0, by omega, rfl, K, g0⟩
  case round =>
    clear K g0 c0 c1 c2 c3 c4 c5 c6 c7 c8 c9 c10 c11 c12
    obtain ⟨k, hk, rfl, K, hg⟩ := hrel
    obtain ⟨⟨⟨c0, c1, c2⟩, c3, c4⟩, ⟨⟨c5, c6, c7⟩, c8, c9, c10⟩, c11, c12⟩ := thirteen K
    have hk6 : b.fa.length = 6 := hall.out.fa6
    have hk' : k ≤ 6 := by omega
    clear hk6
    by_cases hlt : k < b.fa.length
    · obtain ⟨x, ex, hb, cx, cy, cz⟩ := (h.fa.kept hg) k hlt
      rw [ex] at c2
      have cF := fun W => fan.specFanOk (fN b.fa k) (fO b.fa k) (fT b.fa k) W
      rw [fan_ok hall.out.fa hlt] at cF
      go_wp2_with fail
      refine (cF _).mono ?_
      rintro e w1 ⟨rfl, r⟩
      go_wp2_with fail
      go_roundw
      case rel => exact ⟨k + 1, by omega, by go_num, K.grown r (by simp), gr_trans hg r⟩
      case measure => simp [intOf]; omega
    · obtain rfl : k = b.fa.length := by omega
      go_wp2_with fail
      refine (q1 _).mono ?_
      rintro e w1 ⟨rfl, rfl⟩
      go_wp2_with fail
      refine (q2 _).mono ?_
      rintro e w1 ⟨rfl, rfl⟩
      go_wp2_with fail
      refine (q3 _).mono ?_
      rintro e w1 ⟨rfl, r⟩
      replace K := K.grown r (by simp)
      replace hg := gr_trans hg r
      clear c0 c1 c2 c3 c4 c5 c6 c7 c8 c9 c10 c11 c12 r
      obtain ⟨⟨⟨c0, c1, c2⟩, c3, c4⟩, ⟨⟨c5, c6, c7⟩, c8, c9, c10⟩, c11, c12⟩ := thirteen K
      go_wp2_with fail
      refine (q4 _ (h.se.kept hg)).mono ?_
      rintro e w1 ⟨rfl, r⟩
      replace K := K.grown r (by simp)
      replace hg := gr_trans hg r
      clear c0 c1 c2 c3 c4 c5 c6 c7 c8 c9 c10 c11 c12 r
      obtain ⟨⟨⟨c0, c1, c2⟩, c3, c4⟩, ⟨⟨c5, c6, c7⟩, c8, c9, c10⟩, c11, c12⟩ := thirteen K
      have e5 : (decide ((b.ou.length : Int) = 7) && b.ou.all bl.okO) = true := by rw [hall.out.ou, hall.out.ou7]; rfl
      rw [e5] at q5
      go_wp2_with fail
      refine (q5 _ (h.ou.kept hg)).mono ?_
      rintro e w1 ⟨rfl, rfl⟩
      go_wp2_with fail
      go_ret
      exact ⟨rfl, hg⟩

end Go.Proofs.YtdikhdfpcipdbaaGreatDoor.br
