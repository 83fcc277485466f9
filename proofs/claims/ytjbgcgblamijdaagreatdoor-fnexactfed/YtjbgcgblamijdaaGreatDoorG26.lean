/- takenAll and gotAll of the program. Senses: their bulk, copied, compared. -/
import Derived.Test.YtjbgcgblamijdaaGreatDoorG21
import Derived.Test.YtjbgcgblamijdaaGreatDoorG24
import Derived.Test.YtjbgcgblamijdaaGreatDoorG25
import Derived.Deep.DeepCutAuto
/- takenAll and gotAll of the program. -/
namespace Go.Proofs.YtjbgcgblamijdaaGreatDoor.se
open Go.ChangeShapes Go.WideShapes Go.ChangeAt Go.RowKit
open Go.Proofs.YtjbgcgblamijdaaGreatDoor.nums Go.Proofs.YtjbgcgblamijdaaGreatDoor.mem
open Go.Proofs.YtjbgcgblamijdaaGreatDoor.tab (Ret wpList_make_has)
open Go.Proofs.YtjbgcgblamijdaaGreatDoor.rd (R okR zR rx ra ro OwnR Laid RetO RetR infoReading)
open Go.Proofs.YtjbgcgblamijdaaGreatDoor.il (nth Ints Own)
open Go.Proofs.YtjbgcgblamijdaaGreatDoor.qt (region_below_tail rg_ret rg_same gr_rg)
set_option linter.unusedVariables false

theorem rg_retR {f : FuncId} {args : Array Value} {w : World} {d : Nat} {os : Array Obj} {r : R}
    (h : Calls Tryz.prog f args (Go.Sort.grow (redrawn w d) os) (RetR r (Go.Sort.grow (redrawn w d) os))) : Calls Tryz.prog f args (Go.Sort.grow (redrawn w d) os) fun e w'' => e = .returned (.agg #[.int .i64 r.1, .int .i64 r.2.1, .bool r.2.2]) ∧ ∃ p : Regrown, w'' = Go.Sort.grow (redrawn w p.d) p.os :=
  Calls.regrown_of (h.mono fun _ _ ⟨he, hg⟩ => ⟨he, below_of_none hg⟩)

set_option maxRecDepth 100000 in
set_option maxHeartbeats 4000000 in
theorem implTakenAll (lo hi rt : Int) (a b : Option Addr) (cap cap2 : Nat) (l : List R) (vs : List Int) (n f q : Addr) (w : World) (h : rd.Arg w a l) (hv : Ints w b vs) (hl : l.length ≤ 1048576) (hlen : vs.length = l.length) (he : sane.ErrB w n f q) (ht : sane.ErrT w) :
    Calls Tryz.prog 91 #[.agg #[.int .i64 lo, .int .i64 hi, .int .i64 rt], .slice a l.length cap, .slice b vs.length cap2] w (RetO (each (tk lo hi rt) l vs) w) := by
  obtain ⟨i0, hi0, hz0, hz1, hz2⟩ := info_parts infoReading
  have G0 := (Has.fresh w 84 #[.int .i64 lo, .int .i64 hi, .int .i64 rt]).alloc (Obj.cells (madeCells (Value.cells (.agg #[.int .i64 0, .int .i64 0, .bool false])) (l.length * 3)) 42)
  have hA0 := Has.fresh (w.alloc (Obj.cells #[.int .i64 lo, .int .i64 hi, .int .i64 rt] 84)) 42 (madeCells (Value.cells (.agg #[.int .i64 0, .int .i64 0, .bool false])) (l.length * 3))
  have g00 := gr_alloc (World.grownBy_alloc w (Obj.cells #[.int .i64 lo, .int .i64 hi, .int .i64 rt] 84) none) (Obj.cells (madeCells (Value.cells (.agg #[.int .i64 0, .int .i64 0, .bool false])) (l.length * 3)) 42)
  simp only [World.size_alloc] at hA0
  go_enter Tryz.func91, Tryz.ntmps91
  go_wp2_with (at_make; refine wpList_make_has _ rfl _ _ _ rfl 42 i0 _ 3 Tryz.underlying24 hi0 hz0 hz1 .i64 .i64 _ _ l.length rfl rfl rfl rfl (by rw [hz2]; omega) (by unfold maxLen; omega) ?_)
  go_loopw [8, 9, 15] (fun i8 v9 i wr => ∃ (k : Nat) (A : Array Value), k ≤ l.length ∧ i = .int .i64 k ∧ Has wr w.heap.size 84 #[.int .i64 lo, .int .i64 hi, .int .i64 rt] ∧ Has wr (w.heap.size + 1) 42 A ∧ Hid (A.size = l.length * 3) ∧ Hid (Laid A (each (tk lo hi rt) l vs) k) ∧ w.grownBy wr none) (fun _ _ i _ => l.length - (intOf i).toNat)
  case atStart => exact ⟨0, _, Nat.zero_le _, rfl, G0, hA0, Lib.hid (size_madeCells _ _), Lib.hid (fun j hj => by omega), g00⟩
  case round =>
    clear hA0 G0 g00
    obtain ⟨k, A, hk, rfl, G, hA, hs, hr, hg⟩ := hrel
    have hj1 : decide ((k : Int) < (vs.length : Int)) = decide (k < l.length) := by rw [hlen]; simp
    by_cases hlt : k < l.length
    · obtain ⟨x, rfl, hb, cx, cy, cz⟩ := (h.kept hg) k hlt
      obtain ⟨y, rfl, _, cv⟩ := (hv.kept hg) k (by omega)
      have hkv : k < vs.length := by omega
      have hT : (each (tk lo hi rt) l vs).getD k zR = tk lo hi rt (rx l k, ra l k, ro l k) (nth vs k) := each_at hlt
      have cT : ∀ d os, Calls Tryz.prog 119 #[.agg #[.int .i64 lo, .int .i64 hi, .int .i64 rt], .agg #[.int .i64 (rx l k), .int .i64 (ra l k), .bool (ro l k)], .int .i64 (nth vs k)] (Go.Sort.grow (redrawn wr d) os) (RetR (tk lo hi rt (rx l k, ra l k, ro l k) (nth vs k)) (Go.Sort.grow (redrawn wr d) os)) := fun d os => sane.implTaken lo hi rt (rx l k) (ra l k) (nth vs k) (ro l k) n f q _ (he.kept (gr_trans hg (gr_rg _ _ _))) (ht.kept (gr_trans hg (gr_rg _ _ _)))
      generalize tk lo hi rt (rx l k, ra l k, ro l k) (nth vs k) = T at *
      obtain ⟨t1, t2, t3⟩ := T
      obtain ⟨v0, e0⟩ : ∃ v, A[k * 3]? = some v := ⟨_, Array.getElem?_eq_getElem (by have := hs.out; omega)⟩
      obtain ⟨v1, e1⟩ : ∃ v, A[k * 3 + 1]? = some v := ⟨_, Array.getElem?_eq_getElem (by have := hs.out; omega)⟩
      obtain ⟨v2, e2⟩ : ∃ v, A[k * 3 + 2]? = some v := ⟨_, Array.getElem?_eq_getElem (by have := hs.out; omega)⟩
      obtain ⟨b0, b1, b2, _, _, _⟩ := rd.three G
      go_wp2_with fail
      have q0 : ∀ d os, (Go.Sort.grow (redrawn wr d) os).cell? ⟨w.heap.size, 0, none⟩ = some (.int .i64 lo) := cell_regrown b0
      have q1 : ∀ d os, (Go.Sort.grow (redrawn wr d) os).cell? ⟨w.heap.size, 1, none⟩ = some (.int .i64 hi) := cell_regrown b1
      have q2 : ∀ d os, (Go.Sort.grow (redrawn wr d) os).cell? ⟨w.heap.size, 2, none⟩ = some (.int .i64 rt) := cell_regrown b2
      have q3 : ∀ d os, (Go.Sort.grow (redrawn wr d) os).cell? (x.add (k * 3)) = some (.int .i64 (rx l k)) := cell_regrown cx
      have q4 : ∀ d os, (Go.Sort.grow (redrawn wr d) os).cell? ⟨(x.add (k * 3)).block, (x.add (k * 3)).off + 1, none⟩ = some (.int .i64 (ra l k)) := cell_regrown cy
      have q5 : ∀ d os, (Go.Sort.grow (redrawn wr d) os).cell? ⟨(x.add (k * 3)).block, (x.add (k * 3)).off + 2, none⟩ = some (.bool (ro l k)) := cell_regrown cz
      refine region_below_tail 10 (by kernel_rfl) (by kernel_rfl) ?_
      simp only [List.take_succ_cons, List.take_zero, List.drop_succ_cons, List.drop_zero]
      repeat (quiet_step (first | (go_at_call 119; with_reducible exact rg_retR (cT _ _)) | fail))
      refine wpQuiet_nil ?_
      intro _ hw'
      obtain ⟨⟨dq, osq⟩, hw''⟩ := hw'
      subst hw''
      have gq := gr_rg wr dq osq
      replace hA := hA.grown gq (by simp)
      replace G := G.grown gq (by simp)
      replace hg := gr_trans hg gq
      clear gq q0 q1 q2 q3 q4 q5 b0 b1 b2 cx cy cz cT cv
      generalize Go.Sort.grow (redrawn wr dq) osq = w2 at *
      have d0 := (hA.cell (k * 3)).trans e0
      have d1 := (hA.cell (k * 3 + 1)).trans e1
      have d2 := (hA.cell (k * 3 + 2)).trans e2
      have f0 := hA.frozen (k * 3)
      have f1 := hA.frozen (k * 3 + 1)
      have f2 := hA.frozen (k * 3 + 2)
      clear e0 e1 e2
      go_wp2_with fail
      go_roundw
      case rel => exact ⟨k + 1, _, by omega, by go_num, ((G.set_other (by omega) _ _).set_other (by omega) _ _).set_other (by omega) _ _, ((hA.set _ _).set _ _).set _ _, Lib.hid (by simpa using hs.out), Lib.hid (hr.out.next (n := l.length) (r := (t1, t2, t3)) (Nat.le_of_eq hs.out.symm) hlt hT), gr_new (gr_new (gr_new hg (by omega) _ _) (by omega) _ _) (by omega) _ _⟩
      case measure => simp [intOf]; omega
    · obtain rfl : k = l.length := by omega
      go_wp2_with fail
      go_ret
      exact ⟨_, l.length, by rw [each_len]; rfl, hg, Or.inr ⟨_, A, rfl, hA, fun j hj => hr.out j (by rwa [each_len] at hj)⟩, fun x e => by injection e with e; subst e; exact Nat.le_succ _⟩
set_option maxRecDepth 100000 in
set_option maxHeartbeats 4000000 in
theorem implGotAll (a b : Option Addr) (cap cap2 : Nat) (l : List R) (vs : List Int) (w : World) (h : rd.Arg w a l) (hv : Ints w b vs) (hl : l.length ≤ 1048576) (hlen : vs.length = l.length) :
    Calls Tryz.prog 92 #[.slice a l.length cap, .slice b vs.length cap2] w (RetO (each gt l vs) w) := by
  obtain ⟨i0, hi0, hz0, hz1, hz2⟩ := info_parts infoReading
  have hA0 := Has.fresh w 42 (madeCells (Value.cells (.agg #[.int .i64 0, .int .i64 0, .bool false])) (l.length * 3))
  have g00 := World.grownBy_alloc w (Obj.cells (madeCells (Value.cells (.agg #[.int .i64 0, .int .i64 0, .bool false])) (l.length * 3)) 42) none
  go_enter Tryz.func92, Tryz.ntmps92
  go_wp2_with (at_make; refine wpList_make_has _ rfl _ _ _ rfl 42 i0 _ 3 Tryz.underlying24 hi0 hz0 hz1 .i64 .i64 _ _ l.length rfl rfl rfl rfl (by rw [hz2]; omega) (by unfold maxLen; omega) ?_)
  go_loopw [6, 7, 13] (fun i8 v9 i wr => ∃ (k : Nat) (A : Array Value), k ≤ l.length ∧ i = .int .i64 k ∧ Has wr w.heap.size 42 A ∧ Hid (A.size = l.length * 3) ∧ Hid (Laid A (each gt l vs) k) ∧ w.grownBy wr none) (fun _ _ i _ => l.length - (intOf i).toNat)
  case atStart => exact ⟨0, _, Nat.zero_le _, rfl, hA0, Lib.hid (size_madeCells _ _), Lib.hid (fun j hj => by omega), g00⟩
  case round =>
    clear hA0 g00
    obtain ⟨k, A, hk, rfl, hA, hs, hr, hg⟩ := hrel
    have hj1 : decide ((k : Int) < (vs.length : Int)) = decide (k < l.length) := by rw [hlen]; simp
    by_cases hlt : k < l.length
    · obtain ⟨x, rfl, hb, cx, cy, cz⟩ := (h.kept hg) k hlt
      obtain ⟨y, rfl, _, cv⟩ := (hv.kept hg) k (by omega)
      have hkv : k < vs.length := by omega
      have hT : (each gt l vs).getD k zR = gt (rx l k, ra l k, ro l k) (nth vs k) := each_at hlt
      have cB := fun W => fix.implBetween (nth vs k) 0 1000 W
      have cT : ∀ d os, Calls Tryz.prog 120 #[.agg #[.int .i64 (rx l k), .int .i64 (ra l k), .bool (ro l k)], .int .i64 (btw (nth vs k) 0 1000)] (Go.Sort.grow (redrawn wr d) os) (RetR (gt (rx l k, ra l k, ro l k) (nth vs k)) (Go.Sort.grow (redrawn wr d) os)) := fun d os => rd.implGot (rx l k) (ra l k) (btw (nth vs k) 0 1000) (ro l k) _
      generalize gt (rx l k, ra l k, ro l k) (nth vs k) = T at *
      generalize btw (nth vs k) 0 1000 = V at *
      obtain ⟨t1, t2, t3⟩ := T
      obtain ⟨v0, e0⟩ : ∃ v, A[k * 3]? = some v := ⟨_, Array.getElem?_eq_getElem (by have := hs.out; omega)⟩
      obtain ⟨v1, e1⟩ : ∃ v, A[k * 3 + 1]? = some v := ⟨_, Array.getElem?_eq_getElem (by have := hs.out; omega)⟩
      obtain ⟨v2, e2⟩ : ∃ v, A[k * 3 + 2]? = some v := ⟨_, Array.getElem?_eq_getElem (by have := hs.out; omega)⟩
      go_wp2_with fail
      have q3 : ∀ d os, (Go.Sort.grow (redrawn wr d) os).cell? (x.add (k * 3)) = some (.int .i64 (rx l k)) := cell_regrown cx
      have q4 : ∀ d os, (Go.Sort.grow (redrawn wr d) os).cell? ⟨(x.add (k * 3)).block, (x.add (k * 3)).off + 1, none⟩ = some (.int .i64 (ra l k)) := cell_regrown cy
      have q5 : ∀ d os, (Go.Sort.grow (redrawn wr d) os).cell? ⟨(x.add (k * 3)).block, (x.add (k * 3)).off + 2, none⟩ = some (.bool (ro l k)) := cell_regrown cz
      refine region_below_tail 10 (by kernel_rfl) (by kernel_rfl) ?_
      simp only [List.take_succ_cons, List.take_zero, List.drop_succ_cons, List.drop_zero]
      repeat (quiet_step (first | (go_at_call 120; with_reducible exact rg_retR (cT _ _)) | (go_at_call 44; with_reducible exact rg_same (cB _)) | fail))
      refine wpQuiet_nil ?_
      intro _ hw'
      obtain ⟨⟨dq, osq⟩, hw''⟩ := hw'
      subst hw''
      have gq := gr_rg wr dq osq
      replace hA := hA.grown gq (by simp)
      replace hg := gr_trans hg gq
      clear gq q3 q4 q5 cx cy cz cT cv cB
      generalize Go.Sort.grow (redrawn wr dq) osq = w2 at *
      have d0 := (hA.cell (k * 3)).trans e0
      have d1 := (hA.cell (k * 3 + 1)).trans e1
      have d2 := (hA.cell (k * 3 + 2)).trans e2
      have f0 := hA.frozen (k * 3)
      have f1 := hA.frozen (k * 3 + 1)
      have f2 := hA.frozen (k * 3 + 2)
      clear e0 e1 e2
      go_wp2_with fail
      go_roundw
      case rel => exact ⟨k + 1, _, by omega, by go_num, ((hA.set _ _).set _ _).set _ _, Lib.hid (by simpa using hs.out), Lib.hid (hr.out.next (n := l.length) (r := (t1, t2, t3)) (Nat.le_of_eq hs.out.symm) hlt hT), gr_new (gr_new (gr_new hg (by omega) _ _) (by omega) _ _) (by omega) _ _⟩
      case measure => simp [intOf]; omega
    · obtain rfl : k = l.length := by omega
      go_wp2_with fail
      go_ret
      exact ⟨_, l.length, by rw [each_len]; rfl, hg, Or.inr ⟨_, A, rfl, hA, fun j hj => hr.out j (by rwa [each_len] at hj)⟩, fun x e => by injection e with e; subst e; exact Nat.le_refl _⟩
end Go.Proofs.YtjbgcgblamijdaaGreatDoor.se

/- Senses: their bulk, copied, compared. -/
namespace Go.Proofs.YtjbgcgblamijdaaGreatDoor.se
open Go.ChangeShapes Go.WideShapes Go.ChangeAt Go.RowKit
open Go.Proofs.YtjbgcgblamijdaaGreatDoor.nums Go.Proofs.YtjbgcgblamijdaaGreatDoor.mem
open Go.Proofs.YtjbgcgblamijdaaGreatDoor.tab (Ret)
open Go.Proofs.YtjbgcgblamijdaaGreatDoor.rd (R okR zR OwnR)
open Go.Proofs.YtjbgcgblamijdaaGreatDoor.il (nth Ints Own)
set_option linter.unusedVariables false

set_option maxHeartbeats 1000000 in
theorem szSenses_yes (s : S) (p : P) (w : World) (hl : Lim s) (h : bulk s ≤ 1048576) : Calls Tryz.prog 21 #[sv s p, .int .i64 1048576] w (Ret (.int .i64 (1048576 - (bulk s : Int))) w) := by
  have K0 := Has.fresh w 47 (cs6 s p)
  have g0 := World.grownBy_alloc w (Obj.cells (cs6 s p) 47) none
  obtain ⟨⟨c0, c1, c2⟩, _, _, c5⟩ := six K0
  unfold bulk at h ⊢
  obtain ⟨A, hA⟩ : ∃ A : Nat, 1048576 = A + s.sp.length := ⟨1048576 - s.sp.length, by omega⟩
  obtain ⟨B, hB⟩ : ∃ B : Nat, A = B + s.he.length := ⟨A - s.he.length, by omega⟩
  obtain ⟨C, hC⟩ : ∃ C : Nat, B = C + s.fa.length := ⟨B - s.fa.length, by omega⟩
  obtain ⟨D, hD⟩ : ∃ D : Nat, C = D + s.sq.length := ⟨C - s.sq.length, by omega⟩
  have k1 := fun a cap W => szR_yes a s.sp.length cap 1048576 A W hl.sp (by omega) hA
  have k2 := fun a cap W => szR_yes a s.he.length cap A B W hl.he (by omega) hB
  have k3 := fun a cap W => szR_yes a s.fa.length cap B C W hl.fa (by omega) hC
  have k4 := fun a cap W => szI_yes a s.sq.length cap C D W hl.sq (by omega) hD
  have n1 : decide ((A : Int) < 0) = false := by simp
  have n2 : decide ((B : Int) < 0) = false := by simp
  have n3 : decide ((C : Int) < 0) = false := by simp
  have n4 : decide ((D : Int) < 0) = false := by simp
  have e : (1048576 - ((s.sp.length + s.he.length + s.fa.length + s.sq.length : Nat) : Int)) = (D : Int) := by omega
  rw [e]
  clear e hA hB hC hD h
  go_enter Tryz.func21, Tryz.ntmps21
  go_wp2_with fail
  refine (k1 _ _ _).mono ?_
  rintro e w' ⟨rfl, rfl⟩
  go_wp2_with fail
  refine (k2 _ _ _).mono ?_
  rintro e w' ⟨rfl, rfl⟩
  go_wp2_with fail
  refine (k3 _ _ _).mono ?_
  rintro e w' ⟨rfl, rfl⟩
  go_wp2_with fail
  refine (k4 _ _ _).mono ?_
  rintro e w' ⟨rfl, rfl⟩
  go_wp2_with fail
  go_ret
  exact ⟨rfl, g0⟩
set_option maxHeartbeats 1000000 in
theorem szSenses_no (s : S) (p : P) (w : World) (hl : Lim s) (h : ¬ bulk s ≤ 1048576) : Calls Tryz.prog 21 #[sv s p, .int .i64 1048576] w (Ret (.int .i64 (-1)) w) := by
  have K0 := Has.fresh w 47 (cs6 s p)
  have g0 := World.grownBy_alloc w (Obj.cells (cs6 s p) 47) none
  obtain ⟨⟨c0, c1, c2⟩, _, _, c5⟩ := six K0
  unfold bulk at h
  by_cases h1 : s.sp.length ≤ 1048576
  · obtain ⟨A, hA⟩ : ∃ A : Nat, 1048576 = A + s.sp.length := ⟨1048576 - s.sp.length, by omega⟩
    have k1 := fun a cap W => szR_yes a s.sp.length cap 1048576 A W hl.sp (by omega) hA
    have n1 : decide ((A : Int) < 0) = false := by simp
    by_cases h2 : s.he.length ≤ A
    · obtain ⟨B, hB⟩ : ∃ B : Nat, A = B + s.he.length := ⟨A - s.he.length, by omega⟩
      have k2 := fun a cap W => szR_yes a s.he.length cap A B W hl.he (by omega) hB
      have n2 : decide ((B : Int) < 0) = false := by simp
      by_cases h3 : s.fa.length ≤ B
      · obtain ⟨C, hC⟩ : ∃ C : Nat, B = C + s.fa.length := ⟨B - s.fa.length, by omega⟩
        have k3 := fun a cap W => szR_yes a s.fa.length cap B C W hl.fa (by omega) hC
        have n3 : decide ((C : Int) < 0) = false := by simp
        have k4 := fun a cap W => szI_no a s.sq.length cap C W hl.sq (by omega) (by omega)
        clear hA hB hC h h1 h2 h3
        go_enter Tryz.func21, Tryz.ntmps21
        go_wp2_with fail
        refine (k1 _ _ _).mono ?_
        rintro e w' ⟨rfl, rfl⟩
        go_wp2_with fail
        refine (k2 _ _ _).mono ?_
        rintro e w' ⟨rfl, rfl⟩
        go_wp2_with fail
        refine (k3 _ _ _).mono ?_
        rintro e w' ⟨rfl, rfl⟩
        go_wp2_with fail
        refine (k4 _ _ _).mono ?_
        rintro e w' ⟨rfl, rfl⟩
        go_wp2_with fail
        go_ret
        exact ⟨rfl, g0⟩
      · have k3 := fun a cap W => szR_no a s.fa.length cap B W hl.fa (by omega) h3
        clear hA hB h h1 h2 h3
        go_enter Tryz.func21, Tryz.ntmps21
        go_wp2_with fail
        refine (k1 _ _ _).mono ?_
        rintro e w' ⟨rfl, rfl⟩
        go_wp2_with fail
        refine (k2 _ _ _).mono ?_
        rintro e w' ⟨rfl, rfl⟩
        go_wp2_with fail
        refine (k3 _ _ _).mono ?_
        rintro e w' ⟨rfl, rfl⟩
        go_wp2_with fail
        go_ret
        exact ⟨rfl, g0⟩
    · have k2 := fun a cap W => szR_no a s.he.length cap A W hl.he (by omega) h2
      clear hA h h1 h2
      go_enter Tryz.func21, Tryz.ntmps21
      go_wp2_with fail
      refine (k1 _ _ _).mono ?_
      rintro e w' ⟨rfl, rfl⟩
      go_wp2_with fail
      refine (k2 _ _ _).mono ?_
      rintro e w' ⟨rfl, rfl⟩
      go_wp2_with fail
      go_ret
      exact ⟨rfl, g0⟩
  · have k1 := fun a cap W => szR_no a s.sp.length cap 1048576 W hl.sp (by omega) h1
    clear h h1
    go_enter Tryz.func21, Tryz.ntmps21
    go_wp2_with fail
    refine (k1 _ _ _).mono ?_
    rintro e w' ⟨rfl, rfl⟩
    go_wp2_with fail
    go_ret
    exact ⟨rfl, g0⟩

theorem gr6 {a w : World} {g : Nat} (h : a.grownBy w none) (hg : a.heap.size ≤ g) (u0 u1 u2 u3 u4 u5 : Value) :
    a.grownBy ((((((w.setCell ⟨g, 0, none⟩ u0).setCell ⟨g, 1, none⟩ u1).setCell ⟨g, 2, none⟩ u2).setCell ⟨g, 3, none⟩ u3).setCell ⟨g, 4, none⟩ u4).setCell ⟨g, 5, none⟩ u5) none :=
  gr_new (gr_new (gr_new (gr_new (gr_new (gr_new h hg _ _) hg _ _) hg _ _) hg _ _) hg _ _) hg _ _
theorem set6 {w : World} {g : Nat} {t : TypeId} {a b c d e f : Value} (k : Has w g t #[a, b, c, d, e, f]) (u0 u1 u2 u3 u4 u5 : Value) :
    Has ((((((w.setCell ⟨g, 0, none⟩ u0).setCell ⟨g, 1, none⟩ u1).setCell ⟨g, 2, none⟩ u2).setCell ⟨g, 3, none⟩ u3).setCell ⟨g, 4, none⟩ u4).setCell ⟨g, 5, none⟩ u5) g t #[u0, u1, u2, u3, u4, u5] :=
  (((((k.put 0 u0 rfl).put 1 u1 rfl).put 2 u2 rfl).put 3 u3 rfl).put 4 u4 rfl).put 5 u5 rfl
/-- A store into an older block of one's own is seen by none of what is kept. -/
theorem OwnS.set {b : Nat} {w : World} {s : S} {p : P} (h : OwnS b w s p) (g i : Nat) (u : Value) (hg : ∀ c, blkS s p c → c ≠ g) : OwnS b (w.setCell ⟨g, i, none⟩ u) s p :=
  h.chg (T := fun c => c = g) (chg_of_gr (gr_set (gr_refl w (some g)) i u) (fun b e => by injection e)) hg
theorem OwnS.set6 {b : Nat} {w : World} {s : S} {p : P} (h : OwnS b w s p) (g : Nat) (hg : g < b) (u0 u1 u2 u3 u4 u5 : Value) :
    OwnS b ((((((w.setCell ⟨g, 0, none⟩ u0).setCell ⟨g, 1, none⟩ u1).setCell ⟨g, 2, none⟩ u2).setCell ⟨g, 3, none⟩ u3).setCell ⟨g, 4, none⟩ u4).setCell ⟨g, 5, none⟩ u5) s p := by
  have hn : ∀ (W : World) (K : OwnS b W s p) c, blkS s p c → c ≠ g := fun W K c hc e => by have := (K.lt hc).1; omega
  have h0 := h.set g 0 u0 (hn _ h)
  have h1 := h0.set g 1 u1 (hn _ h0)
  have h2 := h1.set g 2 u2 (hn _ h1)
  have h3 := h2.set g 3 u3 (hn _ h2)
  have h4 := h3.set g 4 u4 (hn _ h3)
  exact h4.set g 5 u5 (hn _ h4)

set_option maxHeartbeats 4000000 in
theorem toSenses (s : S) (p : P) (w : World) (h : Arg w s p) (hb : Bd s 1048576) : Calls Tryz.prog 23 #[sv s p] w (RetS s w) := by
  have hl1 := hb.sp
  have hl2 := hb.he
  have hl3 := hb.fa
  have hl4 := hb.sq
  have K0 := ((Has.fresh w 47 (cs6 s p)).alloc (Obj.cells #[.slice none 0 0, .slice none 0 0, .slice none 0 0, .int .i64 0, .bool false, .slice none 0 0] 27)).alloc (Obj.cells #[.slice none 0 0, .slice none 0 0, .slice none 0 0, .int .i64 0, .bool false, .slice none 0 0] 27)
  have K1 := (Has.fresh (w.alloc (Obj.cells (cs6 s p) 47)) 27 #[.slice none 0 0, .slice none 0 0, .slice none 0 0, .int .i64 0, .bool false, .slice none 0 0]).alloc (Obj.cells #[.slice none 0 0, .slice none 0 0, .slice none 0 0, .int .i64 0, .bool false, .slice none 0 0] 27)
  have K2 := Has.fresh ((w.alloc (Obj.cells (cs6 s p) 47)).alloc (Obj.cells #[.slice none 0 0, .slice none 0 0, .slice none 0 0, .int .i64 0, .bool false, .slice none 0 0] 27)) 27 #[.slice none 0 0, .slice none 0 0, .slice none 0 0, .int .i64 0, .bool false, .slice none 0 0]
  have g0 := gr_alloc (gr_alloc (World.grownBy_alloc w (Obj.cells (cs6 s p) 47) none) (Obj.cells #[.slice none 0 0, .slice none 0 0, .slice none 0 0, .int .i64 0, .bool false, .slice none 0 0] 27)) (Obj.cells #[.slice none 0 0, .slice none 0 0, .slice none 0 0, .int .i64 0, .bool false, .slice none 0 0] 27)
  obtain ⟨⟨c0, c1, c2⟩, c3, c4, c5⟩ := six K0
  go_enter Tryz.func23, Tryz.ntmps23
  go_wp2_with fail
  clear c0 c1 c2 c3 c4 c5
  generalize hw3 : ((w.alloc (Obj.cells (cs6 s p) 47)).alloc (Obj.cells #[.slice none 0 0, .slice none 0 0, .slice none 0 0, .int .i64 0, .bool false, .slice none 0 0] 27)).alloc (Obj.cells #[.slice none 0 0, .slice none 0 0, .slice none 0 0, .int .i64 0, .bool false, .slice none 0 0] 27) = w3 at *
  have hs3 : w3.heap.size = w.heap.size + 1 + 1 + 1 := by rw [← hw3]; simp
  replace K1 : Has w3 (w.heap.size + 1) 27 #[.slice none 0 0, .slice none 0 0, .slice none 0 0, .int .i64 0, .bool false, .slice none 0 0] := by simpa using K1
  replace K2 : Has w3 (w.heap.size + 1 + 1) 27 #[.slice none 0 0, .slice none 0 0, .slice none 0 0, .int .i64 0, .bool false, .slice none 0 0] := by simpa using K2
  clear hw3
  have ne0 : w.heap.size ≠ w.heap.size + 1 + 1 := by omega
  have ne1 : w.heap.size + 1 ≠ w.heap.size + 1 + 1 := by omega
  have le2 : w.heap.size ≤ w.heap.size + 1 + 1 := by omega
  have G3 := hs3
  refine (rd.toReadings _ _ _ _ (h.kept g0).sp hl1).mono ?_
  rintro e w4 ⟨a1, k1, rfl, r1, o1, b1⟩
  replace K0 := K0.grown r1 (by simp)
  replace K1 := K1.grown r1 (by simp)
  replace K2 := K2.grown r1 (by simp)
  replace g0 := gr_trans g0 r1
  have z4 := r1.size
  clear r1
  obtain ⟨⟨c0, c1, c2⟩, c3, c4, c5⟩ := six K0
  obtain ⟨⟨d0, d1, d2⟩, d3, d4, d5⟩ := six K2
  obtain ⟨⟨f0, f1, f2⟩, f3, f4, f5⟩ := free6 K2
  go_wp2_with fail
  replace K0 := K0.set_other ne0 0 (.slice a1 s.sp.length k1)
  replace K1 := K1.set_other ne1 0 (.slice a1 s.sp.length k1)
  replace K2 := K2.put 0 (.slice a1 s.sp.length k1) rfl
  replace g0 := gr_new g0 le2 0 (.slice a1 s.sp.length k1)
  replace o1 := o1.grown (gr_set (gr_refl w4 (some (w.heap.size + 1 + 1))) 0 (.slice a1 s.sp.length k1)) (fun x e => by have := b1 x e; intro e2; injection e2; omega)
  replace z4 : w3.heap.size ≤ (w4.setCell ⟨w.heap.size + 1 + 1, 0, none⟩ (.slice a1 s.sp.length k1)).heap.size := by simpa using z4
  clear c0 c1 c2 c3 c4 c5 d0 d1 d2 d3 d4 d5 f0 f1 f2 f3 f4 f5
  generalize w4.setCell ⟨w.heap.size + 1 + 1, 0, none⟩ (.slice a1 s.sp.length k1) = w5 at *
  refine (rd.toReadings _ _ _ _ (h.kept g0).he hl2).mono ?_
  rintro e w6 ⟨a2, k2, rfl, r1, o2, b2⟩
  replace K0 := K0.grown r1 (by simp)
  replace K1 := K1.grown r1 (by simp)
  replace K2 := K2.grown r1 (by simp)
  have d12 : ∀ x y : Addr, a1 = some x → a2 = some y → x.block ≠ y.block := fun x y ex ey => by have := o1.lt ex; have := b2 y ey; omega
  replace o1 := o1.kept r1
  replace g0 := gr_trans g0 r1
  have z6 := r1.size
  clear r1
  obtain ⟨⟨c0, c1, c2⟩, c3, c4, c5⟩ := six K0
  obtain ⟨⟨d0, d1, d2⟩, d3, d4, d5⟩ := six K2
  obtain ⟨⟨f0, f1, f2⟩, f3, f4, f5⟩ := free6 K2
  go_wp2_with fail
  replace K0 := K0.set_other ne0 1 (.slice a2 s.he.length k2)
  replace K1 := K1.set_other ne1 1 (.slice a2 s.he.length k2)
  replace K2 := K2.put 1 (.slice a2 s.he.length k2) rfl
  replace g0 := gr_new g0 le2 1 (.slice a2 s.he.length k2)
  have S1 := gr_set (gr_refl w6 (some (w.heap.size + 1 + 1))) 1 (.slice a2 s.he.length k2)
  replace o1 := o1.grown S1 (fun x e => by have := b1 x e; intro e2; injection e2; omega)
  replace o2 := o2.grown S1 (fun x e => by have := b2 x e; intro e2; injection e2; omega)
  replace z6 : w5.heap.size ≤ (w6.setCell ⟨w.heap.size + 1 + 1, 1, none⟩ (.slice a2 s.he.length k2)).heap.size := by simpa using z6
  clear c0 c1 c2 c3 c4 c5 d0 d1 d2 d3 d4 d5 f0 f1 f2 f3 f4 f5 S1
  generalize w6.setCell ⟨w.heap.size + 1 + 1, 1, none⟩ (.slice a2 s.he.length k2) = w7 at *
  refine (rd.toReadings _ _ _ _ (h.kept g0).fa hl3).mono ?_
  rintro e w8 ⟨a3, k3, rfl, r1, o3, b3⟩
  replace K0 := K0.grown r1 (by simp)
  replace K1 := K1.grown r1 (by simp)
  replace K2 := K2.grown r1 (by simp)
  have d13 : ∀ x y : Addr, a1 = some x → a3 = some y → x.block ≠ y.block := fun x y ex ey => by have := o1.lt ex; have := b3 y ey; omega
  have d23 : ∀ x y : Addr, a2 = some x → a3 = some y → x.block ≠ y.block := fun x y ex ey => by have := o2.lt ex; have := b3 y ey; omega
  replace o1 := o1.kept r1
  replace o2 := o2.kept r1
  replace g0 := gr_trans g0 r1
  have z8 := r1.size
  clear r1
  obtain ⟨⟨c0, c1, c2⟩, c3, c4, c5⟩ := six K0
  obtain ⟨⟨d0, d1, d2⟩, d3, d4, d5⟩ := six K2
  obtain ⟨⟨f0, f1, f2⟩, f3, f4, f5⟩ := free6 K2
  go_wp2_with fail
  replace K1 := ((K1.set_other ne1 2 (.slice a3 s.fa.length k3)).set_other ne1 3 (.int .i64 s.wn)).set_other ne1 4 (.bool s.ar)
  replace K2 := ((K2.put 2 (.slice a3 s.fa.length k3) rfl).put 3 (.int .i64 s.wn) rfl).put 4 (.bool s.ar) rfl
  replace g0 := gr_new (gr_new (gr_new g0 le2 2 (.slice a3 s.fa.length k3)) le2 3 (.int .i64 s.wn)) le2 4 (.bool s.ar)
  have S1 := gr_set (gr_set (gr_set (gr_refl w8 (some (w.heap.size + 1 + 1))) 2 (.slice a3 s.fa.length k3)) 3 (.int .i64 s.wn)) 4 (.bool s.ar)
  replace o1 := o1.grown S1 (fun x e => by have := b1 x e; intro e2; injection e2; omega)
  replace o2 := o2.grown S1 (fun x e => by have := b2 x e; intro e2; injection e2; omega)
  replace o3 := o3.grown S1 (fun x e => by have := b3 x e; intro e2; injection e2; omega)
  replace z8 : w7.heap.size ≤ (((w8.setCell ⟨w.heap.size + 1 + 1, 2, none⟩ (.slice a3 s.fa.length k3)).setCell ⟨w.heap.size + 1 + 1, 3, none⟩ (.int .i64 s.wn)).setCell ⟨w.heap.size + 1 + 1, 4, none⟩ (.bool s.ar)).heap.size := by simpa using z8
  clear c0 c1 c2 c3 c4 c5 d0 d1 d2 d3 d4 d5 f0 f1 f2 f3 f4 f5 S1
  generalize ((w8.setCell ⟨w.heap.size + 1 + 1, 2, none⟩ (.slice a3 s.fa.length k3)).setCell ⟨w.heap.size + 1 + 1, 3, none⟩ (.int .i64 s.wn)).setCell ⟨w.heap.size + 1 + 1, 4, none⟩ (.bool s.ar) = w9 at *
  refine (il.toInts _ _ _ _ (h.kept g0).sq hl4).mono ?_
  rintro e w10 ⟨a4, k4, rfl, r1, o4, b4⟩
  replace K1 := K1.grown r1 (by simp)
  replace K2 := K2.grown r1 (by simp)
  replace o1 := o1.kept r1
  replace o2 := o2.kept r1
  replace o3 := o3.kept r1
  replace g0 := gr_trans g0 r1
  clear r1 K0
  obtain ⟨⟨c0, c1, c2⟩, c3, c4, c5⟩ := six K1
  obtain ⟨⟨e0, e1, e2⟩, e3, e4, e5⟩ := free6 K1
  obtain ⟨⟨d0, d1, d2⟩, d3, d4, d5⟩ := six K2
  obtain ⟨⟨f0, f1, f2⟩, f3, f4, f5⟩ := free6 K2
  go_wp2_with fail
  have S1 := gr_set (gr_refl w10 (some (w.heap.size + 1 + 1))) 5 (.slice a4 s.sq.length k4)
  replace o1 := o1.grown S1 (fun x e => by have := b1 x e; intro e2; injection e2; omega)
  replace o2 := o2.grown S1 (fun x e => by have := b2 x e; intro e2; injection e2; omega)
  replace o3 := o3.grown S1 (fun x e => by have := b3 x e; intro e2; injection e2; omega)
  replace o4 := o4.grown S1 (fun x e => by have := b4 x e; intro e2; injection e2; omega)
  have O : OwnS w3.heap.size (w10.setCell ⟨w.heap.size + 1 + 1, 5, none⟩ (.slice a4 s.sq.length k4)) s ⟨a1, k1, a2, k2, a3, k3, a4, k4⟩ :=
    ⟨o1, o2, o3, o4, b1, (fun x e => by have := b2 x e; omega), (fun x e => by have := b3 x e; omega), (fun x e => by have := b4 x e; omega), d12, d13, d23⟩
  have Q := O.set6 (w.heap.size + 1) (by omega) (.slice a1 s.sp.length k1) (.slice a2 s.he.length k2) (.slice a3 s.fa.length k3) (.int .i64 s.wn) (.bool s.ar) (.slice a4 s.sq.length k4)
  have G := gr6 (gr_new g0 le2 5 (.slice a4 s.sq.length k4)) (show w.heap.size ≤ w.heap.size + 1 by omega) (.slice a1 s.sp.length k1) (.slice a2 s.he.length k2) (.slice a3 s.fa.length k3) (.int .i64 s.wn) (.bool s.ar) (.slice a4 s.sq.length k4)
  obtain ⟨⟨u0, u1, u2⟩, u3, u4, u5⟩ := six (set6 (K1.set_other ne1 5 (.slice a4 s.sq.length k4)) (.slice a1 s.sp.length k1) (.slice a2 s.he.length k2) (.slice a3 s.fa.length k3) (.int .i64 s.wn) (.bool s.ar) (.slice a4 s.sq.length k4))
  exact bodyPost_ret (v := sv s ⟨a1, k1, a2, k2, a3, k3, a4, k4⟩) (by simp [results, Tryz.results23, go_sem, u0, u1, u2, u3, u4, u5]) rfl ⟨_, rfl, G, Q.below (by omega)⟩

set_option maxHeartbeats 2000000 in
theorem eqSenses (s : S) (p q : P) (w : World) (h : Arg w s p) (k : Arg w s q) (hb : Bd s 1048576) : Calls Tryz.prog 25 #[sv s p, sv s q] w (Ret (.bool true) w) := by
  have hl1 := hb.sp
  have hl2 := hb.he
  have hl3 := hb.fa
  have hl4 := hb.sq
  have K0 := (Has.fresh w 27 (cs6 s p)).alloc (Obj.cells (cs6 s q) 27)
  have K1 := Has.fresh (w.alloc (Obj.cells (cs6 s p) 27)) 27 (cs6 s q)
  have g0 := gr_alloc (World.grownBy_alloc w (Obj.cells (cs6 s p) 27) none) (Obj.cells (cs6 s q) 27)
  simp only [World.size_alloc] at K1
  obtain ⟨⟨c0, c1, c2⟩, c3, c4, c5⟩ := six K0
  obtain ⟨⟨d0, d1, d2⟩, d3, d4, d5⟩ := six K1
  go_enter Tryz.func25, Tryz.ntmps25
  go_wp2_with fail
  refine (rd.eqReadings _ _ _ _ _ _ (h.kept g0).sp (k.kept g0).sp hl1).mono ?_
  rintro e w1 ⟨rfl, r1⟩
  replace K0 := K0.grown r1 (by simp)
  replace K1 := K1.grown r1 (by simp)
  replace g0 := gr_trans g0 r1
  clear c0 c1 c2 c3 c4 c5 d0 d1 d2 d3 d4 d5 r1
  obtain ⟨⟨c0, c1, c2⟩, c3, c4, c5⟩ := six K0
  obtain ⟨⟨d0, d1, d2⟩, d3, d4, d5⟩ := six K1
  go_wp2_with fail
  refine (rd.eqReadings _ _ _ _ _ _ (h.kept g0).he (k.kept g0).he hl2).mono ?_
  rintro e w2 ⟨rfl, r1⟩
  replace K0 := K0.grown r1 (by simp)
  replace K1 := K1.grown r1 (by simp)
  replace g0 := gr_trans g0 r1
  clear c0 c1 c2 c3 c4 c5 d0 d1 d2 d3 d4 d5 r1
  obtain ⟨⟨c0, c1, c2⟩, c3, c4, c5⟩ := six K0
  obtain ⟨⟨d0, d1, d2⟩, d3, d4, d5⟩ := six K1
  go_wp2_with fail
  refine (rd.eqReadings _ _ _ _ _ _ (h.kept g0).fa (k.kept g0).fa hl3).mono ?_
  rintro e w3 ⟨rfl, r1⟩
  replace K0 := K0.grown r1 (by simp)
  replace K1 := K1.grown r1 (by simp)
  replace g0 := gr_trans g0 r1
  clear c0 c1 c2 c3 c4 c5 d0 d1 d2 d3 d4 d5 r1
  obtain ⟨⟨c0, c1, c2⟩, c3, c4, c5⟩ := six K0
  obtain ⟨⟨d0, d1, d2⟩, d3, d4, d5⟩ := six K1
  go_wp2_with fail
  refine (il.eqInts _ _ _ _ _ _ (h.kept g0).sq (k.kept g0).sq hl4).mono ?_
  rintro e w4 ⟨rfl, r1⟩
  go_wp2_with fail
  go_ret
  exact ⟨rfl, gr_trans g0 r1⟩
end Go.Proofs.YtjbgcgblamijdaaGreatDoor.se

