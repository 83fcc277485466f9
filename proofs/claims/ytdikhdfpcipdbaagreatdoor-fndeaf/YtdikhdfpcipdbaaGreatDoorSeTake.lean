/- takenAll and gotAll of the program. -/
import Derived.Test.YtdikhdfpcipdbaaGreatDoorSeFed
import Derived.Test.YtdikhdfpcipdbaaGreatDoorSnTaken
import Derived.Test.YtdikhdfpcipdbaaGreatDoorSeMark
import Derived.Test.YtdikhdfpcipdbaaGreatDoorQuietTail
import Derived.Deep.DeepCutAuto
namespace Go.Proofs.YtdikhdfpcipdbaaGreatDoor.se
open Go.ChangeShapes Go.WideShapes Go.ChangeAt Go.RowKit
open Go.Proofs.YtdikhdfpcipdbaaGreatDoor.nums Go.Proofs.YtdikhdfpcipdbaaGreatDoor.mem
open Go.Proofs.YtdikhdfpcipdbaaGreatDoor.tab (Ret wpList_make_has)
open Go.Proofs.YtdikhdfpcipdbaaGreatDoor.rd (R okR zR rx ra ro OwnR Laid RetO RetR infoReading)
open Go.Proofs.YtdikhdfpcipdbaaGreatDoor.il (nth Ints Own)
open Go.Proofs.YtdikhdfpcipdbaaGreatDoor.qt (region_below_tail rg_ret rg_same gr_rg)
set_option linter.unusedVariables false

theorem rg_retR {f : FuncId} {args : Array Value} {w : World} {d : Nat} {os : Array Obj} {r : R}
    (h : Calls Tryz.prog f args (Go.Sort.grow (redrawn w d) os) (RetR r (Go.Sort.grow (redrawn w d) os))) : Calls Tryz.prog f args (Go.Sort.grow (redrawn w d) os) fun e w'' => e = .returned (.agg #[.int .i64 r.1, .int .i64 r.2.1, .bool r.2.2]) ∧ ∃ p : Regrown, w'' = Go.Sort.grow (redrawn w p.d) p.os :=
  Calls.regrown_of (h.mono fun _ _ ⟨he, hg⟩ => ⟨he, below_of_none hg⟩)

set_option maxRecDepth 100000 in
set_option maxHeartbeats 4000000 in
theorem implTakenAll (lo hi rt : Int) (a b : Option Addr) (cap cap2 : Nat) (l : List R) (vs : List Int) (n f q : Addr) (w : World) (h : rd.Arg w a l) (hv : Ints w b vs) (hl : l.length ≤ 1048576) (hlen : vs.length = l.length) (he : sane.ErrB w n f q) (ht : sane.ErrT w) :
    Calls Tryz.prog 68 #[.agg #[.int .i64 lo, .int .i64 hi, .int .i64 rt], .slice a l.length cap, .slice b vs.length cap2] w (RetO (each (tk lo hi rt) l vs) w) := by
  obtain ⟨i0, hi0, hz0, hz1, hz2⟩ := info_parts infoReading
  have G0 := (Has.fresh w 72 #[.int .i64 lo, .int .i64 hi, .int .i64 rt]).alloc (Obj.cells (madeCells (Value.cells (.agg #[.int .i64 0, .int .i64 0, .bool false])) (l.length * 3)) 42)
  have hA0 := Has.fresh (w.alloc (Obj.cells #[.int .i64 lo, .int .i64 hi, .int .i64 rt] 72)) 42 (madeCells (Value.cells (.agg #[.int .i64 0, .int .i64 0, .bool false])) (l.length * 3))
  have g00 := gr_alloc (World.grownBy_alloc w (Obj.cells #[.int .i64 lo, .int .i64 hi, .int .i64 rt] 72) none) (Obj.cells (madeCells (Value.cells (.agg #[.int .i64 0, .int .i64 0, .bool false])) (l.length * 3)) 42)
  simp only [World.size_alloc] at hA0
  go_enter Tryz.func68, Tryz.ntmps68
  go_wp2_with (at_make; refine wpList_make_has _ rfl _ _ _ rfl 42 i0 _ 3 Tryz.underlying24 hi0 hz0 hz1 .i64 .i64 _ _ l.length rfl rfl rfl rfl (by rw [hz2]; omega) (by unfold maxLen; omega) ?_)
  go_loopw [8, 9, 15] (fun i8 v9 i wr => ∃ (k : Nat) (A : Array Value), k ≤ l.length ∧ i = .int .i64 k ∧ Has wr w.heap.size 72 #[.int .i64 lo, .int .i64 hi, .int .i64 rt] ∧ Has wr (w.heap.size + 1) 42 A ∧ Hid (A.size = l.length * 3) ∧ Hid (Laid A (each (tk lo hi rt) l vs) k) ∧ w.grownBy wr none) (fun _ _ i _ => l.length - (intOf i).toNat)
  case atStart => exact ⟨0, _, Nat.zero_le _, rfl, G0, hA0, Lib.hid (size_madeCells _ _), Lib.hid (fun j hj => by omega), g00⟩
  case round =>
    clear hA0 G0 g00
    obtain ⟨k, A, hk, rfl, G, hA, hs, hr, hg⟩ := hrel
    have hj1 : decide ((k : Int) < (vs.length : Int)) = decide (k < l.length) := by rw [hlen]; simp
    by_cases hlt : k < l.length
    · obtain ⟨x, rfl, hb, cx, cy, cz⟩ := (h.kept hg) k hlt
      obtain ⟨y, rfl, _, cv⟩ := (hv.kept hg) k (by omega)
      have hkv : k < vs.length := by omega
      have hT : (each (tk lo hi rt) l vs).getD k zR = tk lo hi rt (rx l k, ra l k, ro l k) (nth vs k) := each_at hlt
      have cT : ∀ d os, Calls Tryz.prog 94 #[.agg #[.int .i64 lo, .int .i64 hi, .int .i64 rt], .agg #[.int .i64 (rx l k), .int .i64 (ra l k), .bool (ro l k)], .int .i64 (nth vs k)] (Go.Sort.grow (redrawn wr d) os) (RetR (tk lo hi rt (rx l k, ra l k, ro l k) (nth vs k)) (Go.Sort.grow (redrawn wr d) os)) := fun d os => sane.implTaken lo hi rt (rx l k) (ra l k) (nth vs k) (ro l k) n f q _ (he.kept (gr_trans hg (gr_rg _ _ _))) (ht.kept (gr_trans hg (gr_rg _ _ _)))
      generalize tk lo hi rt (rx l k, ra l k, ro l k) (nth vs k) = T at *
      obtain ⟨t1, t2, t3⟩ := T
      obtain ⟨v0, e0⟩ : ∃ v, A[k * 3]? = some v := ⟨_, Array.getElem?_eq_getElem (by have := hs.out; omega)⟩
      obtain ⟨v1, e1⟩ : ∃ v, A[k * 3 + 1]? = some v := ⟨_, Array.getElem?_eq_getElem (by have := hs.out; omega)⟩
      obtain ⟨v2, e2⟩ : ∃ v, A[k * 3 + 2]? = some v := ⟨_, Array.getElem?_eq_getElem (by have := hs.out; omega)⟩
      obtain ⟨b0, b1, b2, _, _, _⟩ := rd.three G
      go_wp2_with fail
      have q0 : ∀ d os, (Go.Sort.grow (redrawn wr d) os).cell? ⟨w.heap.size, 0, none⟩ = some (.int .i64 lo) := cell_regrown b0
      have q1 : ∀ d os, (Go.Sort.grow (redrawn wr d) os).cell? ⟨w.heap.size, 1, none⟩ = some (.int .i64 hi) := cell_regrown b1
      have q2 : ∀ d os, (Go.Sort.grow (redrawn wr d) os).cell? ⟨w.heap.size, 2, none⟩ = some (.int .i64 rt) := cell_regrown b2
      have q3 : ∀ d os, (Go.Sort.grow (redrawn wr d) os).cell? (x.add (k * 3)) = some (.int .i64 (rx l k)) := cell_regrown cx
      have q4 : ∀ d os, (Go.Sort.grow (redrawn wr d) os).cell? ⟨(x.add (k * 3)).block, (x.add (k * 3)).off + 1, none⟩ = some (.int .i64 (ra l k)) := cell_regrown cy
      have q5 : ∀ d os, (Go.Sort.grow (redrawn wr d) os).cell? ⟨(x.add (k * 3)).block, (x.add (k * 3)).off + 2, none⟩ = some (.bool (ro l k)) := cell_regrown cz
      refine region_below_tail 10 (by kernel_rfl) (by kernel_rfl) ?_
      simp only [List.take_succ_cons, List.take_zero, List.drop_succ_cons, List.drop_zero]
      repeat (quiet_step (first | (go_at_call 94; with_reducible exact rg_retR (cT _ _)) | fail))
      refine wpQuiet_nil ?_
      intro _ hw'
      obtain ⟨⟨dq, osq⟩, hw''⟩ := hw'
      subst hw''
      have gq := gr_rg wr dq osq
      replace hA := hA.grown gq (by simp)
      replace G := G.grown gq (by simp)
      replace hg := gr_trans hg gq
      clear gq q0 q1 q2 q3 q4 q5 b0 b1 b2 cx cy cz cT cv
      generalize Go.Sort.grow (redrawn wr dq) osq = w2 at *
      have d0 := (hA.cell (k * 3)).trans e0
      have d1 := (hA.cell (k * 3 + 1)).trans e1
      have d2 := (hA.cell (k * 3 + 2)).trans e2
      have f0 := hA.frozen (k * 3)
      have f1 := hA.frozen (k * 3 + 1)
      have f2 := hA.frozen (k * 3 + 2)
      clear e0 e1 e2
      go_wp2_with fail
      go_roundw
      case rel => exact ⟨k + 1, _, by omega, by go_num, ((G.set_other (by omega) _ _).set_other (by omega) _ _).set_other (by omega) _ _, ((hA.set _ _).set _ _).set _ _, Lib.hid (by simpa using hs.out), Lib.hid (hr.out.next (n := l.length) (r := (t1, t2, t3)) (Nat.le_of_eq hs.out.symm) hlt hT), gr_new (gr_new (gr_new hg (by omega) _ _) (by omega) _ _) (by omega) _ _⟩
      case measure => simp [intOf]; omega
    · obtain rfl : k = l.length := by omega
      go_wp2_with fail
      go_ret
      exact ⟨_, l.length, by rw [each_len]; rfl, hg, Or.inr ⟨_, A, rfl, hA, fun j hj => hr.out j (by rwa [each_len] at hj)⟩, fun x e => by injection e with e; subst e; exact Nat.le_succ _⟩
set_option maxRecDepth 100000 in
set_option maxHeartbeats 4000000 in
theorem implGotAll (a b : Option Addr) (cap cap2 : Nat) (l : List R) (vs : List Int) (w : World) (h : rd.Arg w a l) (hv : Ints w b vs) (hl : l.length ≤ 1048576) (hlen : vs.length = l.length) :
    Calls Tryz.prog 69 #[.slice a l.length cap, .slice b vs.length cap2] w (RetO (each gt l vs) w) := by
  obtain ⟨i0, hi0, hz0, hz1, hz2⟩ := info_parts infoReading
  have hA0 := Has.fresh w 42 (madeCells (Value.cells (.agg #[.int .i64 0, .int .i64 0, .bool false])) (l.length * 3))
  have g00 := World.grownBy_alloc w (Obj.cells (madeCells (Value.cells (.agg #[.int .i64 0, .int .i64 0, .bool false])) (l.length * 3)) 42) none
  go_enter Tryz.func69, Tryz.ntmps69
  go_wp2_with (at_make; refine wpList_make_has _ rfl _ _ _ rfl 42 i0 _ 3 Tryz.underlying24 hi0 hz0 hz1 .i64 .i64 _ _ l.length rfl rfl rfl rfl (by rw [hz2]; omega) (by unfold maxLen; omega) ?_)
  go_loopw [6, 7, 13] (fun i8 v9 i wr => ∃ (k : Nat) (A : Array Value), k ≤ l.length ∧ i = .int .i64 k ∧ Has wr w.heap.size 42 A ∧ Hid (A.size = l.length * 3) ∧ Hid (Laid A (each gt l vs) k) ∧ w.grownBy wr none) (fun _ _ i _ => l.length - (intOf i).toNat)
  case atStart => exact ⟨0, _, Nat.zero_le _, rfl, hA0, Lib.hid (size_madeCells _ _), Lib.hid (fun j hj => by omega), g00⟩
  case round =>
    clear hA0 g00
    obtain ⟨k, A, hk, rfl, hA, hs, hr, hg⟩ := hrel
    have hj1 : decide ((k : Int) < (vs.length : Int)) = decide (k < l.length) := by rw [hlen]; simp
    by_cases hlt : k < l.length
    · obtain ⟨x, rfl, hb, cx, cy, cz⟩ := (h.kept hg) k hlt
      obtain ⟨y, rfl, _, cv⟩ := (hv.kept hg) k (by omega)
      have hkv : k < vs.length := by omega
      have hT : (each gt l vs).getD k zR = gt (rx l k, ra l k, ro l k) (nth vs k) := each_at hlt
      have cB := fun W => fix.implBetween (nth vs k) 0 1000 W
      have cT : ∀ d os, Calls Tryz.prog 95 #[.agg #[.int .i64 (rx l k), .int .i64 (ra l k), .bool (ro l k)], .int .i64 (btw (nth vs k) 0 1000)] (Go.Sort.grow (redrawn wr d) os) (RetR (gt (rx l k, ra l k, ro l k) (nth vs k)) (Go.Sort.grow (redrawn wr d) os)) := fun d os => rd.implGot (rx l k) (ra l k) (btw (nth vs k) 0 1000) (ro l k) _
      generalize gt (rx l k, ra l k, ro l k) (nth vs k) = T at *
      generalize btw (nth vs k) 0 1000 = V at *
      obtain ⟨t1, t2, t3⟩ := T
      obtain ⟨v0, e0⟩ : ∃ v, A[k * 3]? = some v := ⟨_, Array.getElem?_eq_getElem (by have := hs.out; omega)⟩
      obtain ⟨v1, e1⟩ : ∃ v, A[k * 3 + 1]? = some v := ⟨_, Array.getElem?_eq_getElem (by have := hs.out; omega)⟩
      obtain ⟨v2, e2⟩ : ∃ v, A[k * 3 + 2]? = some v := ⟨_, Array.getElem?_eq_getElem (by have := hs.out; omega)⟩
      go_wp2_with fail
      have q3 : ∀ d os, (Go.Sort.grow (redrawn wr d) os).cell? (x.add (k * 3)) = some (.int .i64 (rx l k)) := cell_regrown cx
      have q4 : ∀ d os, (Go.Sort.grow (redrawn wr d) os).cell? ⟨(x.add (k * 3)).block, (x.add (k * 3)).off + 1, none⟩ = some (.int .i64 (ra l k)) := cell_regrown cy
      have q5 : ∀ d os, (Go.Sort.grow (redrawn wr d) os).cell? ⟨(x.add (k * 3)).block, (x.add (k * 3)).off + 2, none⟩ = some (.bool (ro l k)) := cell_regrown cz
      refine region_below_tail 10 (by kernel_rfl) (by kernel_rfl) ?_
      simp only [List.take_succ_cons, List.take_zero, List.drop_succ_cons, List.drop_zero]
      repeat (quiet_step (first | (go_at_call 95; with_reducible exact rg_retR (cT _ _)) | (go_at_call 34; with_reducible exact rg_same (cB _)) | fail))
      refine wpQuiet_nil ?_
      intro _ hw'
      obtain ⟨⟨dq, osq⟩, hw''⟩ := hw'
      subst hw''
      have gq := gr_rg wr dq osq
      replace hA := hA.grown gq (by simp)
      replace hg := gr_trans hg gq
      clear gq q3 q4 q5 cx cy cz cT cv cB
      generalize Go.Sort.grow (redrawn wr dq) osq = w2 at *
      have d0 := (hA.cell (k * 3)).trans e0
      have d1 := (hA.cell (k * 3 + 1)).trans e1
      have d2 := (hA.cell (k * 3 + 2)).trans e2
      have f0 := hA.frozen (k * 3)
      have f1 := hA.frozen (k * 3 + 1)
      have f2 := hA.frozen (k * 3 + 2)
      clear e0 e1 e2
      go_wp2_with fail
      go_roundw
      case rel => exact ⟨k + 1, _, by omega, by go_num, ((hA.set _ _).set _ _).set _ _, Lib.hid (by simpa using hs.out), Lib.hid (hr.out.next (n := l.length) (r := (t1, t2, t3)) (Nat.le_of_eq hs.out.symm) hlt hT), gr_new (gr_new (gr_new hg (by omega) _ _) (by omega) _ _) (by omega) _ _⟩
      case measure => simp [intOf]; omega
    · obtain rfl : k = l.length := by omega
      go_wp2_with fail
      go_ret
      exact ⟨_, l.length, by rw [each_len]; rfl, hg, Or.inr ⟨_, A, rfl, hA, fun j hj => hr.out j (by rwa [each_len] at hj)⟩, fun x e => by injection e with e; subst e; exact Nat.le_refl _⟩
end Go.Proofs.YtdikhdfpcipdbaaGreatDoor.se
