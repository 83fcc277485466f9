/- takenAll and gotAll of the program. Senses where nothing is heard: aged, of the program. shapeOf and told of the program. One Kind more: what is told, and that it is so in memory. -/
import Derived.Test.YtdikhdfpcipdbaaGreatDoorG11
import Derived.Test.YtdikhdfpcipdbaaGreatDoorG12
import Derived.Test.YtdikhdfpcipdbaaGreatDoorG13
import Derived.Deep.DeepCutAuto
import Derived.Test.YtdikhdfpcipdbaaGreatDoorG14
import Derived.Test.YtdikhdfpcipdbaaGreatDoorG15
/- takenAll and gotAll of the program. -/
namespace Go.Proofs.YtdikhdfpcipdbaaGreatDoor.se
open Go.ChangeShapes Go.WideShapes Go.ChangeAt Go.RowKit
open Go.Proofs.YtdikhdfpcipdbaaGreatDoor.nums Go.Proofs.YtdikhdfpcipdbaaGreatDoor.mem
open Go.Proofs.YtdikhdfpcipdbaaGreatDoor.tab (Ret wpList_make_has)
open Go.Proofs.YtdikhdfpcipdbaaGreatDoor.rd (R okR zR rx ra ro OwnR Laid RetO RetR infoReading)
open Go.Proofs.YtdikhdfpcipdbaaGreatDoor.il (nth Ints Own)
open Go.Proofs.YtdikhdfpcipdbaaGreatDoor.qt (region_below_tail rg_ret rg_same gr_rg)
set_option linter.unusedVariables false

theorem rg_retR {f : FuncId} {args : Array Value} {w : World} {d : Nat} {os : Array Obj} {r : R}
    (h : Calls Tryz.prog f args (Go.Sort.grow (redrawn w d) os) (RetR r (Go.Sort.grow (redrawn w d) os))) : Calls Tryz.prog f args (Go.Sort.grow (redrawn w d) os) fun e w'' => e = .returned (.agg #[.int .i64 r.1, .int .i64 r.2.1, .bool r.2.2]) ∧ ∃ p : Regrown, w'' = Go.Sort.grow (redrawn w p.d) p.os :=
  Calls.regrown_of (h.mono fun _ _ ⟨he, hg⟩ => ⟨he, below_of_none hg⟩)

set_option maxRecDepth 100000 in
set_option maxHeartbeats 4000000 in
theorem implTakenAll (lo hi rt : Int) (a b : Option Addr) (cap cap2 : Nat) (l : List R) (vs : List Int) (n f q : Addr) (w : World) (h : rd.Arg w a l) (hv : Ints w b vs) (hl : l.length ≤ 1048576) (hlen : vs.length = l.length) (he : sane.ErrB w n f q) (ht : sane.ErrT w) :
    Calls Tryz.prog 68 #[.agg #[.int .i64 lo, .int .i64 hi, .int .i64 rt], .slice a l.length cap, .slice b vs.length cap2] w (RetO (each (tk lo hi rt) l vs) w) := by
  obtain ⟨i0, hi0, hz0, hz1, hz2⟩ := info_parts infoReading
  have G0 := (Has.fresh w 72 #[.int .i64 lo, .int .i64 hi, .int .i64 rt]).alloc (Obj.cells (madeCells (Value.cells (.agg #[.int .i64 0, .int .i64 0, .bool false])) (l.length * 3)) 42)
  have hA0 := Has.fresh (w.alloc (Obj.cells #[.int .i64 lo, .int .i64 hi, .int .i64 rt] 72)) 42 (madeCells (Value.cells (.agg #[.int .i64 0, .int .i64 0, .bool false])) (l.length * 3))
  have g00 := gr_alloc (World.grownBy_alloc w (Obj.cells #[.int .i64 lo, .int .i64 hi, .int .i64 rt] 72) none) (Obj.cells (madeCells (Value.cells (.agg #[.int .i64 0, .int .i64 0, .bool false])) (l.length * 3)) 42)
  simp only [World.size_alloc] at hA0
  go_enter Tryz.func68, Tryz.ntmps68
  go_wp2_with (at_make; refine wpList_make_has _ rfl _ _ _ rfl 42 i0 _ 3 Tryz.underlying24 hi0 hz0 hz1 .i64 .i64 _ _ l.length rfl rfl rfl rfl (by rw [hz2]; omega) (by unfold maxLen; omega) ?_)
  go_loopw [8, 9, 15] (fun i8 v9 i wr => ∃ (k : Nat) (A : Array Value), k ≤ l.length ∧ i = .int .i64 k ∧ Has wr w.heap.size 72 #[.int .i64 lo, .int .i64 hi, .int .i64 rt] ∧ Has wr (w.heap.size + 1) 42 A ∧ Hid (A.size = l.length * 3) ∧ Hid (Laid A (each (tk lo hi rt) l vs) k) ∧ w.grownBy wr none) (fun _ _ i _ => l.length - (intOf i).toNat)
  case atStart => exact ⟨0, _, Nat.zero_le _, rfl, G0, hA0, Lib.hid (size_madeCells _ _), Lib.hid (fun j hj => by omega), g00⟩
  case round =>
    clear hA0 G0 g00
    obtain ⟨k, A, hk, rfl, G, hA, hs, hr, hg⟩ := hrel
    have hj1 : decide ((k : Int) < (vs.length : Int)) = decide (k < l.length) := by rw [hlen]; simp
    by_cases hlt : k < l.length
    · obtain ⟨x, rfl, hb, cx, cy, cz⟩ := (h.kept hg) k hlt
      obtain ⟨y, rfl, _, cv⟩ := (hv.kept hg) k (by omega)
      have hkv : k < vs.length := by omega
      have hT : (each (tk lo hi rt) l vs).getD k zR = tk lo hi rt (rx l k, ra l k, ro l k) (nth vs k) := each_at hlt
      have cT : ∀ d os, Calls Tryz.prog 94 #[.agg #[.int .i64 lo, .int .i64 hi, .int .i64 rt], .agg #[.int .i64 (rx l k), .int .i64 (ra l k), .bool (ro l k)], .int .i64 (nth vs k)] (Go.Sort.grow (redrawn wr d) os) (RetR (tk lo hi rt (rx l k, ra l k, ro l k) (nth vs k)) (Go.Sort.grow (redrawn wr d) os)) := fun d os => sane.implTaken lo hi rt (rx l k) (ra l k) (nth vs k) (ro l k) n f q _ (he.kept (gr_trans hg (gr_rg _ _ _))) (ht.kept (gr_trans hg (gr_rg _ _ _)))
      generalize tk lo hi rt (rx l k, ra l k, ro l k) (nth vs k) = T at *
      obtain ⟨t1, t2, t3⟩ := T
      obtain ⟨v0, e0⟩ : ∃ v, A[k * 3]? = some v := ⟨_, Array.getElem?_eq_getElem (by have := hs.out; omega)⟩
      obtain ⟨v1, e1⟩ : ∃ v, A[k * 3 + 1]? = some v := ⟨_, Array.getElem?_eq_getElem (by have := hs.out; omega)⟩
      obtain ⟨v2, e2⟩ : ∃ v, A[k * 3 + 2]? = some v := ⟨_, Array.getElem?_eq_getElem (by have := hs.out; omega)⟩
      obtain ⟨b0, b1, b2, _, _, _⟩ := rd.three G
      go_wp2_with fail
      have q0 : ∀ d os, (Go.Sort.grow (redrawn wr d) os).cell? ⟨w.heap.size, 0, none⟩ = some (.int .i64 lo) := cell_regrown b0
      have q1 : ∀ d os, (Go.Sort.grow (redrawn wr d) os).cell? ⟨w.heap.size, 1, none⟩ = some (.int .i64 hi) := cell_regrown b1
      have q2 : ∀ d os, (Go.Sort.grow (redrawn wr d) os).cell? ⟨w.heap.size, 2, none⟩ = some (.int .i64 rt) := cell_regrown b2
      have q3 : ∀ d os, (Go.Sort.grow (redrawn wr d) os).cell? (x.add (k * 3)) = some (.int .i64 (rx l k)) := cell_regrown cx
      have q4 : ∀ d os, (Go.Sort.grow (redrawn wr d) os).cell? ⟨(x.add (k * 3)).block, (x.add (k * 3)).off + 1, none⟩ = some (.int .i64 (ra l k)) := cell_regrown cy
      have q5 : ∀ d os, (Go.Sort.grow (redrawn wr d) os).cell? ⟨(x.add (k * 3)).block, (x.add (k * 3)).off + 2, none⟩ = some (.bool (ro l k)) := cell_regrown cz
      refine region_below_tail 10 (by kernel_rfl) (by kernel_rfl) ?_
      simp only [List.take_succ_cons, List.take_zero, List.drop_succ_cons, List.drop_zero]
      repeat (quiet_step (first | (go_at_call 94; with_reducible exact rg_retR (cT _ _)) | fail))
      refine wpQuiet_nil ?_
      intro _ hw'
      obtain ⟨⟨dq, osq⟩, hw''⟩ := hw'
      subst hw''
      have gq := gr_rg wr dq osq
      replace hA := hA.grown gq (by simp)
      replace G := G.grown gq (by simp)
      replace hg := gr_trans hg gq
      clear gq q0 q1 q2 q3 q4 q5 b0 b1 b2 cx cy cz cT cv
      generalize Go.Sort.grow (redrawn wr dq) osq = w2 at *
      have d0 := (hA.cell (k * 3)).trans e0
      have d1 := (hA.cell (k * 3 + 1)).trans e1
      have d2 := (hA.cell (k * 3 + 2)).trans e2
      have f0 := hA.frozen (k * 3)
      have f1 := hA.frozen (k * 3 + 1)
      have f2 := hA.frozen (k * 3 + 2)
      clear e0 e1 e2
      go_wp2_with fail
      go_roundw
      case rel => exact ⟨k + 1, _, by omega, by go_num, ((G.set_other (by omega) _ _).set_other (by omega) _ _).set_other (by omega) _ _, ((hA.set _ _).set _ _).set _ _, Lib.hid (by simpa using hs.out), Lib.hid (hr.out.next (n := l.length) (r := (t1, t2, t3)) (Nat.le_of_eq hs.out.symm) hlt hT), gr_new (gr_new (gr_new hg (by omega) _ _) (by omega) _ _) (by omega) _ _⟩
      case measure => simp [intOf]; omega
    · obtain rfl : k = l.length := by omega
      go_wp2_with fail
      go_ret
      exact ⟨_, l.length, by rw [each_len]; rfl, hg, Or.inr ⟨_, A, rfl, hA, fun j hj => hr.out j (by rwa [each_len] at hj)⟩, fun x e => by injection e with e; subst e; exact Nat.le_succ _⟩
set_option maxRecDepth 100000 in
set_option maxHeartbeats 4000000 in
theorem implGotAll (a b : Option Addr) (cap cap2 : Nat) (l : List R) (vs : List Int) (w : World) (h : rd.Arg w a l) (hv : Ints w b vs) (hl : l.length ≤ 1048576) (hlen : vs.length = l.length) :
    Calls Tryz.prog 69 #[.slice a l.length cap, .slice b vs.length cap2] w (RetO (each gt l vs) w) := by
  obtain ⟨i0, hi0, hz0, hz1, hz2⟩ := info_parts infoReading
  have hA0 := Has.fresh w 42 (madeCells (Value.cells (.agg #[.int .i64 0, .int .i64 0, .bool false])) (l.length * 3))
  have g00 := World.grownBy_alloc w (Obj.cells (madeCells (Value.cells (.agg #[.int .i64 0, .int .i64 0, .bool false])) (l.length * 3)) 42) none
  go_enter Tryz.func69, Tryz.ntmps69
  go_wp2_with (at_make; refine wpList_make_has _ rfl _ _ _ rfl 42 i0 _ 3 Tryz.underlying24 hi0 hz0 hz1 .i64 .i64 _ _ l.length rfl rfl rfl rfl (by rw [hz2]; omega) (by unfold maxLen; omega) ?_)
  go_loopw [6, 7, 13] (fun i8 v9 i wr => ∃ (k : Nat) (A : Array Value), k ≤ l.length ∧ i = .int .i64 k ∧ Has wr w.heap.size 42 A ∧ Hid (A.size = l.length * 3) ∧ Hid (Laid A (each gt l vs) k) ∧ w.grownBy wr none) (fun _ _ i _ => l.length - (intOf i).toNat)
  case atStart => exact ⟨0, _, Nat.zero_le _, rfl, hA0, Lib.hid (size_madeCells _ _), Lib.hid (fun j hj => by omega), g00⟩
  case round =>
    clear hA0 g00
    obtain ⟨k, A, hk, rfl, hA, hs, hr, hg⟩ := hrel
    have hj1 : decide ((k : Int) < (vs.length : Int)) = decide (k < l.length) := by rw [hlen]; simp
    by_cases hlt : k < l.length
    · obtain ⟨x, rfl, hb, cx, cy, cz⟩ := (h.kept hg) k hlt
      obtain ⟨y, rfl, _, cv⟩ := (hv.kept hg) k (by omega)
      have hkv : k < vs.length := by omega
      have hT : (each gt l vs).getD k zR = gt (rx l k, ra l k, ro l k) (nth vs k) := each_at hlt
      have cB := fun W => fix.implBetween (nth vs k) 0 1000 W
      have cT : ∀ d os, Calls Tryz.prog 95 #[.agg #[.int .i64 (rx l k), .int .i64 (ra l k), .bool (ro l k)], .int .i64 (btw (nth vs k) 0 1000)] (Go.Sort.grow (redrawn wr d) os) (RetR (gt (rx l k, ra l k, ro l k) (nth vs k)) (Go.Sort.grow (redrawn wr d) os)) := fun d os => rd.implGot (rx l k) (ra l k) (btw (nth vs k) 0 1000) (ro l k) _
      generalize gt (rx l k, ra l k, ro l k) (nth vs k) = T at *
      generalize btw (nth vs k) 0 1000 = V at *
      obtain ⟨t1, t2, t3⟩ := T
      obtain ⟨v0, e0⟩ : ∃ v, A[k * 3]? = some v := ⟨_, Array.getElem?_eq_getElem (by have := hs.out; omega)⟩
      obtain ⟨v1, e1⟩ : ∃ v, A[k * 3 + 1]? = some v := ⟨_, Array.getElem?_eq_getElem (by have := hs.out; omega)⟩
      obtain ⟨v2, e2⟩ : ∃ v, A[k * 3 + 2]? = some v := ⟨_, Array.getElem?_eq_getElem (by have := hs.out; omega)⟩
      go_wp2_with fail
      have q3 : ∀ d os, (Go.Sort.grow (redrawn wr d) os).cell? (x.add (k * 3)) = some (.int .i64 (rx l k)) := cell_regrown cx
      have q4 : ∀ d os, (Go.Sort.grow (redrawn wr d) os).cell? ⟨(x.add (k * 3)).block, (x.add (k * 3)).off + 1, none⟩ = some (.int .i64 (ra l k)) := cell_regrown cy
      have q5 : ∀ d os, (Go.Sort.grow (redrawn wr d) os).cell? ⟨(x.add (k * 3)).block, (x.add (k * 3)).off + 2, none⟩ = some (.bool (ro l k)) := cell_regrown cz
      refine region_below_tail 10 (by kernel_rfl) (by kernel_rfl) ?_
      simp only [List.take_succ_cons, List.take_zero, List.drop_succ_cons, List.drop_zero]
      repeat (quiet_step (first | (go_at_call 95; with_reducible exact rg_retR (cT _ _)) | (go_at_call 34; with_reducible exact rg_same (cB _)) | fail))
      refine wpQuiet_nil ?_
      intro _ hw'
      obtain ⟨⟨dq, osq⟩, hw''⟩ := hw'
      subst hw''
      have gq := gr_rg wr dq osq
      replace hA := hA.grown gq (by simp)
      replace hg := gr_trans hg gq
      clear gq q3 q4 q5 cx cy cz cT cv cB
      generalize Go.Sort.grow (redrawn wr dq) osq = w2 at *
      have d0 := (hA.cell (k * 3)).trans e0
      have d1 := (hA.cell (k * 3 + 1)).trans e1
      have d2 := (hA.cell (k * 3 + 2)).trans e2
      have f0 := hA.frozen (k * 3)
      have f1 := hA.frozen (k * 3 + 1)
      have f2 := hA.frozen (k * 3 + 2)
      clear e0 e1 e2
      go_wp2_with fail
      go_roundw
      case rel => exact ⟨k + 1, _, by omega, by go_num, ((hA.set _ _).set _ _).set _ _, Lib.hid (by simpa using hs.out), Lib.hid (hr.out.next (n := l.length) (r := (t1, t2, t3)) (Nat.le_of_eq hs.out.symm) hlt hT), gr_new (gr_new (gr_new hg (by omega) _ _) (by omega) _ _) (by omega) _ _⟩
      case measure => simp [intOf]; omega
    · obtain rfl : k = l.length := by omega
      go_wp2_with fail
      go_ret
      exact ⟨_, l.length, by rw [each_len]; rfl, hg, Or.inr ⟨_, A, rfl, hA, fun j hj => hr.out j (by rwa [each_len] at hj)⟩, fun x e => by injection e with e; subst e; exact Nat.le_refl _⟩
end Go.Proofs.YtdikhdfpcipdbaaGreatDoor.se

/- Senses where nothing is heard: aged, of the program. -/
namespace Go.Proofs.YtdikhdfpcipdbaaGreatDoor.se
open Go.ChangeShapes Go.WideShapes Go.ChangeAt Go.RowKit
open Go.Proofs.YtdikhdfpcipdbaaGreatDoor.nums Go.Proofs.YtdikhdfpcipdbaaGreatDoor.mem
open Go.Proofs.YtdikhdfpcipdbaaGreatDoor.tab (Ret wpList_make_has)
open Go.Proofs.YtdikhdfpcipdbaaGreatDoor.rd (R okR ageR zR rx ra ro OwnR)
open Go.Proofs.YtdikhdfpcipdbaaGreatDoor.il (nth Ints Own)
set_option linter.unusedVariables false

theorem own_of_frm {base : Nat} {w : World} {a : Option Addr} {vs : List Int} (h : frm.Own base w a vs) (h0 : vs ≠ []) : Own w a vs ∧ ∀ x, il.blk a vs = some x → base ≤ x := by
  obtain ⟨g, o, cs, ha, hb, hc, hj⟩ := h
  have e := ha h0
  subst e
  refine ⟨Or.inr ⟨g, o, cs, rfl, hc, hj⟩, fun x hx => ?_⟩
  rw [il.blk_some h0] at hx; injection hx with hx; omega
/-- A list comes back in a block of its own, of so many cells. -/
def RetM (l m : List R) (w : World) (e : Ending) (w' : World) : Prop := ∃ (g : Nat) (cs : Array Value) (cap : Nat), e = .returned (.slice (some ⟨g, 0, none⟩) l.length cap) ∧ w.grownBy w' none ∧ Has w' g 42 cs ∧ cs.size = l.length * 3 ∧ w.heap.size ≤ g ∧
  ∀ k, k < l.length → cs[k * 3]? = some (.int .i64 (rx m k)) ∧ cs[k * 3 + 1]? = some (.int .i64 (ra m k)) ∧ cs[k * 3 + 2]? = some (.bool (ro m k))
set_option maxRecDepth 100000 in
set_option maxHeartbeats 4000000 in
theorem aged_call (a : Option Addr) (cap : Nat) (l : List R) (w : World) (h : rd.Arg w a l) (hl : l.length ≤ 1048576) (hok0 : l.all okR = true) : Calls Tryz.prog 63 #[.slice a l.length cap] w (RetM l (l.map ageR) w) := by
  obtain ⟨i0, hi, hz0, hz1, hz2⟩ := info_parts rd.infoReading
  go_enter Tryz.func63, Tryz.ntmps63
  go_wp2_with (at_make; refine wpList_make_has _ rfl _ _ _ rfl 42 i0 _ 3 Tryz.underlying24 hi hz0 hz1 .i64 .i64 _ _ l.length rfl rfl rfl rfl (by rw [hz2]; omega) (by unfold maxLen; omega) ?_)
  have hA0 := Has.fresh w 42 (madeCells (Value.cells (.agg #[.int .i64 0, .int .i64 0, .bool false])) (l.length * 3))
  go_loopw [11] (fun i wr => ∃ (k : Nat) (A : Array Value), k ≤ l.length ∧ i = .int .i64 k ∧ Has wr w.heap.size 42 A ∧ Hid (A.size = l.length * 3) ∧ Hid (rd.Laid A (l.map ageR) k) ∧ Hid (∀ j, j < k → okR (rx l j, ra l j, ro l j) = true) ∧ w.grownBy wr none) (fun i _ => l.length - (intOf i).toNat)
  case atStart => exact ⟨0, _, Nat.zero_le _, rfl, hA0, Lib.hid (size_madeCells _ _), Lib.hid (fun j hj => by omega), Lib.hid (fun j hj => by omega), World.grownBy_alloc _ _ _⟩
  case round =>
    clear hA0
    obtain ⟨k, A, hk, rfl, hA, hs, hr, hok, hg⟩ := hrel
    by_cases hlt : k < l.length
    · obtain ⟨x, rfl, hb, cx, cy, cz⟩ := (h.kept hg) k hlt
      have hsz := hA.lt
      have hB := Has.fresh wr 42 #[.int .i64 (rx l k), .int .i64 (ra l k), .bool (ro l k)]
      replace hA := hA.alloc (Obj.cells #[.int .i64 (rx l k), .int .i64 (ra l k), .bool (ro l k)] 42)
      have hg0 := gr_alloc hg (Obj.cells #[.int .i64 (rx l k), .int .i64 (ra l k), .bool (ro l k)] 42)
      by_cases ho : okR (rx l k, ra l k, ro l k) = true
      · go_wp2_with fail
        refine (rd.implReadingOk _ _ _ _).mono ?_
        rintro e w1 ⟨rfl, hg1⟩
        replace hA := hA.grown hg1 (by simp)
        replace hB := hB.grown hg1 (by simp)
        replace hg0 := gr_trans hg0 hg1
        obtain ⟨c0, c1, c2, _, _, _⟩ := rd.three hB
        clear hg1
        go_wp2_with fail
        refine (rd.implAged _ _ _ _).mono ?_
        rintro e w2 ⟨rfl, hg2⟩
        rw [rd.aged_ok ho]
        have HO := Lib.hid ho
        clear ho
        replace hA := hA.grown hg2 (by simp)
        replace hg0 := gr_trans hg0 hg2
        obtain ⟨v0, e0⟩ : ∃ v, A[k * 3]? = some v := ⟨_, Array.getElem?_eq_getElem (by have := hs.out; omega)⟩
        obtain ⟨v1, e1⟩ : ∃ v, A[k * 3 + 1]? = some v := ⟨_, Array.getElem?_eq_getElem (by have := hs.out; omega)⟩
        obtain ⟨v2, e2⟩ : ∃ v, A[k * 3 + 2]? = some v := ⟨_, Array.getElem?_eq_getElem (by have := hs.out; omega)⟩
        have d0 := (hA.cell (k * 3)).trans e0
        have d1 := (hA.cell (k * 3 + 1)).trans e1
        have d2 := (hA.cell (k * 3 + 2)).trans e2
        have g0 := hA.frozen (k * 3)
        have g1 := hA.frozen (k * 3 + 1)
        have g2 := hA.frozen (k * 3 + 2)
        clear e0 e1 e2 c0 c1 c2 hB hg2 cx cy cz
        go_wp2_with fail
        go_roundw
        case rel => exact ⟨k + 1, _, by omega, by go_num, ((hA.set _ _).set _ _).set _ _, Lib.hid (by simpa using hs.out), Lib.hid (hr.out.next (r := (rx l k, min 1000 (ra l k + 1), ro l k)) (Nat.le_of_eq hs.out.symm) hlt (rd.map_age hlt)), Lib.hid (fun j hj => by
          by_cases e : j = k
          · subst e; exact HO.out
          · exact hok.out j (by omega)), gr_new (gr_new (gr_new hg0 (Nat.le_refl _) _ _) (Nat.le_refl _) _ _) (Nat.le_refl _) _ _⟩
        case measure => simp [intOf]; omega
      · exact absurd (rd.all_at hok0 hlt) ho
    · obtain rfl : k = l.length := by omega
      go_wp2_with fail
      go_ret
      exact ⟨w.heap.size, A, l.length, rfl, hg, hA, hs.out, Nat.le_refl _, fun j hj => hr.out j hj⟩

/-- What a call of AgedAll leaves: a list in a new block of so many cells. -/
def Kept (z : Nat) (l m : List R) (v : Value) (w : World) : Prop := ∃ (g : Nat) (cs : Array Value) (cap : Nat), v = .slice (some ⟨g, 0, none⟩) l.length cap ∧ Has w g 42 cs ∧ cs.size = l.length * 3 ∧ z ≤ g ∧
  ∀ k, k < l.length → cs[k * 3]? = some (.int .i64 (rx m k)) ∧ cs[k * 3 + 1]? = some (.int .i64 (ra m k)) ∧ cs[k * 3 + 2]? = some (.bool (ro m k))
/-- What each operation of the first statement leaves. -/
def LeftA (b z : Nat) (sp he fa : List R) (a1 a2 a3 : Option Addr) (c1 c2 c3 : Nat) : Nat → Value → World → Prop
  | 0, v, _ => v = .pointer (some ⟨b, 0, none⟩)
  | 1, v, _ => v = .slice a1 sp.length c1
  | 2, v, w => Kept z sp (sp.map ageR) v w
  | 3, v, _ => v = .pointer (some ⟨b, 1, none⟩)
  | 4, v, _ => v = .slice a2 he.length c2
  | 5, v, w => Kept z he (he.map ageR) v w
  | 6, v, _ => v = .pointer (some ⟨b, 2, none⟩)
  | 7, v, _ => v = .slice a3 fa.length c3
  | 8, v, w => Kept z fa (fa.map ageR) v w
  | 9, v, _ => v = .pointer (some ⟨b, 0, none⟩)
  | _, _, _ => False
theorem Kept.stab {z : Nat} {l m : List R} {v : Value} {w w' : World} (h : Kept z l m v w) (hg : w.grownBy w' none) : Kept z l m v w' := by
  obtain ⟨g, cs, cap, h1, h2, h3⟩ := h
  exact ⟨g, cs, cap, h1, h2.grown hg (by simp), h3⟩
theorem LeftA.stab {b z : Nat} {sp he fa : List R} {a1 a2 a3 : Option Addr} {c1 c2 c3 : Nat} (j : Nat) (v : Value) (w w' : World) (h : LeftA b z sp he fa a1 a2 a3 c1 c2 c3 j v w) (hg : w.grownBy w' none) : LeftA b z sp he fa a1 a2 a3 c1 c2 c3 j v w' := by
  match j, h with
  | 0, h => exact h
  | 1, h => exact h
  | 2, h => exact Kept.stab h hg
  | 3, h => exact h
  | 4, h => exact h
  | 5, h => exact Kept.stab h hg
  | 6, h => exact h
  | 7, h => exact h
  | 8, h => exact Kept.stab h hg
  | 9, h => exact h

set_option maxRecDepth 100000 in
set_option maxHeartbeats 2000000 in
theorem agedL (sp he fa : List R) (wn : Int) (ar : Bool) (sq : List Int) (a1 a2 a3 a4 : Option Addr) (c1 c2 c3 c4 : Nat) (w : World) (h1 : rd.Arg w a1 sp) (h2 : rd.Arg w a2 he) (h3 : rd.Arg w a3 fa) (h4 : Ints w a4 sq)
    (n1 : sp.length ≤ 1048576) (n2 : he.length ≤ 1048576) (n3 : fa.length ≤ 1048576) (n4 : sq.length ≤ 100) (z4 : sq ≠ []) (m12 : sp.length ≠ he.length) (m13 : sp.length ≠ fa.length) (m23 : he.length ≠ fa.length) (o1 : sp.all okR = true) (o2 : he.all okR = true) (o3 : fa.all okR = true) :
    Calls Tryz.prog 27 #[sv ⟨sp, he, fa, wn, ar, sq⟩ ⟨a1, c1, a2, c2, a3, c3, a4, c4⟩] w (RetS ⟨sp.map ageR, he.map ageR, fa.map ageR, wn, ar, sq⟩ w) := by
  have K0 : Has ((w.alloc (Obj.cells #[.slice a1 sp.length c1, .slice a2 he.length c2, .slice a3 fa.length c3, .int .i64 wn, .bool ar, .slice a4 sq.length c4] 27)).alloc (Obj.cells #[.slice none 0 0, .slice none 0 0, .slice none 0 0, .int .i64 0, .bool false, .slice none 0 0] 27)) w.heap.size 27 #[.slice a1 sp.length c1, .slice a2 he.length c2, .slice a3 fa.length c3, .int .i64 wn, .bool ar, .slice a4 sq.length c4] := (Has.fresh w _ _).alloc _
  have R0 := Has.fresh (w.alloc (Obj.cells #[.slice a1 sp.length c1, .slice a2 he.length c2, .slice a3 fa.length c3, .int .i64 wn, .bool ar, .slice a4 sq.length c4] 27)) 27 #[.slice none 0 0, .slice none 0 0, .slice none 0 0, .int .i64 0, .bool false, .slice none 0 0]
  have g0 := gr_alloc (World.grownBy_alloc w (Obj.cells #[.slice a1 sp.length c1, .slice a2 he.length c2, .slice a3 fa.length c3, .int .i64 wn, .bool ar, .slice a4 sq.length c4] 27) none) (Obj.cells #[.slice none 0 0, .slice none 0 0, .slice none 0 0, .int .i64 0, .bool false, .slice none 0 0] 27)
  simp only [World.size_alloc] at R0
  have cA := fun W (k : rd.Arg W a1 sp) => aged_call a1 c1 sp W k n1 o1
  have cB := fun W (k : rd.Arg W a2 he) => aged_call a2 c2 he W k n2 o2
  have cC := fun W (k : rd.Arg W a3 fa) => aged_call a3 c3 fa W k n3 o3
  have cD := fun W (k : Ints W a4 sq) => stm.implClone a4 c4 sq W k z4 n4
  clear o1 o2 o3 n1 n2 n3 n4
  go_enter Tryz.func27, Tryz.ntmps27
  go_upto_region 1 with fail
  generalize (w.alloc (Obj.cells #[.slice a1 sp.length c1, .slice a2 he.length c2, .slice a3 fa.length c3, .int .i64 wn, .bool ar, .slice a4 sq.length c4] 27)).alloc (Obj.cells #[.slice none 0 0, .slice none 0 0, .slice none 0 0, .int .i64 0, .bool false, .slice none 0 0] 27) = wb at *
  have lb : w.heap.size < wb.heap.size := K0.lt
  replace h1 := h1.kept g0
  replace h2 := h2.kept g0
  replace h3 := h3.kept g0
  obtain ⟨⟨q0, q1, q2⟩, q3, q4, q5⟩ := six K0
  refine iv.region_inv 10 (fun i => i + 3) (LeftA w.heap.size wb.heap.size sp he fa a1 a2 a3 c1 c2 c3) (by kernel_rfl) (by kernel_rfl) (by kernel_rfl) (by decide) (by kernel_rfl) (by kernel_rfl) (fun i j _ _ e => by simpa using e) (fun i hi => by simp; omega) LeftA.stab ?_ ?_
  · intro i o a W hi ho hg hsz hdf hold hdeps
    obtain ⟨⟨tl⟩, df⟩ := a
    match tl, hsz with
    | [x0, x1, x2, x3, x4, x5, x6, x7, x8, x9, x10, x11, x12, x13, x14, x15, x16, x17, x18, x19], _ =>
      have e1 : x1 = .pointer (some ⟨w.heap.size, 0, none⟩) := by simpa using hold 1 (fun j _ => by omega)
      have ed : df = [] := by simpa using hdf
      subst e1 ed
      clear hold hdf q0 q1 q2 q3 q4 q5
      rcases (show i = 0 ∨ i = 1 ∨ i = 2 ∨ i = 3 ∨ i = 4 ∨ i = 5 ∨ i = 6 ∨ i = 7 ∨ i = 8 ∨ i = 9 by omega) with rfl | rfl | rfl | rfl | rfl | rfl | rfl | rfl | rfl | rfl
      all_goals simp at ho
      all_goals subst ho
      all_goals simp [Region.binds, LeftA] at hdeps
      · go_wp2_with fail
        exact ⟨gr_refl _ _, rfl⟩
      · subst hdeps
        obtain ⟨⟨b0, b1, b2⟩, b3, b4, b5⟩ := six (K0.grown hg (by simp))
        go_wp2_with fail
        exact ⟨gr_refl _ _, rfl⟩
      · skip
        subst hdeps
        go_wp2_with fail
        refine (cA _ (h1.kept hg)).mono ?_
        rintro e w1 ⟨g, cs, cap, rfl, r, hk, hs, hge, hc⟩
        go_wp2_with fail
        exact ⟨g, cs, cap, rfl, hk, hs, Nat.le_trans hg.size hge, hc⟩
      · go_wp2_with fail
        exact ⟨gr_refl _ _, rfl⟩
      · subst hdeps
        obtain ⟨⟨b0, b1, b2⟩, b3, b4, b5⟩ := six (K0.grown hg (by simp))
        go_wp2_with fail
        exact ⟨gr_refl _ _, rfl⟩
      · obtain ⟨hdeps, _⟩ := hdeps
        subst hdeps
        go_wp2_with fail
        refine (cB _ (h2.kept hg)).mono ?_
        rintro e w1 ⟨g, cs, cap, rfl, r, hk, hs, hge, hc⟩
        go_wp2_with fail
        exact ⟨g, cs, cap, rfl, hk, hs, Nat.le_trans hg.size hge, hc⟩
      · go_wp2_with fail
        exact ⟨gr_refl _ _, rfl⟩
      · subst hdeps
        obtain ⟨⟨b0, b1, b2⟩, b3, b4, b5⟩ := six (K0.grown hg (by simp))
        go_wp2_with fail
        exact ⟨gr_refl _ _, rfl⟩
      · obtain ⟨hdeps, _⟩ := hdeps
        subst hdeps
        go_wp2_with fail
        refine (cC _ (h3.kept hg)).mono ?_
        rintro e w1 ⟨g, cs, cap, rfl, r, hk, hs, hge, hc⟩
        go_wp2_with fail
        exact ⟨g, cs, cap, rfl, hk, hs, Nat.le_trans hg.size hge, hc⟩
      · go_wp2_with fail
        exact ⟨gr_refl _ _, rfl⟩
  · intro a W hg hsz hdf hold hnew
    obtain ⟨⟨tl⟩, df⟩ := a
    match tl, hsz with
    | [x0, x1, x2, x3, x4, x5, x6, x7, x8, x9, x10, x11, x12, x13, x14, x15, x16, x17, x18, x19], _ =>
      have e0 := hold 0 (fun j _ => by omega)
      have e1 : x1 = .pointer (some ⟨w.heap.size, 0, none⟩) := by simpa using hold 1 (fun j _ => by omega)
      have e2 : x2 = .pointer (some ⟨w.heap.size + 1, 0, none⟩) := by simpa using hold 2 (fun j _ => by omega)
      have ed : df = [] := by simpa using hdf
      subst e1 e2 ed
      obtain ⟨v, h, g1, A1, k1, e1, H1, s1, l1, L1⟩ := hnew 2 (by omega)
      obtain rfl : x5 = v := by simpa using h
      subst e1
      obtain ⟨v, h, g2, A2, k2, e1, H2, s2, l2, L2⟩ := hnew 5 (by omega)
      obtain rfl : x8 = v := by simpa using h
      subst e1
      obtain ⟨v, h, g3, A3, k3, e1, H3, s3, l3, L3⟩ := hnew 8 (by omega)
      obtain rfl : x11 = v := by simpa using h
      subst e1
      obtain ⟨v, h, e1⟩ := hnew 9 (by omega)
      obtain rfl : x12 = v := by simpa using h
      have e1' : x12 = .pointer (some ⟨w.heap.size, 0, none⟩) := e1
      subst e1'
      clear hnew hold hdf h e0
      have K := K0.grown hg (by simp)
      have R := R0.grown hg (by simp)
      obtain ⟨⟨b0, b1, b2⟩, b3, b4, b5⟩ := six K
      obtain ⟨⟨f0, f1, f2⟩, f3, f4, f5⟩ := free6 K
      clear q0 q1 q2 q3 q4 q5 cA cB cC h1 h2 h3
      simp only [List.drop_succ_cons, List.drop_zero]
      go_wp2_with fail
      have n12 : g1 ≠ g2 := fun e => by
        subst e; have := H1.symm.trans H2; simp at this; have := congrArg Array.size this; omega
      have n13 : g1 ≠ g3 := fun e => by
        subst e; have := H1.symm.trans H3; simp at this; have := congrArg Array.size this; omega
      have n23 : g2 ≠ g3 := fun e => by
        subst e; have := H2.symm.trans H3; simp at this; have := congrArg Array.size this; omega
      have lR := R0.lt
      have nz : w.heap.size ≠ w.heap.size + 1 := by omega
      have nz' : w.heap.size + 1 ≠ w.heap.size := by omega
      have u1 : g1 ≠ w.heap.size := by omega
      have u2 : g2 ≠ w.heap.size := by omega
      have u3 : g3 ≠ w.heap.size := by omega
      have G := gr_new (gr_new (gr_new (gr_trans g0 hg) (Nat.le_refl w.heap.size) 0 (.slice (some ⟨g1, 0, none⟩) sp.length k1)) (Nat.le_refl w.heap.size) 1 (.slice (some ⟨g2, 0, none⟩) he.length k2)) (Nat.le_refl w.heap.size) 2 (.slice (some ⟨g3, 0, none⟩) fa.length k3)
      replace K := ((K.put 0 (.slice (some ⟨g1, 0, none⟩) sp.length k1) rfl).put 1 (.slice (some ⟨g2, 0, none⟩) he.length k2) rfl).put 2 (.slice (some ⟨g3, 0, none⟩) fa.length k3) rfl
      replace R := ((R.set_other nz' 0 (.slice (some ⟨g1, 0, none⟩) sp.length k1)).set_other nz' 1 (.slice (some ⟨g2, 0, none⟩) he.length k2)).set_other nz' 2 (.slice (some ⟨g3, 0, none⟩) fa.length k3)
      replace H1 := ((H1.set_other u1 0 (.slice (some ⟨g1, 0, none⟩) sp.length k1)).set_other u1 1 (.slice (some ⟨g2, 0, none⟩) he.length k2)).set_other u1 2 (.slice (some ⟨g3, 0, none⟩) fa.length k3)
      replace H2 := ((H2.set_other u2 0 (.slice (some ⟨g1, 0, none⟩) sp.length k1)).set_other u2 1 (.slice (some ⟨g2, 0, none⟩) he.length k2)).set_other u2 2 (.slice (some ⟨g3, 0, none⟩) fa.length k3)
      replace H3 := ((H3.set_other u3 0 (.slice (some ⟨g1, 0, none⟩) sp.length k1)).set_other u3 1 (.slice (some ⟨g2, 0, none⟩) he.length k2)).set_other u3 2 (.slice (some ⟨g3, 0, none⟩) fa.length k3)
      clear b0 b1 b2 b3 b4 b5 f0 f1 f2 f3 f4 f5
      have hq := h4.kept G
      have lW : wb.heap.size ≤ (((W.setCell ⟨w.heap.size, 0, none⟩ (.slice (some ⟨g1, 0, none⟩) sp.length k1)).setCell ⟨w.heap.size, 1, none⟩ (.slice (some ⟨g2, 0, none⟩) he.length k2)).setCell ⟨w.heap.size, 2, none⟩ (.slice (some ⟨g3, 0, none⟩) fa.length k3)).heap.size := by simpa using hg.size
      generalize ((W.setCell ⟨w.heap.size, 0, none⟩ (.slice (some ⟨g1, 0, none⟩) sp.length k1)).setCell ⟨w.heap.size, 1, none⟩ (.slice (some ⟨g2, 0, none⟩) he.length k2)).setCell ⟨w.heap.size, 2, none⟩ (.slice (some ⟨g3, 0, none⟩) fa.length k3) = W2 at *
      refine (cD _ hq).mono ?_
      rintro e w4 ⟨a5, k5, rfl, r4, o4⟩
      obtain ⟨q4, b4⟩ := own_of_frm o4 z4
      replace G := gr_trans G r4
      replace K := K.grown r4 (by simp)
      replace R := R.grown r4 (by simp)
      replace H1 := H1.grown r4 (by simp)
      replace H2 := H2.grown r4 (by simp)
      replace H3 := H3.grown r4 (by simp)
      obtain ⟨⟨c0, c1, c2⟩, c3, c4, c5⟩ := six K
      obtain ⟨⟨f0, f1, f2⟩, f3, f4, f5⟩ := free6 K
      obtain ⟨⟨d0, d1, d2⟩, d3, d4, d5⟩ := six R
      obtain ⟨⟨e0, e1, e2⟩, e3, e4, e5⟩ := free6 R
      go_wp2_with fail
      have S1 := gr_set (gr_refl w4 (some w.heap.size)) 5 (.slice a5 sq.length k5)
      have O1 : OwnR w4 (some ⟨g1, 0, none⟩) (sp.map ageR) := Or.inr ⟨g1, A1, rfl, H1, fun k hk => L1 k (by simpa using hk)⟩
      have O2 : OwnR w4 (some ⟨g2, 0, none⟩) (he.map ageR) := Or.inr ⟨g2, A2, rfl, H2, fun k hk => L2 k (by simpa using hk)⟩
      have O3 : OwnR w4 (some ⟨g3, 0, none⟩) (fa.map ageR) := Or.inr ⟨g3, A3, rfl, H3, fun k hk => L3 k (by simpa using hk)⟩
      have O : OwnS wb.heap.size (w4.setCell ⟨w.heap.size, 5, none⟩ (.slice a5 sq.length k5)) ⟨sp.map ageR, he.map ageR, fa.map ageR, wn, ar, sq⟩ ⟨some ⟨g1, 0, none⟩, k1, some ⟨g2, 0, none⟩, k2, some ⟨g3, 0, none⟩, k3, a5, k5⟩ :=
        ⟨O1.grown S1 (fun x e => by cases e; simp; omega), O2.grown S1 (fun x e => by cases e; simp; omega), O3.grown S1 (fun x e => by cases e; simp; omega), q4.grown S1 (fun x e => by have := b4 x e; simp; omega),
          (fun x e => by cases e; exact l1), (fun x e => by cases e; exact l2), (fun x e => by cases e; exact l3), (fun x e => Nat.le_trans lW (b4 x e)), (fun x y ex ey => by cases ex; cases ey; exact n12), (fun x y ex ey => by cases ex; cases ey; exact n13), (fun x y ex ey => by cases ex; cases ey; exact n23)⟩
      have Q := O.set6 (w.heap.size + 1) lR (.slice (some ⟨g1, 0, none⟩) sp.length k1) (.slice (some ⟨g2, 0, none⟩) he.length k2) (.slice (some ⟨g3, 0, none⟩) fa.length k3) (.int .i64 wn) (.bool ar) (.slice a5 sq.length k5)
      have GG := gr6 (gr_new G (Nat.le_refl w.heap.size) 5 (.slice a5 sq.length k5)) (show w.heap.size ≤ w.heap.size + 1 by omega) (.slice (some ⟨g1, 0, none⟩) sp.length k1) (.slice (some ⟨g2, 0, none⟩) he.length k2) (.slice (some ⟨g3, 0, none⟩) fa.length k3) (.int .i64 wn) (.bool ar) (.slice a5 sq.length k5)
      obtain ⟨⟨t0, t1, t2⟩, t3, t4, t5⟩ := six (set6 (R.set_other nz' 5 (.slice a5 sq.length k5)) (.slice (some ⟨g1, 0, none⟩) sp.length k1) (.slice (some ⟨g2, 0, none⟩) he.length k2) (.slice (some ⟨g3, 0, none⟩) fa.length k3) (.int .i64 wn) (.bool ar) (.slice a5 sq.length k5))
      have el1 : (sp.map ageR).length = sp.length := List.length_map _
      have el2 : (he.map ageR).length = he.length := List.length_map _
      have el3 : (fa.map ageR).length = fa.length := List.length_map _
      refine bodyPost_ret (v := .agg #[.slice (some ⟨g1, 0, none⟩) sp.length k1, .slice (some ⟨g2, 0, none⟩) he.length k2, .slice (some ⟨g3, 0, none⟩) fa.length k3, .int .i64 wn, .bool ar, .slice a5 sq.length k5]) (by simp [results, Tryz.results27, go_sem, t0, t1, t2, t3, t4, t5]) rfl ⟨_, ?_, GG, Q.below (by omega)⟩
      show _ = Ending.returned (.agg #[.slice _ (sp.map ageR).length _, .slice _ (he.map ageR).length _, .slice _ (fa.map ageR).length _, _, _, _])
      rw [el1, el2, el3]
theorem agedI (s : S) (p : P) (w : World) (h : Arg w s p) (ho : Ok s) : Calls Tryz.prog 27 #[sv s p] w (RetS ⟨s.sp.map ageR, s.he.map ageR, s.fa.map ageR, s.wn, s.ar, s.sq⟩ w) :=
  agedL s.sp s.he s.fa s.wn s.ar s.sq p.a1 p.a2 p.a3 p.a4 p.c1 p.c2 p.c3 p.c4 w h.sp h.he h.fa h.sq (by rw [ho.sp3]; omega) (by rw [ho.he2]; omega) (by rw [ho.fa6]; omega) (by rw [ho.sq4]; omega) (fun e => by have := ho.sq4; rw [e] at this; simp at this)
    (by rw [ho.sp3, ho.he2]; omega) (by rw [ho.sp3, ho.fa6]; omega) (by rw [ho.he2, ho.fa6]; omega) ho.sp ho.he ho.fa
end Go.Proofs.YtdikhdfpcipdbaaGreatDoor.se

/- shapeOf and told of the program. -/
namespace Go.Proofs.YtdikhdfpcipdbaaGreatDoor.se
open Go.ChangeShapes Go.WideShapes Go.ChangeAt Go.RowKit
open Go.Proofs.YtdikhdfpcipdbaaGreatDoor.nums Go.Proofs.YtdikhdfpcipdbaaGreatDoor.mem
open Go.Proofs.YtdikhdfpcipdbaaGreatDoor.tab (Ret)
open Go.Proofs.YtdikhdfpcipdbaaGreatDoor.rd (R okR ageR zR rx ra ro OwnR)
open Go.Proofs.YtdikhdfpcipdbaaGreatDoor.il (nth Ints Own)
set_option linter.unusedVariables false

/-- The program's two ranges. -/
structure Rgs (w : World) : Prop where
  s0 : w.cell? ⟨1, 0, none⟩ = some (.int .i64 0)
  s1 : w.cell? ⟨1, 1, none⟩ = some (.int .i64 400)
  s2 : w.cell? ⟨1, 2, none⟩ = some (.int .i64 20)
  h0 : w.cell? ⟨2, 0, none⟩ = some (.int .i64 0)
  h1 : w.cell? ⟨2, 1, none⟩ = some (.int .i64 2000)
  h2 : w.cell? ⟨2, 2, none⟩ = some (.int .i64 60)
theorem Rgs.kept {w w' : World} (h : Rgs w) (hg : w.grownBy w' none) : Rgs w' :=
  ⟨sane.cell_kept h.s0 hg, sane.cell_kept h.s1 hg, sane.cell_kept h.s2 hg, sane.cell_kept h.h0 hg, sane.cell_kept h.h1 hg, sane.cell_kept h.h2 hg⟩

set_option maxHeartbeats 1000000 in
theorem shape1 (sq : Int) (a : Option Addr) (n cap : Nat) (w : World) : Calls Tryz.prog 30 #[frm.fr 1 sq a n cap] w (Ret (.iface 100 (.slice a n cap)) w) := by
  have K := Has.fresh w 50 #[.int .i64 1, .int .i64 sq, .slice a n cap]
  obtain ⟨c0, c1, c2, _, _, _⟩ := frm.three K
  go_enter Tryz.func30, Tryz.ntmps30
  go_wp2_with fail
  go_ret
  exact ⟨rfl, World.grownBy_alloc _ _ _⟩
set_option maxHeartbeats 1000000 in
theorem shape2 (sq : Int) (a : Option Addr) (n cap : Nat) (w : World) : Calls Tryz.prog 30 #[frm.fr 2 sq a n cap] w (Ret (.iface 102 (.slice a n cap)) w) := by
  have K := Has.fresh w 50 #[.int .i64 2, .int .i64 sq, .slice a n cap]
  obtain ⟨c0, c1, c2, _, _, _⟩ := frm.three K
  go_enter Tryz.func30, Tryz.ntmps30
  go_wp2_with fail
  go_ret
  exact ⟨rfl, World.grownBy_alloc _ _ _⟩
set_option maxHeartbeats 1000000 in
theorem shape3 (sq : Int) (a : Option Addr) (n cap : Nat) (w : World) : Calls Tryz.prog 30 #[frm.fr 3 sq a n cap] w (Ret (.iface 103 (.slice a n cap)) w) := by
  have K := Has.fresh w 50 #[.int .i64 3, .int .i64 sq, .slice a n cap]
  obtain ⟨c0, c1, c2, _, _, _⟩ := frm.three K
  go_enter Tryz.func30, Tryz.ntmps30
  go_wp2_with fail
  go_ret
  exact ⟨rfl, World.grownBy_alloc _ _ _⟩
set_option maxHeartbeats 1000000 in
theorem shape4 (sq : Int) (a : Option Addr) (cap : Nat) (vs : List Int) (w : World) (h : Ints w a vs) (hl : vs.length = 2) : Calls Tryz.prog 30 #[frm.fr 4 sq a vs.length cap] w (Ret (.iface 106 (.agg #[.int .i64 (nth vs 0), .bool (!decide (nth vs 1 = 0))])) w) := by
  rw [hl]
  have g0 := World.grownBy_alloc w (Obj.cells #[.int .i64 4, .int .i64 sq, .slice a 2 cap] 50) none
  have K := Has.fresh w 50 #[.int .i64 4, .int .i64 sq, .slice a 2 cap]
  obtain ⟨c0, c1, c2, _, _, _⟩ := frm.three K
  obtain ⟨x, rfl, _, d0⟩ := (h.kept g0) 0 (by omega)
  obtain ⟨x', e, _, d1⟩ := (h.kept g0) 1 (by omega)
  injection e with e; subst e
  have x0 : x.add 0 = x := by unfold Addr.add; split <;> simp_all
  have d0' := d0
  rw [x0] at d0'
  have d1' := d1
  rw [show (1 : Nat) = 0 + (0 + 1) by rfl, tab.add_off, x0] at d1'
  have hb : (!(nth vs 1 == 0)) = (!decide (nth vs 1 = 0)) := by rfl
  go_enter Tryz.func30, Tryz.ntmps30
  go_wp2_with fail
  go_quiet (fail)
  go_wp2_with fail
  go_ret
  exact ⟨rfl, gr_drewN g0 _⟩
/-- What an assertion to a type of the program's own answers: the very type, or another one. -/
theorem as_slice {t e : TypeId} (hu : Tryz.prog.underlying t = some (.slice e)) (v : Value) (xT : TypeId) (w : World) : (Instr.typeAssert (.iface t v) xT t true).run Tryz.prog w = .ok (.tuple #[v, .bool true]) w := by
  simp [Instr.typeAssert, run_underlying hu, go_sem, Result.andThen]
theorem as_no {t t' e : TypeId} (hu : Tryz.prog.underlying t = some (.slice e)) (hz : (Tryz.prog.info? t).map (·.zero) = some (some (.slice none 0 0))) (hn : t' ≠ t) (v : Value) (xT : TypeId) (w : World) : (Instr.typeAssert (.iface t' v) xT t true).run Tryz.prog w = .ok (.tuple #[.slice none 0 0, .bool false]) w := by
  cases hj : Tryz.prog.info? t with
  | none => rw [hj] at hz; cases hz
  | some j =>
    have h0 : j.zero = some (.slice none 0 0) := by rw [hj] at hz; simpa using hz
    simp [Instr.typeAssert, run_underlying hu, hn, zeroValue, typeInfo, hj, h0, go_sem, Result.andThen]
theorem as1 (v : Value) (xT : TypeId) (w : World) : (Instr.typeAssert (.iface 100 v) xT 100 true).run Tryz.prog w = .ok (.tuple #[v, .bool true]) w := as_slice Tryz.underlying100 v xT w
theorem as2 (v : Value) (xT : TypeId) (w : World) : (Instr.typeAssert (.iface 102 v) xT 102 true).run Tryz.prog w = .ok (.tuple #[v, .bool true]) w := as_slice Tryz.underlying102 v xT w
theorem as3 (v : Value) (xT : TypeId) (w : World) : (Instr.typeAssert (.iface 103 v) xT 103 true).run Tryz.prog w = .ok (.tuple #[v, .bool true]) w := as_slice Tryz.underlying103 v xT w
theorem as21 (v : Value) (xT : TypeId) (w : World) : (Instr.typeAssert (.iface 102 v) xT 100 true).run Tryz.prog w = .ok (.tuple #[.slice none 0 0, .bool false]) w := as_no (t' := 102) Tryz.underlying100 (by kernel_rfl) (by decide) v xT w
theorem as31 (v : Value) (xT : TypeId) (w : World) : (Instr.typeAssert (.iface 103 v) xT 100 true).run Tryz.prog w = .ok (.tuple #[.slice none 0 0, .bool false]) w := as_no (t' := 103) Tryz.underlying100 (by kernel_rfl) (by decide) v xT w
theorem as32 (v : Value) (xT : TypeId) (w : World) : (Instr.typeAssert (.iface 103 v) xT 102 true).run Tryz.prog w = .ok (.tuple #[.slice none 0 0, .bool false]) w := as_no (t' := 103) Tryz.underlying102 (by kernel_rfl) (by decide) v xT w
theorem as41 (v : Value) (xT : TypeId) (w : World) : (Instr.typeAssert (.iface 106 v) xT 100 true).run Tryz.prog w = .ok (.tuple #[.slice none 0 0, .bool false]) w := as_no (t' := 106) Tryz.underlying100 (by kernel_rfl) (by decide) v xT w
theorem as42 (v : Value) (xT : TypeId) (w : World) : (Instr.typeAssert (.iface 106 v) xT 102 true).run Tryz.prog w = .ok (.tuple #[.slice none 0 0, .bool false]) w := as_no (t' := 106) Tryz.underlying102 (by kernel_rfl) (by decide) v xT w
theorem as43 (v : Value) (xT : TypeId) (w : World) : (Instr.typeAssert (.iface 106 v) xT 103 true).run Tryz.prog w = .ok (.tuple #[.slice none 0 0, .bool false]) w := as_no (t' := 106) Tryz.underlying103 (by kernel_rfl) (by decide) v xT w
theorem as4 (v : Value) (xT : TypeId) (w : World) : (Instr.typeAssert (.iface 106 v) xT 106 true).run Tryz.prog w = .ok (.tuple #[v, .bool true]) w := by
  simp [Instr.typeAssert, run_underlying Tryz.underlying106, go_sem, Result.andThen]
/-- One list is another one, in a block of its own. -/
def NewR (w : World) (x : Option Addr) (m : List R) (w' : World) : Prop := w.grownBy w' none ∧ OwnR w' x m ∧ ∀ y : Addr, x = some y → w.heap.size ≤ y.block
theorem taken_call (lo hi rt : Int) (a b : Option Addr) (cap cap2 : Nat) (l : List R) (vs : List Int) (n f q : Addr) (w : World) (h : rd.Arg w a l) (hv : Ints w b vs) (hl : l.length ≤ 1048576) (hlen : vs.length = l.length) (he : sane.ErrB w n f q) (ht : sane.ErrT w) :
    Calls Tryz.prog 68 #[.agg #[.int .i64 lo, .int .i64 hi, .int .i64 rt], .slice a l.length cap, .slice b vs.length cap2] w fun e w' => ∃ x k, e = .returned (.slice x l.length k) ∧ NewR w x (each (tk lo hi rt) l vs) w' := by
  refine (implTakenAll lo hi rt a b cap cap2 l vs n f q w h hv hl hlen he ht).mono ?_
  rintro e w' ⟨x, k, rfl, h1, h2, h3⟩
  exact ⟨x, k, by rw [each_len], h1, h2, h3⟩
theorem got_call (a b : Option Addr) (cap cap2 : Nat) (l : List R) (vs : List Int) (w : World) (h : rd.Arg w a l) (hv : Ints w b vs) (hl : l.length ≤ 1048576) (hlen : vs.length = l.length) :
    Calls Tryz.prog 69 #[.slice a l.length cap, .slice b vs.length cap2] w fun e w' => ∃ x k, e = .returned (.slice x l.length k) ∧ NewR w x (each gt l vs) w' := by
  refine (implGotAll a b cap cap2 l vs w h hv hl hlen).mono ?_
  rintro e w' ⟨x, k, rfl, h1, h2, h3⟩
  exact ⟨x, k, by rw [each_len], h1, h2, h3⟩

set_option maxRecDepth 100000 in
set_option maxHeartbeats 800000 in
theorem told1 (cur s : S) (pc ps : P) (b : Option Addr) (cap2 : Nat) (vs : List Int) (n f q : Addr) (w : World) (h : rd.Arg w ps.a1 s.sp) (hv : Ints w b vs) (hl : s.sp.length ≤ 1048576) (hlen : vs.length = s.sp.length) (he : sane.ErrB w n f q) (ht : sane.ErrT w) (hr : Rgs w) :
    Calls Tryz.prog 29 #[sv cur pc, sv s ps, .iface 100 (.slice b vs.length cap2)] w fun e w' => ∃ x j, e = .returned (.agg #[.slice x s.sp.length j, .slice pc.a2 cur.he.length pc.c2, .slice pc.a3 cur.fa.length pc.c3, .int .i64 cur.wn, .bool cur.ar, .slice pc.a4 cur.sq.length pc.c4]) ∧ NewR w x (each (tk 0 400 20) s.sp vs) w' := by
  have KA := ((Has.fresh w 27 (cs6 cur pc)).alloc (Obj.cells (cs6 s ps) 27)).alloc (Obj.cells #[.slice none 0 0, .slice none 0 0, .slice none 0 0, .int .i64 0, .bool false, .slice none 0 0] 27)
  have KB := (Has.fresh (w.alloc (Obj.cells (cs6 cur pc) 27)) 27 (cs6 s ps)).alloc (Obj.cells #[.slice none 0 0, .slice none 0 0, .slice none 0 0, .int .i64 0, .bool false, .slice none 0 0] 27)
  have R := Has.fresh ((w.alloc (Obj.cells (cs6 cur pc) 27)).alloc (Obj.cells (cs6 s ps) 27)) 27 #[.slice none 0 0, .slice none 0 0, .slice none 0 0, .int .i64 0, .bool false, .slice none 0 0]
  have g0 := gr_alloc (gr_alloc (World.grownBy_alloc w (Obj.cells (cs6 cur pc) 27) none) (Obj.cells (cs6 s ps) 27)) (Obj.cells #[.slice none 0 0, .slice none 0 0, .slice none 0 0, .int .i64 0, .bool false, .slice none 0 0] 27)
  simp only [World.size_alloc] at KB R
  have hr := hr.kept g0
  have v0 := hr.s0
  have v1 := hr.s1
  have v2 := hr.s2
  have cT := taken_call 0 400 20 ps.a1 b ps.c1 cap2 s.sp vs n f q _ (h.kept g0) (hv.kept g0) hl hlen (he.kept g0) (ht.kept g0)
  clear hlen
  have q0 := as1
  obtain ⟨⟨d0, d1, d2⟩, d3, d4, d5⟩ := six KB
  go_enter Tryz.func29, Tryz.ntmps29
  go_wp2_with fail
  refine cT.mono ?_
  rintro e w1 ⟨x, j, rfl, r1, o1, b1⟩
  have lR := R.lt
  replace KA := KA.grown r1 (by simp)
  replace R := R.grown r1 (by simp)
  have G := gr_trans g0 r1
  clear d0 d1 d2 d3 d4 d5 KB
  obtain ⟨⟨c0, c1, c2⟩, c3, c4, c5⟩ := six KA
  obtain ⟨⟨f0, f1, f2⟩, f3, f4, f5⟩ := free6 KA
  obtain ⟨⟨e0, e1, e2⟩, e3, e4, e5⟩ := six R
  obtain ⟨⟨m0, m1, m2⟩, m3, m4, m5⟩ := free6 R
  have nz : w.heap.size + 1 + 1 ≠ w.heap.size := by omega
  go_wp2_with fail
  obtain ⟨⟨t0, t1, t2⟩, t3, t4, t5⟩ := six (set6 (R.set_other nz 0 (.slice x s.sp.length j)) (.slice x s.sp.length j) (.slice pc.a2 cur.he.length pc.c2) (.slice pc.a3 cur.fa.length pc.c3) (.int .i64 cur.wn) (.bool cur.ar) (.slice pc.a4 cur.sq.length pc.c4))
  have GG := gr6 (gr_new G (Nat.le_refl w.heap.size) 0 (.slice x s.sp.length j)) (show w.heap.size ≤ w.heap.size + 1 + 1 by omega) (.slice x s.sp.length j) (.slice pc.a2 cur.he.length pc.c2) (.slice pc.a3 cur.fa.length pc.c3) (.int .i64 cur.wn) (.bool cur.ar) (.slice pc.a4 cur.sq.length pc.c4)
  have O := (o1.grown (gr_set (gr_refl w1 (some w.heap.size)) 0 (.slice x s.sp.length j)) (fun y e => by have := b1 y e; simp; omega)).grown (gr_set (gr_set (gr_set (gr_set (gr_set (gr_set (gr_refl _ (some (w.heap.size + 1 + 1))) 0 (.slice x s.sp.length j)) 1 (.slice pc.a2 cur.he.length pc.c2)) 2 (.slice pc.a3 cur.fa.length pc.c3)) 3 (.int .i64 cur.wn)) 4 (.bool cur.ar)) 5 (.slice pc.a4 cur.sq.length pc.c4)) (fun y e => by have := b1 y e; simp; omega)
  exact bodyPost_ret (v := .agg #[.slice x s.sp.length j, .slice pc.a2 cur.he.length pc.c2, .slice pc.a3 cur.fa.length pc.c3, .int .i64 cur.wn, .bool cur.ar, .slice pc.a4 cur.sq.length pc.c4]) (by simp [results, Tryz.results29, go_sem, t0, t1, t2, t3, t4, t5]) rfl ⟨x, j, rfl, GG, O, fun y e => by have := b1 y e; omega⟩

set_option maxRecDepth 100000 in
set_option maxHeartbeats 800000 in
theorem told2 (cur s : S) (pc ps : P) (b : Option Addr) (cap2 : Nat) (vs : List Int) (n f q : Addr) (w : World) (h : rd.Arg w ps.a2 s.he) (hv : Ints w b vs) (hl : s.he.length ≤ 1048576) (hlen : vs.length = s.he.length) (he : sane.ErrB w n f q) (ht : sane.ErrT w) (hr : Rgs w) :
    Calls Tryz.prog 29 #[sv cur pc, sv s ps, .iface 102 (.slice b vs.length cap2)] w fun e w' => ∃ x j, e = .returned (.agg #[.slice pc.a1 cur.sp.length pc.c1, .slice x s.he.length j, .slice pc.a3 cur.fa.length pc.c3, .int .i64 cur.wn, .bool cur.ar, .slice pc.a4 cur.sq.length pc.c4]) ∧ NewR w x (each (tk 0 2000 60) s.he vs) w' := by
  have KA := ((Has.fresh w 27 (cs6 cur pc)).alloc (Obj.cells (cs6 s ps) 27)).alloc (Obj.cells #[.slice none 0 0, .slice none 0 0, .slice none 0 0, .int .i64 0, .bool false, .slice none 0 0] 27)
  have KB := (Has.fresh (w.alloc (Obj.cells (cs6 cur pc) 27)) 27 (cs6 s ps)).alloc (Obj.cells #[.slice none 0 0, .slice none 0 0, .slice none 0 0, .int .i64 0, .bool false, .slice none 0 0] 27)
  have R := Has.fresh ((w.alloc (Obj.cells (cs6 cur pc) 27)).alloc (Obj.cells (cs6 s ps) 27)) 27 #[.slice none 0 0, .slice none 0 0, .slice none 0 0, .int .i64 0, .bool false, .slice none 0 0]
  have g0 := gr_alloc (gr_alloc (World.grownBy_alloc w (Obj.cells (cs6 cur pc) 27) none) (Obj.cells (cs6 s ps) 27)) (Obj.cells #[.slice none 0 0, .slice none 0 0, .slice none 0 0, .int .i64 0, .bool false, .slice none 0 0] 27)
  simp only [World.size_alloc] at KB R
  have hr := hr.kept g0
  have v0 := hr.h0
  have v1 := hr.h1
  have v2 := hr.h2
  have cT := taken_call 0 2000 60 ps.a2 b ps.c2 cap2 s.he vs n f q _ (h.kept g0) (hv.kept g0) hl hlen (he.kept g0) (ht.kept g0)
  clear hlen
  have q0 := as21
  have q1 := as2
  obtain ⟨⟨d0, d1, d2⟩, d3, d4, d5⟩ := six KB
  go_enter Tryz.func29, Tryz.ntmps29
  go_wp2_with fail
  refine cT.mono ?_
  rintro e w1 ⟨x, j, rfl, r1, o1, b1⟩
  have lR := R.lt
  replace KA := KA.grown r1 (by simp)
  replace R := R.grown r1 (by simp)
  have G := gr_trans g0 r1
  clear d0 d1 d2 d3 d4 d5 KB
  obtain ⟨⟨c0, c1, c2⟩, c3, c4, c5⟩ := six KA
  obtain ⟨⟨f0, f1, f2⟩, f3, f4, f5⟩ := free6 KA
  obtain ⟨⟨e0, e1, e2⟩, e3, e4, e5⟩ := six R
  obtain ⟨⟨m0, m1, m2⟩, m3, m4, m5⟩ := free6 R
  have nz : w.heap.size + 1 + 1 ≠ w.heap.size := by omega
  go_wp2_with fail
  obtain ⟨⟨t0, t1, t2⟩, t3, t4, t5⟩ := six (set6 (R.set_other nz 1 (.slice x s.he.length j)) (.slice pc.a1 cur.sp.length pc.c1) (.slice x s.he.length j) (.slice pc.a3 cur.fa.length pc.c3) (.int .i64 cur.wn) (.bool cur.ar) (.slice pc.a4 cur.sq.length pc.c4))
  have GG := gr6 (gr_new G (Nat.le_refl w.heap.size) 1 (.slice x s.he.length j)) (show w.heap.size ≤ w.heap.size + 1 + 1 by omega) (.slice pc.a1 cur.sp.length pc.c1) (.slice x s.he.length j) (.slice pc.a3 cur.fa.length pc.c3) (.int .i64 cur.wn) (.bool cur.ar) (.slice pc.a4 cur.sq.length pc.c4)
  have O := (o1.grown (gr_set (gr_refl w1 (some w.heap.size)) 1 (.slice x s.he.length j)) (fun y e => by have := b1 y e; simp; omega)).grown (gr_set (gr_set (gr_set (gr_set (gr_set (gr_set (gr_refl _ (some (w.heap.size + 1 + 1))) 0 (.slice pc.a1 cur.sp.length pc.c1)) 1 (.slice x s.he.length j)) 2 (.slice pc.a3 cur.fa.length pc.c3)) 3 (.int .i64 cur.wn)) 4 (.bool cur.ar)) 5 (.slice pc.a4 cur.sq.length pc.c4)) (fun y e => by have := b1 y e; simp; omega)
  exact bodyPost_ret (v := .agg #[.slice pc.a1 cur.sp.length pc.c1, .slice x s.he.length j, .slice pc.a3 cur.fa.length pc.c3, .int .i64 cur.wn, .bool cur.ar, .slice pc.a4 cur.sq.length pc.c4]) (by simp [results, Tryz.results29, go_sem, t0, t1, t2, t3, t4, t5]) rfl ⟨x, j, rfl, GG, O, fun y e => by have := b1 y e; omega⟩

set_option maxRecDepth 100000 in
set_option maxHeartbeats 800000 in
theorem told3 (cur s : S) (pc ps : P) (b : Option Addr) (cap2 : Nat) (vs : List Int) (w : World) (h : rd.Arg w ps.a3 s.fa) (hv : Ints w b vs) (hl : s.fa.length ≤ 1048576) (hlen : vs.length = s.fa.length) :
    Calls Tryz.prog 29 #[sv cur pc, sv s ps, .iface 103 (.slice b vs.length cap2)] w fun e w' => ∃ x j, e = .returned (.agg #[.slice pc.a1 cur.sp.length pc.c1, .slice pc.a2 cur.he.length pc.c2, .slice x s.fa.length j, .int .i64 cur.wn, .bool cur.ar, .slice pc.a4 cur.sq.length pc.c4]) ∧ NewR w x (each gt s.fa vs) w' := by
  have KA := ((Has.fresh w 27 (cs6 cur pc)).alloc (Obj.cells (cs6 s ps) 27)).alloc (Obj.cells #[.slice none 0 0, .slice none 0 0, .slice none 0 0, .int .i64 0, .bool false, .slice none 0 0] 27)
  have KB := (Has.fresh (w.alloc (Obj.cells (cs6 cur pc) 27)) 27 (cs6 s ps)).alloc (Obj.cells #[.slice none 0 0, .slice none 0 0, .slice none 0 0, .int .i64 0, .bool false, .slice none 0 0] 27)
  have R := Has.fresh ((w.alloc (Obj.cells (cs6 cur pc) 27)).alloc (Obj.cells (cs6 s ps) 27)) 27 #[.slice none 0 0, .slice none 0 0, .slice none 0 0, .int .i64 0, .bool false, .slice none 0 0]
  have g0 := gr_alloc (gr_alloc (World.grownBy_alloc w (Obj.cells (cs6 cur pc) 27) none) (Obj.cells (cs6 s ps) 27)) (Obj.cells #[.slice none 0 0, .slice none 0 0, .slice none 0 0, .int .i64 0, .bool false, .slice none 0 0] 27)
  simp only [World.size_alloc] at KB R
  have cT := got_call ps.a3 b ps.c3 cap2 s.fa vs _ (h.kept g0) (hv.kept g0) hl hlen
  clear hlen
  have q0 := as31
  have q1 := as32
  have q2 := as3
  obtain ⟨⟨d0, d1, d2⟩, d3, d4, d5⟩ := six KB
  go_enter Tryz.func29, Tryz.ntmps29
  go_wp2_with fail
  refine cT.mono ?_
  rintro e w1 ⟨x, j, rfl, r1, o1, b1⟩
  have lR := R.lt
  replace KA := KA.grown r1 (by simp)
  replace R := R.grown r1 (by simp)
  have G := gr_trans g0 r1
  clear d0 d1 d2 d3 d4 d5 KB
  obtain ⟨⟨c0, c1, c2⟩, c3, c4, c5⟩ := six KA
  obtain ⟨⟨f0, f1, f2⟩, f3, f4, f5⟩ := free6 KA
  obtain ⟨⟨e0, e1, e2⟩, e3, e4, e5⟩ := six R
  obtain ⟨⟨m0, m1, m2⟩, m3, m4, m5⟩ := free6 R
  have nz : w.heap.size + 1 + 1 ≠ w.heap.size := by omega
  go_wp2_with fail
  obtain ⟨⟨t0, t1, t2⟩, t3, t4, t5⟩ := six (set6 (R.set_other nz 2 (.slice x s.fa.length j)) (.slice pc.a1 cur.sp.length pc.c1) (.slice pc.a2 cur.he.length pc.c2) (.slice x s.fa.length j) (.int .i64 cur.wn) (.bool cur.ar) (.slice pc.a4 cur.sq.length pc.c4))
  have GG := gr6 (gr_new G (Nat.le_refl w.heap.size) 2 (.slice x s.fa.length j)) (show w.heap.size ≤ w.heap.size + 1 + 1 by omega) (.slice pc.a1 cur.sp.length pc.c1) (.slice pc.a2 cur.he.length pc.c2) (.slice x s.fa.length j) (.int .i64 cur.wn) (.bool cur.ar) (.slice pc.a4 cur.sq.length pc.c4)
  have O := (o1.grown (gr_set (gr_refl w1 (some w.heap.size)) 2 (.slice x s.fa.length j)) (fun y e => by have := b1 y e; simp; omega)).grown (gr_set (gr_set (gr_set (gr_set (gr_set (gr_set (gr_refl _ (some (w.heap.size + 1 + 1))) 0 (.slice pc.a1 cur.sp.length pc.c1)) 1 (.slice pc.a2 cur.he.length pc.c2)) 2 (.slice x s.fa.length j)) 3 (.int .i64 cur.wn)) 4 (.bool cur.ar)) 5 (.slice pc.a4 cur.sq.length pc.c4)) (fun y e => by have := b1 y e; simp; omega)
  exact bodyPost_ret (v := .agg #[.slice pc.a1 cur.sp.length pc.c1, .slice pc.a2 cur.he.length pc.c2, .slice x s.fa.length j, .int .i64 cur.wn, .bool cur.ar, .slice pc.a4 cur.sq.length pc.c4]) (by simp [results, Tryz.results29, go_sem, t0, t1, t2, t3, t4, t5]) rfl ⟨x, j, rfl, GG, O, fun y e => by have := b1 y e; omega⟩

set_option maxRecDepth 100000 in
set_option maxHeartbeats 800000 in
theorem told4 (cur s : S) (pc ps : P) (x : Int) (o : Bool) (w : World) :
    Calls Tryz.prog 29 #[sv cur pc, sv s ps, .iface 106 (.agg #[.int .i64 x, .bool o])] w (Ret (.agg #[.slice pc.a1 cur.sp.length pc.c1, .slice pc.a2 cur.he.length pc.c2, .slice pc.a3 cur.fa.length pc.c3, .int .i64 (if inb x 0 2 = true then x else cur.wn), .bool o, .slice pc.a4 cur.sq.length pc.c4]) w) := by
  have KA := ((Has.fresh w 27 (cs6 cur pc)).alloc (Obj.cells (cs6 s ps) 27)).alloc (Obj.cells #[.slice none 0 0, .slice none 0 0, .slice none 0 0, .int .i64 0, .bool false, .slice none 0 0] 27)
  have R := Has.fresh ((w.alloc (Obj.cells (cs6 cur pc) 27)).alloc (Obj.cells (cs6 s ps) 27)) 27 #[.slice none 0 0, .slice none 0 0, .slice none 0 0, .int .i64 0, .bool false, .slice none 0 0]
  have g0 := gr_alloc (gr_alloc (World.grownBy_alloc w (Obj.cells (cs6 cur pc) 27) none) (Obj.cells (cs6 s ps) 27)) (Obj.cells #[.slice none 0 0, .slice none 0 0, .slice none 0 0, .int .i64 0, .bool false, .slice none 0 0] 27)
  simp only [World.size_alloc] at R
  have cW := md.implWantOk x
  have q0 := as41
  have q1 := as42
  have q2 := as43
  have q3 := as4
  have nz : w.heap.size + 1 + 1 ≠ w.heap.size := by omega
  cases hx : inb x 0 2
  all_goals rw [hx] at cW
  all_goals clear hx
  all_goals obtain ⟨⟨c0, c1, c2⟩, c3, c4, c5⟩ := six KA
  all_goals obtain ⟨⟨f0, f1, f2⟩, f3, f4, f5⟩ := free6 KA
  all_goals obtain ⟨⟨e0, e1, e2⟩, e3, e4, e5⟩ := six R
  all_goals obtain ⟨⟨m0, m1, m2⟩, m3, m4, m5⟩ := free6 R
  all_goals go_enter Tryz.func29, Tryz.ntmps29
  all_goals go_wp2_with fail
  all_goals refine (cW _).mono ?_
  all_goals rintro e w1 ⟨rfl, rfl⟩
  all_goals go_wp2_with fail
  · exact bodyPost_ret (v := .agg #[.slice pc.a1 cur.sp.length pc.c1, .slice pc.a2 cur.he.length pc.c2, .slice pc.a3 cur.fa.length pc.c3, .int .i64 cur.wn, .bool o, .slice pc.a4 cur.sq.length pc.c4]) (by simp [results, Tryz.results29, go_sem]) rfl ⟨by simp, gr_alloc (gr_alloc (gr_alloc (World.grownBy_alloc _ _ _) _) _) _⟩
  · exact bodyPost_ret (v := .agg #[.slice pc.a1 cur.sp.length pc.c1, .slice pc.a2 cur.he.length pc.c2, .slice pc.a3 cur.fa.length pc.c3, .int .i64 x, .bool o, .slice pc.a4 cur.sq.length pc.c4]) (by simp [results, Tryz.results29, go_sem]) rfl ⟨by simp, gr_alloc (gr_alloc (gr_alloc (World.grownBy_alloc _ _ _) _) _) _⟩
end Go.Proofs.YtdikhdfpcipdbaaGreatDoor.se

/- One Kind more: what is told, and that it is so in memory. -/
namespace Go.Proofs.YtdikhdfpcipdbaaGreatDoor.se
open Go.ChangeShapes Go.WideShapes Go.ChangeAt Go.RowKit
open Go.Proofs.YtdikhdfpcipdbaaGreatDoor.nums Go.Proofs.YtdikhdfpcipdbaaGreatDoor.mem
open Go.Proofs.YtdikhdfpcipdbaaGreatDoor.tab (Ret)
open Go.Proofs.YtdikhdfpcipdbaaGreatDoor.rd (R okR ageR zR rx ra ro OwnR)
open Go.Proofs.YtdikhdfpcipdbaaGreatDoor.il (nth Ints Own)
open Go.Proofs.YtdikhdfpcipdbaaGreatDoor.stm (Fr heard)
set_option linter.unusedVariables false

/-- What was said of Kind k + 1, laid over c. -/
def toldS (s c : S) (k : Nat) (vs : List Int) : S := match k with
  | 0 => ⟨each (tk 0 400 20) s.sp vs, c.he, c.fa, c.wn, c.ar, c.sq⟩
  | 1 => ⟨c.sp, each (tk 0 2000 60) s.he vs, c.fa, c.wn, c.ar, c.sq⟩
  | 2 => ⟨c.sp, c.he, each gt s.fa vs, c.wn, c.ar, c.sq⟩
  | _ => ⟨c.sp, c.he, c.fa, if inb (nth vs 0) 0 2 = true then nth vs 0 else c.wn, !decide (nth vs 1 = 0), c.sq⟩
/-- With that number as the last one heard of Kind k + 1. -/
def withSeq (c : S) (k : Nat) (q : Int) : S := ⟨c.sp, c.he, c.fa, c.wn, c.ar, c.sq.set k q⟩
theorem upto_skip {s : S} {fs : List Fr} {k : Nat} (hk : k < 4) (h : hd s fs k = none) : upto s fs (k + 1) = upto s fs k := by
  rcases (show k = 0 ∨ k = 1 ∨ k = 2 ∨ k = 3 by omega) with rfl | rfl | rfl | rfl <;> simp [upto, sqOf, wnOf, arOf, h]
theorem upto_tell {s : S} {fs : List Fr} {k : Nat} {f : Fr} (hk : k < 4) (h : hd s fs k = some f) : upto s fs (k + 1) = withSeq (toldS s (upto s fs k) k f.2.2) k f.2.1 := by
  rcases (show k = 0 ∨ k = 1 ∨ k = 2 ∨ k = 3 by omega) with rfl | rfl | rfl | rfl <;> simp [upto, sqOf, wnOf, arOf, h, withSeq, toldS, part]
theorem upto_zero {s : S} {fs : List Fr} (h4 : s.sq.length = 4) : upto s fs 0 = ⟨s.sp.map ageR, s.he.map ageR, s.fa.map ageR, s.wn, s.ar, s.sq⟩ := by
  have q := (four_of h4).symm
  simp [upto, part, q]
theorem len_upto (s : S) (fs : List Fr) (k : Nat) : (upto s fs k).sp.length = s.sp.length ∧ (upto s fs k).he.length = s.he.length ∧ (upto s fs k).fa.length = s.fa.length ∧ (upto s fs k).sq.length = 4 := ⟨part_len _ _ _, part_len _ _ _, part_len _ _ _, rfl⟩
theorem hd_len {s : S} {fs : List Fr} {k : Nat} {f : Fr} (h : hd s fs k = some f) : (f.2.2.length : Int) = txt.many ((k : Int) + 1) := by
  obtain ⟨h1, h2⟩ := hd_ok h
  rw [← h2]; exact (txt.okF_parts h1).2.2.2.2.1
def shapeV (k : Nat) (a : Option Addr) (cap : Nat) (vs : List Int) : Value := match k with
  | 0 => .iface 100 (.slice a vs.length cap)
  | 1 => .iface 102 (.slice a vs.length cap)
  | 2 => .iface 103 (.slice a vs.length cap)
  | _ => .iface 106 (.agg #[.int .i64 (nth vs 0), .bool (!decide (nth vs 1 = 0))])
theorem shape_call {k : Nat} (hk : k < 4) (sq : Int) (a : Option Addr) (cap : Nat) (vs : List Int) (w : World) (h : Ints w a vs) (hl : (vs.length : Int) = txt.many ((k : Int) + 1)) : Calls Tryz.prog 30 #[frm.fr ((k : Int) + 1) sq a vs.length cap] w (Ret (shapeV k a cap vs) w) := by
  rcases (show k = 0 ∨ k = 1 ∨ k = 2 ∨ k = 3 by omega) with rfl | rfl | rfl | rfl
  · exact shape1 sq a vs.length cap w
  · exact shape2 sq a vs.length cap w
  · exact shape3 sq a vs.length cap w
  · exact shape4 sq a cap vs w h (by have : txt.many (((3 : Nat) : Int) + 1) = 2 := by decide
                                     omega)
/-- The value of senses with these lists' places, as long as those of s. -/
abbrev sval (s c : S) (p : P) : Value := .agg #[.slice p.a1 s.sp.length p.c1, .slice p.a2 s.he.length p.c2, .slice p.a3 s.fa.length p.c3, .int .i64 c.wn, .bool c.ar, .slice p.a4 s.sq.length p.c4]
abbrev scs (s c : S) (p : P) : Array Value := #[.slice p.a1 s.sp.length p.c1, .slice p.a2 s.he.length p.c2, .slice p.a3 s.fa.length p.c3, .int .i64 c.wn, .bool c.ar, .slice p.a4 s.sq.length p.c4]
/-- These senses come back in their own memory. -/
def Told (z : Nat) (s c : S) (v : Value) (w : World) : Prop := ∃ p, v = sval s c p ∧ OwnS z w c p
theorem Told.stab {z : Nat} {s c : S} {v : Value} {w w' : World} (h : Told z s c v w) (hg : w.grownBy w' none) : Told z s c v w' := by
  obtain ⟨p, h1, h2⟩ := h
  exact ⟨p, h1, h2.kept hg⟩
theorem told_call {k : Nat} (hk : k < 4) (z : Nat) (s c : S) (pc p : P) (b : Option Addr) (cap2 : Nat) (vs : List Int) (n f q : Addr) (w : World) (ho : Ok s) (h : Arg w s p) (hv : Ints w b vs) (hl : (vs.length : Int) = txt.many ((k : Int) + 1))
    (he : sane.ErrB w n f q) (ht : sane.ErrT w) (hr : Rgs w) (O : OwnS z w c pc) (hz : z ≤ w.heap.size) :
    Calls Tryz.prog 29 #[sval s c pc, sv s p, shapeV k b cap2 vs] w fun e w' => ∃ v, e = .returned v ∧ w.grownBy w' none ∧ Told z s (toldS s c k vs) v w' := by
  have ho' := ho
  obtain ⟨p1, l1, p2, l2, p3, l3, _, _, l4⟩ := ho
  rcases (show k = 0 ∨ k = 1 ∨ k = 2 ∨ k = 3 by omega) with rfl | rfl | rfl | rfl
  · have hlen : vs.length = s.sp.length := by have : txt.many (((0 : Nat) : Int) + 1) = 3 := by decide
                                              omega
    refine (told1 ⟨s.sp, s.he, s.fa, c.wn, c.ar, s.sq⟩ s pc p b cap2 vs n f q w h.sp hv (by omega) hlen he ht hr).mono ?_
    rintro e w' ⟨x, j, rfl, g, o, bb⟩
    have K := O.kept g
    exact ⟨_, rfl, g, ⟨x, j, pc.a2, pc.c2, pc.a3, pc.c3, pc.a4, pc.c4⟩, rfl, o, K.he, K.fa, K.sq, (fun y e => Nat.le_trans hz (bb y e)), K.b2, K.b3, K.b4, (fun y u ey eu => by have := bb y ey; have := O.he.lt eu; omega), (fun y u ey eu => by have := bb y ey; have := O.fa.lt eu; omega), K.d23⟩
  · have hlen : vs.length = s.he.length := by have : txt.many (((1 : Nat) : Int) + 1) = 2 := by decide
                                              omega
    refine (told2 ⟨s.sp, s.he, s.fa, c.wn, c.ar, s.sq⟩ s pc p b cap2 vs n f q w h.he hv (by omega) hlen he ht hr).mono ?_
    rintro e w' ⟨x, j, rfl, g, o, bb⟩
    have K := O.kept g
    exact ⟨_, rfl, g, ⟨pc.a1, pc.c1, x, j, pc.a3, pc.c3, pc.a4, pc.c4⟩, rfl, K.sp, o, K.fa, K.sq, K.b1, (fun y e => Nat.le_trans hz (bb y e)), K.b3, K.b4, (fun y u ey eu => by have := bb u eu; have := O.sp.lt ey; omega), K.d13, (fun y u ey eu => by have := bb y ey; have := O.fa.lt eu; omega)⟩
  · have hlen : vs.length = s.fa.length := by have : txt.many (((2 : Nat) : Int) + 1) = 6 := by decide
                                              omega
    refine (told3 ⟨s.sp, s.he, s.fa, c.wn, c.ar, s.sq⟩ s pc p b cap2 vs w h.fa hv (by omega) hlen).mono ?_
    rintro e w' ⟨x, j, rfl, g, o, bb⟩
    have K := O.kept g
    exact ⟨_, rfl, g, ⟨pc.a1, pc.c1, pc.a2, pc.c2, x, j, pc.a4, pc.c4⟩, rfl, K.sp, K.he, o, K.sq, K.b1, K.b2, (fun y e => Nat.le_trans hz (bb y e)), K.b4, K.d12, (fun y u ey eu => by have := bb u eu; have := O.sp.lt ey; omega), (fun y u ey eu => by have := bb u eu; have := O.he.lt ey; omega)⟩
  · refine (told4 ⟨s.sp, s.he, s.fa, c.wn, c.ar, s.sq⟩ s pc p (nth vs 0) (!decide (nth vs 1 = 0)) w).mono ?_
    rintro e w' ⟨rfl, g⟩
    have K := O.kept g
    exact ⟨_, rfl, g, pc, rfl, K.sp, K.he, K.fa, K.sq, K.b1, K.b2, K.b3, K.b4, K.d12, K.d13, K.d23⟩
/-- A number is laid into the last list. -/
theorem OwnS.seq {b : Nat} {w : World} {c : S} {p : P} (h : OwnS b w c p) {k : Nat} (hk : k < c.sq.length) (v : Int) : ∃ (g o : Nat), p.a4 = some ⟨g, o, none⟩ ∧ g < w.heap.size ∧ b ≤ g ∧ w.cell? ⟨g, o + k, none⟩ = some (.int .i64 (nth c.sq k)) ∧ w.frozen? ⟨g, o + k, none⟩ = false ∧ blkS c p g ∧ OwnS b (w.setCell ⟨g, o + k, none⟩ (.int .i64 v)) (withSeq c k v) p := by
  have hne : c.sq ≠ [] := fun e => by rw [e] at hk; simp at hk
  have hne2 : c.sq.set k v ≠ [] := fun e => by
    have := congrArg List.length e
    simp at this
    exact hne this
  rcases h.sq with e | ⟨g, o, cs, ea, hc, hj⟩
  · exact absurd e hne
  · have hb : il.blk p.a4 c.sq = some g := by rw [ea]; exact il.blk_some hne
    have hb2 : il.blk p.a4 (c.sq.set k v) = some g := by rw [ea]; exact il.blk_some hne2
    have n1 : ∀ {a : Option Addr} {l : List R}, OwnR w a l → ∀ x : Addr, a = some x → some x.block ≠ some g := fun o x e => by have := OwnR.int o h.sq e; rwa [hb] at this
    have S1 := gr_set (gr_refl w (some g)) (o + k) (.int .i64 v)
    refine ⟨g, o, ea, hc.lt, h.b4 g hb, (hc.cell _).trans (hj k hk), hc.frozen _, Or.inr (Or.inr (Or.inr hb)), h.sp.grown S1 (n1 h.sp), h.he.grown S1 (n1 h.he), h.fa.grown S1 (n1 h.fa), Or.inr ⟨g, o, _, ea, hc.set _ _, fun j hj' => ?_⟩, h.b1, h.b2, h.b3, (fun x e => by
      have e2 : il.blk p.a4 (c.sq.set k v) = some x := e
      rw [hb2] at e2; injection e2 with e2; subst e2; exact h.b4 g hb), h.d12, h.d13, h.d23⟩
    have hj2 : j < c.sq.length := by simpa [withSeq] using hj'
    have hsz : o + k < cs.size := (Array.getElem?_eq_some_iff.1 (hj k hk)).1
    show _ = some (Value.int IntKind.i64 (nth (c.sq.set k v) j))
    by_cases e : j = k
    · subst e
      rw [Array.getElem?_setIfInBounds_self_of_lt hsz]
      simp [nth, List.getD, hk]
    · rw [Array.getElem?_setIfInBounds_ne (by omega), hj j hj2]
      simp [nth, List.getD, Ne.symm e]
theorem toldS_sq (s c : S) (k : Nat) (vs : List Int) : (toldS s c k vs).sq = c.sq := by unfold toldS; split <;> rfl
end Go.Proofs.YtdikhdfpcipdbaaGreatDoor.se

