/- Chapter 15 on plain senses: the facts are right; who has heard nothing for four ticks votes nothing. Two values of facts compared. -/
import Derived.Test.YtdikhdfpcipdbaaGreatDoorSeLaw
import Derived.Test.YtdikhdfpcipdbaaGreatDoorSeFacts
import Derived.Test.YtdikhdfpcipdbaaGreatDoorSeNew
import Derived.Test.YtdikhdfpcipdbaaGreatDoorRdEq
namespace Go.Proofs.YtdikhdfpcipdbaaGreatDoor.se
open Go.ChangeShapes Go.WideShapes Go.ChangeAt Go.RowKit
open Go.Proofs.YtdikhdfpcipdbaaGreatDoor.nums Go.Proofs.YtdikhdfpcipdbaaGreatDoor.mem
open Go.Proofs.YtdikhdfpcipdbaaGreatDoor.rd (R okR ageR zR rx ra ro okR_iff partI partB eqI eqB)
open Go.Proofs.YtdikhdfpcipdbaaGreatDoor.md (Fx cs8 fac eight free8 factsOk)
open Go.Proofs.YtdikhdfpcipdbaaGreatDoor.il (nth)
set_option linter.unusedVariables false

theorem half_in {a b : Int} (ha : -1000000 ≤ a ∧ a ≤ 1000000) (hb : -1000000 ≤ b ∧ b ≤ 1000000) : -1000000 ≤ (a + b).tdiv 2 ∧ (a + b).tdiv 2 ≤ 1000000 := by
  rcases Int.le_total 0 (a + b) with h | h
  · rw [Int.tdiv_eq_ediv_of_nonneg h]; omega
  · have e : (a + b).tdiv 2 = -((-(a + b)).tdiv 2) := by rw [Int.neg_tdiv, Int.neg_neg]
    rw [e, Int.tdiv_eq_ediv_of_nonneg (by omega)]; omega
theorem v3_in {l : List Int} (h : ∀ v ∈ l, -1000000 ≤ v ∧ v ≤ 1000000) : -1000000 ≤ (vt.v3 l).1 ∧ (vt.v3 l).1 ≤ 1000000 := by
  match l, h with
  | [], _ => exact ⟨by decide, by decide⟩
  | [a], h => exact h a (by simp)
  | [a, b], h => exact half_in (h a (by simp)) (h b (by simp))
  | [a, b, c], h =>
    have h1 := h a (by simp)
    have h2 := h b (by simp)
    have h3 := h c (by simp)
    show -1000000 ≤ vt.mid a b c ∧ vt.mid a b c ≤ 1000000
    unfold vt.mid; omega
  | _ :: _ :: _ :: _ :: _, _ => exact ⟨show (-1000000 : Int) ≤ 0 by decide, show (0 : Int) ≤ 1000000 by decide⟩
theorem v2_in {ap : Int} {l : List Int} (h : ∀ v ∈ l, -1000000 ≤ v ∧ v ≤ 1000000) : -1000000 ≤ (vt.v2 ap l).1 ∧ (vt.v2 ap l).1 ≤ 1000000 := by
  match l, h with
  | [], _ => exact ⟨show (-1000000 : Int) ≤ 0 by decide, show (0 : Int) ≤ 1000000 by decide⟩
  | [a], h => exact h a (by simp)
  | [a, b], h =>
    have h1 := h a (by simp)
    have h2 := h b (by simp)
    show -1000000 ≤ min a b ∧ min a b ≤ 1000000
    omega
  | _ :: _ :: _ :: _, _ => exact ⟨show (-1000000 : Int) ≤ 0 by decide, show (0 : Int) ≤ 1000000 by decide⟩
theorem three_in (l : List R) (m : Int) : -1000000 ≤ (vt.voteThree l m).1 ∧ (vt.voteThree l m).1 ≤ 1000000 := v3_in (fun v h => vt.voters_in h)
theorem two_in (l : List R) (m ap : Int) : -1000000 ≤ (vt.voteTwo l m ap).1 ∧ (vt.voteTwo l m ap).1 ≤ 1000000 := by
  unfold vt.voteTwo
  split
  · exact v2_in (fun v h => vt.voters_in h)
  · exact ⟨show (-1000000 : Int) ≤ 0 by decide, show (0 : Int) ≤ 1000000 by decide⟩
/-- Whatever the senses, the facts are right. -/
theorem facts_ok (s : S) (c t : Int) : factsOk (factsOf s c t) = true := by
  cases h : (ok s && cas.caseOk c)
  · rw [factsOf_no t h]; decide
  · rw [factsOf_yes t h]
    simp only [Bool.and_eq_true] at h
    have h1 := three_in s.sp 3
    have h2 := two_in s.he 3 10
    have h3 := (ok_iff.1 h.1).wn
    have h4 : 0 ≤ btw t 0 1000 ∧ btw t 0 1000 ≤ 1000 := by unfold btw; omega
    unfold factsOk
    simp only [Bool.and_eq_true]
    exact ⟨inb_iff.2 h1, inb_iff.2 h2, h.2, h3, inb_iff.2 h4⟩
theorem ok_aged {s : S} (h : ok s = true) : ok (agedS s) = true := fed_nil h ▸ ok_fed (fs := []) h
theorem bd_ok {s : S} (h : ok s = true) : Bd s 1048576 := by
  have o := ok_iff.1 h
  exact ⟨by rw [o.sp3]; omega, by rw [o.he2]; omega, by rw [o.fa6]; omega, by rw [o.sq4]; omega⟩
theorem Bd.up {s : S} {m n : Nat} (h : Bd s m) (hm : m ≤ n) : Bd s n := ⟨Nat.le_trans h.sp hm, Nat.le_trans h.he hm, Nat.le_trans h.fa hm, Nat.le_trans h.sq hm⟩
theorem bd_z : Bd zS 1048576 := ⟨by simp [zS], by simp [zS], by simp [zS], by simp [zS]⟩
theorem ok_new : ok newS = true := by decide
theorem ok_z : ok zS = false := by decide
/-- Heard of nothing k times. -/
def deafS (s : S) : Nat → S
  | 0 => s
  | k + 1 => agedS (deafS s k)
theorem ok_deaf {s : S} (h : ok s = true) : ∀ k, ok (deafS s k) = true
  | 0 => h
  | k + 1 => ok_aged (ok_deaf h k)
theorem old_deaf {s : S} (h : ok s = true) : ∀ k : Nat, k ≤ 20 → Old k (deafS s k).sp ∧ Old k (deafS s k).he
  | 0, _ => ⟨Old.zero (ok_iff.1 h).sp, Old.zero (ok_iff.1 h).he⟩
  | k + 1, hk => by
    obtain ⟨h1, h2⟩ := old_deaf h k (by omega)
    have e : ((k + 1 : Nat) : Int) = (k : Int) + 1 := by omega
    rw [e]
    exact ⟨h1.age (by omega), h2.age (by omega)⟩
theorem old_le {n m : Int} {l : List R} (h : Old n l) (hm : m ≤ n) : Old m l := fun r hr => Int.le_trans hm (h r hr)
/-- The facts of one who is deaf. -/
theorem facts_deaf {s : S} (h : ok s = true) {k : Nat} (h4 : 4 ≤ k) (hk : k ≤ 20) : factsOf (deafS s k) 0 0 = ⟨0, false, 0, false, 0, (deafS s k).ar, (deafS s k).wn, 0⟩ := by
  obtain ⟨h1, h2⟩ := old_deaf h k hk
  have e : (ok (deafS s k) && cas.caseOk 0) = true := by rw [ok_deaf h k]; decide
  rw [factsOf_yes 0 e, (old_le h1 (show (4 : Int) ≤ k by omega)).three, (old_le h2 (show (4 : Int) ≤ k by omega)).two]
  rfl

/-! ### facts compared -/
theorem fieldsF : ∃ fs : List Field, Tryz.prog.underlying 35 = some (.struct fs.toArray) ∧ fs.map (fun f => (f.name, f.type, f.offset)) = [("Speed", 2, 0), ("SpeedOk", 4, 1), ("Height", 2, 2), ("HeightOk", 4, 3), ("Case", 2, 4), ("Armed", 4, 5), ("Want", 2, 6), ("Timer", 2, 7)] :=
  ⟨_, Tryz.underlying35, rfl⟩
theorem equalF (w : World) (d : Nat) (f : Fx) : (Op.equalIn (d + 2) 35 (fac f) (fac f)).run Tryz.prog w = .ok true w := by
  obtain ⟨fs, hu, hf⟩ := fieldsF
  have hp : Tryz.prog.stoodInHeld 35 = false := by kernel_rfl
  unfold Op.equalIn
  simp only [Sem.run_bind, run_underlying hu, Result.andThen_ok, run_program, hp, Bool.false_eq_true, if_false]
  rw [← Array.forIn_toList]
  match fs, hf with
  | f0 :: f1 :: f2 :: f3 :: f4 :: f5 :: f6 :: f7 :: fs, hf =>
    simp only [List.map_cons, List.cons.injEq, Prod.mk.injEq, List.map_eq_nil_iff] at hf
    obtain ⟨⟨n0, t0, o0⟩, ⟨n1, t1, o1⟩, ⟨n2, t2, o2⟩, ⟨n3, t3, o3⟩, ⟨n4, t4, o4⟩, ⟨n5, t5, o5⟩, ⟨n6, t6, o6⟩, ⟨n7, t7, o7⟩, rfl⟩ := hf
    simp [n0, n1, n2, n3, n4, n5, n6, n7, t0, t1, t2, t3, t4, t5, t6, t7, o0, o1, o2, o3, o4, o5, o6, o7, partI, partB, eqI, eqB]
  | [], hf => simp at hf
  | [_], hf => simp at hf
  | [_, _], hf => simp at hf
  | [_, _, _], hf => simp at hf
  | [_, _, _, _], hf => simp at hf
  | [_, _, _, _, _], hf => simp at hf
  | [_, _, _, _, _, _], hf => simp at hf
  | [_, _, _, _, _, _, _], hf => simp at hf
theorem neqF_same (w : World) (f : Fx) : (binOp .neq 35 (fac f) (fac f)).run Tryz.prog w = .ok (.bool false) w := by
  simp only [binOp]
  simp [Op.equal, Op.maxDepth, equalF w 9998]
theorem guardF (w : World) (op : BinOp) (x y : Operand) (xs ys : Array Value) : (eqGuard op 35 x y (.agg xs) (.agg ys)).run Tryz.prog w = .ok () w := by
  have hm : Tryz.prog.eqGuardType Tryz.prog.depth 35 = false := by kernel_rfl
  cases op <;> simp [eqGuard, run_program, hm]
end Go.Proofs.YtdikhdfpcipdbaaGreatDoor.se
