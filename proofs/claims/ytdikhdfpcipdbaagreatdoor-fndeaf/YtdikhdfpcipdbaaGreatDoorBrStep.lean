/- Chapter 16 on plain brains: what one tick makes stays right. -/
import Derived.Test.YtdikhdfpcipdbaaGreatDoorBrOuts
import Derived.Test.YtdikhdfpcipdbaaGreatDoorSeLaw
import Derived.Test.YtdikhdfpcipdbaaGreatDoorFaOut
import Derived.Test.YtdikhdfpcipdbaaGreatDoorSeFacts
import Derived.Test.YtdikhdfpcipdbaaGreatDoorMdSpec
import Derived.Test.YtdikhdfpcipdbaaGreatDoorGt3
import Derived.Test.YtdikhdfpcipdbaaGreatDoorBlSlewS
import Derived.Test.YtdikhdfpcipdbaaGreatDoorStRun
namespace Go.Proofs.YtdikhdfpcipdbaaGreatDoor.br
open Go.Proofs.YtdikhdfpcipdbaaGreatDoor.nums
open Go.Proofs.YtdikhdfpcipdbaaGreatDoor.rd (R okR)
open Go.Proofs.YtdikhdfpcipdbaaGreatDoor.fan (F okF)
open Go.Proofs.YtdikhdfpcipdbaaGreatDoor.gt (G)
open Go.Proofs.YtdikhdfpcipdbaaGreatDoor.md (Fx factsOk modeOk inAir)
open Go.Proofs.YtdikhdfpcipdbaaGreatDoor.il (nth nth_lt)
open Go.Proofs.YtdikhdfpcipdbaaGreatDoor.sh (on turn pt pt_le top_in turn_in cutL has shared shared6 okD)
set_option linter.unusedVariables false

theorem watched_ok (f : F) (wn : Int) (r : R) : okF (fan.watched f wn r) = true := by
  cases h : fan.right f wn r
  · rw [fan.watched_no h]; rfl
  · obtain ⟨h0, _, _⟩ := fan.right_iff.1 h
    obtain ⟨N, o, t⟩ := f
    by_cases hw : 100 ≤ wn
    · rw [fan.watched_hi h hw]
      have := fan.felt_rng (on := o) (out := t) (fan.lowB wn r) h0.1 h0.2
      show inb (fan.felt (N, o, t) (fan.lowB wn r)).1 0 100 = true
      unfold inb; simp; omega
    · rw [fan.watched_low h (by omega)]
      show inb N 0 100 = true
      unfold inb; simp; omega
theorem outIn_mem {l : List F} {n : Int} (h : n ∈ fan.outIn l) : 0 ≤ n ∧ n ≤ 5 := by
  unfold fan.outIn at h
  split at h
  · rename_i h6
    unfold fan.outs at h
    obtain ⟨j, hj, rfl⟩ := List.mem_map.1 h
    have hj := List.mem_range.1 (List.mem_filter.1 hj).1
    have := h6.1
    omega
  · cases h
theorem caseOk_of (l : List Int) : cas.caseOk (cas.caseOf l) = true := by
  unfold cas.caseOf
  split
  · decide
  · split
    · rename_i h; unfold cas.caseOk inb; simp; omega
    · decide
theorem half_in {x : Int} (h0 : -2000000 ≤ x) (h1 : x ≤ 2000000) : -1000000 ≤ x.tdiv 2 ∧ x.tdiv 2 ≤ 1000000 := by
  by_cases h : 0 ≤ x
  · rw [Int.tdiv_eq_ediv_of_nonneg h]; omega
  · have e : x.tdiv 2 = -((-x).tdiv 2) := by rw [Int.neg_tdiv]; simp
    rw [e, Int.tdiv_eq_ediv_of_nonneg (by omega)]; omega
theorem vote3_in (l : List R) (m : Int) : -1000000 ≤ (vt.voteThree l m).1 ∧ (vt.voteThree l m).1 ≤ 1000000 := by
  have hl := vt.voters_length l 3 m
  have hin : ∀ v, v ∈ vt.voters l 3 m → -1000000 ≤ v ∧ v ≤ 1000000 := fun v h => vt.voters_in h
  unfold vt.voteThree
  generalize vt.voters l 3 m = v at *
  rcases vt.upto3 hl with rfl | ⟨a, rfl⟩ | ⟨a, b, rfl⟩ | ⟨a, b, c, rfl⟩
  · exact ⟨by decide, by decide⟩
  · exact hin a (by simp)
  · have h1 := hin a (by simp)
    have h2 := hin b (by simp)
    exact half_in (x := a + b) (by omega) (by omega)
  · have h1 := hin a (by simp)
    have h2 := hin b (by simp)
    have h3 := hin c (by simp)
    show -1000000 ≤ vt.mid a b c ∧ vt.mid a b c ≤ 1000000
    unfold vt.mid; omega
theorem vote2_in (l : List R) (m ap : Int) : -1000000 ≤ (vt.voteTwo l m ap).1 ∧ (vt.voteTwo l m ap).1 ≤ 1000000 := by
  have hl := vt.voters_length l 2 m
  have hin : ∀ v, v ∈ vt.voters l 2 m → -1000000 ≤ v ∧ v ≤ 1000000 := fun v h => vt.voters_in h
  unfold vt.voteTwo
  split
  · generalize vt.voters l 2 m = v at *
    rcases vt.upto3 (Nat.le_trans hl (by omega)) with rfl | ⟨a, rfl⟩ | ⟨a, b, rfl⟩ | ⟨a, b, c, rfl⟩
    · exact ⟨(by decide : (-1000000 : Int) ≤ 0), (by decide : (0 : Int) ≤ 1000000)⟩
    · exact hin a (by simp)
    · have h1 := hin a (by simp)
      have h2 := hin b (by simp)
      show -1000000 ≤ min a b ∧ min a b ≤ 1000000
      omega
    · simp at hl
  · exact ⟨(by decide : (-1000000 : Int) ≤ 0), (by decide : (0 : Int) ≤ 1000000)⟩
theorem factsOk_of (s : se.S) (c t : Int) : factsOk (se.factsOf s c t) = true := by
  cases h : se.ok s && cas.caseOk c
  · rw [se.factsOf_no t h]; decide
  · rw [se.factsOf_yes t h]
    simp only [Bool.and_eq_true] at h
    have w := (se.ok_iff.1 h.1).wn
    have h1 := vote3_in s.sp 3
    have h2 := vote2_in s.he 3 10
    have h3 : 0 ≤ btw t 0 1000 ∧ btw t 0 1000 ≤ 1000 := by unfold btw; omega
    unfold factsOk
    simp only [Bool.and_eq_true]
    refine ⟨?_, ?_, h.2, w, ?_⟩ <;> (unfold inb; simp; omega)
theorem modeOk_nx {m : Int} (f : Fx) (h : modeOk m = true) : modeOk (md.nx m f) = true := by
  rcases md.six h with rfl | rfl | rfl | rfl | rfl | rfl
  · rfl
  · show modeOk (if md.landed f = true then 0 else if md.setOut f = true then 2 else 1) = true
    cases md.landed f <;> cases md.setOut f <;> rfl
  · show modeOk (if md.giveUp f = true then 4 else if md.fast f = true then 3 else 2) = true
    cases md.giveUp f <;> cases md.fast f <;> rfl
  · show modeOk (if md.turnBack f = true then 4 else 3) = true
    cases md.turnBack f <;> rfl
  · show modeOk (if md.back f = true then 1 else 4) = true
    cases md.back f <;> rfl
  · rfl
theorem modeOk_next (m : Int) (f : Fx) : modeOk (md.nextMode m f) = true := by
  cases h : modeOk m && factsOk f
  · rw [md.next_no h]; rfl
  · simp only [Bool.and_eq_true] at h
    rw [md.next_yes h.1 h.2, md.next_is f h.1]
    split
    · rfl
    · split
      · rfl
      · exact modeOk_nx f h.1
theorem gated_in {g : G} (ch st : Bool) (f : Fx) (h : inb g.1 0 100 = true) : inb (gt.gated g ch st f).1 0 100 = true := by
  have h' : 0 ≤ g.1 ∧ g.1 ≤ 100 := by unfold inb at h; simpa using h
  unfold gt.gated
  split
  · unfold gt.ticked
    split
    · exact h
    · split
      · rfl
      · show inb (min (g.1 + 1) 100) 0 100 = true
        unfold inb; simp; omega
  · rfl
theorem has_in {c l r p : Int} (hr : -100 ≤ r ∧ r ≤ 100) (hp : -100 ≤ p ∧ p ≤ 100) {k : Nat} (hk : k < 6) : 0 ≤ has c (cutL (on c) l r p) r p k ∧ has c (cutL (on c) l r p) r p k ≤ 1000 := by
  have ht := top_in (S := on c) (t := turn r p) (B := 400) (by omega) (fun k hk => turn_in hr hp hk)
  have h1 := pt_le (S := on c) (t := turn r p) hk
  unfold has
  split
  · rename_i ho
    unfold pt at h1
    rw [if_pos ho] at h1
    unfold cutL btw; omega
  · omega
theorem okO_of {n : Int} (h : 0 ≤ n ∧ n ≤ 1000) : bl.okO n = true := by unfold bl.okO inb; simp; omega
theorem shared_okO {c l r p : Int} (h : (cas.caseOk c && okD l r p) = true) : (shared c l r p).all bl.okO = true := by
  refine bl.all_of fun j hj => ?_
  rw [shared_len h] at hj
  have hb : ∀ x : Int, -100 ≤ btw x (-100) 100 ∧ btw x (-100) 100 ≤ 100 := fun x => by unfold btw; omega
  rw [sh.shared_yes h]
  unfold shared6
  rw [sh.map6 hj]
  exact okO_of (has_in (hb r) (hb p) hj)
/-- Seven right numbers. -/
def Seven (l : List Int) : Prop := l.length = 7 ∧ l.all bl.okO = true
theorem seven_zero : Seven (List.replicate 7 0) := ⟨rfl, by decide⟩
theorem seven_outs (m : Int) {f : Fx} (hf : factsOk f = true) : Seven (outsOf m f) := by
  unfold outsOf
  split
  · obtain ⟨_, _, hc, _, _⟩ := facts_in hf
    have h : (cas.caseOk f.c && okD (outL f) 0 0) = true := by rw [hc, okD_of (outL_in f)]; rfl
    refine ⟨by rw [List.length_append, shared_len h]; rfl, ?_⟩
    rw [List.all_append, shared_okO h, Bool.true_and]
    simp only [List.all_cons, List.all_nil, Bool.and_true]
    split
    · exact okO_of (bl.push_in m f.sp)
    · exact okO_of (by omega)
  · exact seven_zero
theorem seven_slew {x y : List Int} (hx : Seven x) (hy : Seven y) : Seven (bl.slew x y 100) := by
  have h : bl.okAB x y = true := by unfold bl.okAB bl.okA; rw [hx.1, hy.1, hx.2, hy.2]; rfl
  rw [bl.slew_yes h]
  refine ⟨by rw [bl.to_len]; exact hx.1, bl.all_of fun j hj => ?_⟩
  rw [bl.to_len] at hj
  rw [bl.to_at hj]
  refine okO_of ?_
  unfold bl.one
  split
  · omega
  · exact bl.toward_in (bl.ok_bd (bl.all_at hx.2 hj)) (bl.ok_bd (bl.all_at hy.2 (by rw [hy.1, ← hx.1]; exact hj)))
theorem rst_len (rd : List UInt8 → Option stm.Fr) (s : List UInt8) : (stm.rstOf rd s).length ≤ 60 := by
  unfold stm.rstOf stm.rest
  split
  · simp
  · split
    · simp
    · omega
theorem frs_short {rd : List UInt8 → Option stm.Fr} (hrd : ∀ s, txt.IsRead s (rd s)) (s : List UInt8) : (stm.frsOf rd s).length ≤ 50 ∧ ∀ k, k < (stm.frsOf rd s).length → (stm.fv (stm.frsOf rd s) k).length ≤ 6 := by
  unfold stm.frsOf
  split
  · exact ⟨by simp, fun k hk => by simp at hk⟩
  · exact ⟨stm.run_len rd s, stm.allOk_short (stm.run_ok hrd s)⟩
end Go.Proofs.YtdikhdfpcipdbaaGreatDoor.br
