/- A stream that is cut is read in two parts as in one; a line that is none ahead takes none away: plain. -/
import Derived.Test.YtfobbjimcmjfkaaDoorStWith
namespace Go.Proofs.YtfobbjimcmjfkaaDoor.stm
open Go.Proofs.YtfobbjimcmjfkaaDoor.txt Go.Proofs.YtfobbjimcmjfkaaDoor.frm
set_option linter.unusedVariables false

theorem push_ge (out : List Fr) (r : Option Fr) : out.length ≤ (push out r).length := by
  unfold push
  split
  · exact Nat.le_refl _
  · split
    · simp
    · exact Nat.le_refl _
theorem fold_ge (rd : List UInt8 → Option Fr) : ∀ (t : List UInt8) (st : List UInt8 × List Fr), st.2.length ≤ (t.foldl (stp rd) st).2.length := by
  intro t
  induction t with
  | nil => intro st; exact Nat.le_refl _
  | cons c t ih =>
    intro st
    rw [List.foldl_cons]
    refine Nat.le_trans ?_ (ih _)
    unfold stp
    split
    · exact push_ge _ _
    · exact Nat.le_refl _
/-- What was read ahead stays ahead. -/
theorem fold_split (rd : List UInt8 → Option Fr) (out : List Fr) : ∀ (t acc : List UInt8) (o : List Fr), (t.foldl (stp rd) (acc, out ++ o)).2.length < 50 → (t.foldl (stp rd) (acc, out ++ o)).2 = out ++ (t.foldl (stp rd) (acc, o)).2 := by
  intro t
  induction t with
  | nil => intro acc o _; rfl
  | cons c t ih =>
    intro acc o h
    rw [List.foldl_cons] at h ⊢
    rw [List.foldl_cons]
    by_cases hc : c = 10
    · rw [show stp rd (acc, out ++ o) c = ([], push (out ++ o) (rd (acc ++ [10]))) by rw [stp, if_pos hc]] at h ⊢
      rw [show stp rd (acc, o) c = ([], push o (rd (acc ++ [10]))) by rw [stp, if_pos hc]]
      cases hr : rd (acc ++ [10]) with
      | none => rw [hr] at h; exact ih [] o h
      | some f =>
        rw [hr] at h
        by_cases hl : (out ++ o).length < 50
        · have e1 : push (out ++ o) (some f) = out ++ (o ++ [f]) := by simp only [push]; rw [if_pos hl, List.append_assoc]
          have e2 : push o (some f) = o ++ [f] := by simp only [push]; rw [if_pos (by simp at hl; omega)]
          rw [e1] at h ⊢
          rw [e2]
          exact ih [] (o ++ [f]) h
        · have e1 : push (out ++ o) (some f) = out ++ o := by simp only [push]; rw [if_neg hl]
          rw [e1] at h
          have := fold_ge rd t ([], out ++ o)
          simp only at this
          omega
    · rw [show stp rd (acc, out ++ o) c = (acc ++ [c], out ++ o) by rw [stp, if_neg hc]] at h ⊢
      rw [show stp rd (acc, o) c = (acc ++ [c], o) by rw [stp, if_neg hc]]
      exact ih (acc ++ [c]) o h
theorem fold_noten (rd : List UInt8 → Option Fr) : ∀ (t : List UInt8) (st : List UInt8 × List Fr), (∀ c ∈ st.1, c ≠ 10) → ∀ c ∈ (t.foldl (stp rd) st).1, c ≠ 10 := by
  intro t
  induction t with
  | nil => intro st h; exact h
  | cons c t ih =>
    intro st h
    rw [List.foldl_cons]
    refine ih _ ?_
    unfold stp
    split
    · intro d hd; simp at hd
    · rename_i hc
      intro d hd
      rcases List.mem_append.1 hd with h1 | h1
      · exact h d h1
      · rw [List.mem_singleton.1 h1]; exact hc
theorem run_noten (rd : List UInt8 → Option Fr) (s : List UInt8) : ∀ c ∈ (run rd s).1, c ≠ 10 := fold_noten rd s ([], []) (fun c hc => by simp at hc)
/-- Cut anywhere. -/
theorem cut_read (rd : List UInt8 → Option Fr) (s : List UInt8) (k : Nat) (hs : s.length ≤ 900) (hf : (frsOf rd s).length ≤ 40) : frsOf rd (s.take k) ++ frsOf rd (rstOf rd (s.take k) ++ s.drop k) = frsOf rd s ∨ (60 < k ∧ rstOf rd (s.take k) = []) := by
  have h1 : ¬ 4000 < s.length := by omega
  have h2 : ¬ 4000 < (s.take k).length := by simp; omega
  rw [frsOf, if_neg h1] at hf
  have hacc : (run rd (s.take k)).1.length ≤ k := by
    obtain ⟨pre, e⟩ := run_suffix rd (s.take k)
    have := congrArg List.length e
    simp at this; omega
  by_cases h60 : 60 < (run rd (s.take k)).1.length
  · right
    exact ⟨by omega, by rw [rstOf, if_neg h2, rest, if_pos h60]⟩
  · left
    have e3 : rstOf rd (s.take k) = (run rd (s.take k)).1 := by rw [rstOf, if_neg h2, rest, if_neg h60]
    have h4 : ¬ 4000 < ((run rd (s.take k)).1 ++ s.drop k).length := by simp; omega
    rw [e3, frsOf, if_neg h2, frsOf, if_neg h4, frsOf, if_neg h1, run_app]
    have e5 : run rd (run rd (s.take k)).1 = ((run rd (s.take k)).1, []) := by
      have := fold_none rd (run rd (s.take k)).1 [] [] (run_noten rd (s.take k))
      rw [List.nil_append] at this
      exact this
    have e6 : run rd s = (s.drop k).foldl (stp rd) ((run rd (s.take k)).1, (run rd (s.take k)).2 ++ []) := by
      rw [List.append_nil, ← run_app, List.take_append_drop]
    rw [e5, e6]
    rw [e6] at hf
    exact (fold_split rd _ _ _ _ (by omega)).symm
theorem rd_noise {rd : List UInt8 → Option Fr} (hrd : ∀ s, IsRead s (rd s)) : rd [110, 111, 105, 115, 101, 10] = none := by
  cases hr : rd [110, 111, 105, 115, 101, 10] with
  | none => rfl
  | some f =>
    have := hrd [110, 111, 105, 115, 101, 10]
    rw [hr] at this
    obtain ⟨h1, h2⟩ := this
    rw [showF_cons h1] at h2
    injection h2 with h2 _
    unfold letter at h2
    exfalso
    revert h2
    repeat' split
    all_goals decide
theorem noise_read {rd : List UInt8 → Option Fr} (hrd : ∀ s, IsRead s (rd s)) (s : List UInt8) (hs : s.length ≤ 900) : frsOf rd ([110, 111, 105, 115, 101, 10] ++ s) = frsOf rd s := by
  rw [frsOf, if_neg (by simp; omega), frsOf, if_neg (by omega), run_app]
  have : run rd [110, 111, 105, 115, 101, 10] = ([], []) := by
    have h : run rd [110, 111, 105, 115, 101, 10] = ([], push [] (rd [110, 111, 105, 115, 101, 10])) := rfl
    rw [h, rd_noise hrd]; rfl
  rw [this]; rfl
end Go.Proofs.YtfobbjimcmjfkaaDoor.stm
