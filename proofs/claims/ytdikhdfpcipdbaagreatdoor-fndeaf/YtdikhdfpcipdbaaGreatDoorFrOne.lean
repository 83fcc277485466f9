/- A frame's text of which one byte is another one is no frame's text. -/
import Derived.Test.YtdikhdfpcipdbaaGreatDoorFrMark
namespace Go.Proofs.YtdikhdfpcipdbaaGreatDoor.frm
open Go.Proofs.YtdikhdfpcipdbaaGreatDoor.txt
set_option linter.unusedVariables false

/-- The bytes that may stand ahead of the star. -/
def Plain (c : UInt8) : Prop := c ≠ 42 ∧ c.toNat < 100
theorem plain_itoa (n : Int) : ∀ c ∈ Lib.itoa n, Plain c := by
  intro c hc
  rcases itoa_chars n c hc with h | h
  · have := (isD_iff c).1 h
    exact ⟨fun e => by rw [e] at this; simp at this, by omega⟩
  · rw [h]; exact ⟨by decide, by decide⟩
theorem plain_blanks (ns : List Int) : ∀ c ∈ blanks ns, Plain c := by
  induction ns with
  | nil => intro c hc; simp [blanks] at hc
  | cons n ns ih =>
    intro c hc
    rw [blanks_cons] at hc
    rcases List.mem_cons.1 hc with h | h
    · rw [h]; exact ⟨by decide, by decide⟩
    · rcases List.mem_append.1 h with h | h
      · exact plain_itoa n c h
      · exact ih c h
theorem plain_letter (k : Int) : Plain (letter k) := by
  unfold letter
  repeat' split
  all_goals exact ⟨by decide, by decide⟩
theorem plain_ahead (k sq : Int) (vs : List Int) : ∀ c ∈ aheadF k sq vs, Plain c := by
  intro c hc
  rcases List.mem_cons.1 hc with h | h
  · rw [h]; exact plain_letter k
  · rcases List.mem_append.1 h with h | h
    · exact plain_blanks _ c h
    · rw [List.mem_singleton.1 h]; exact ⟨by decide, by decide⟩
theorem star_once {a a' t t' : List UInt8} (h : ∀ c ∈ a, c ≠ 42) (h' : ∀ c ∈ a', c ≠ 42) (e : a ++ 42 :: t = a' ++ 42 :: t') : a = a' ∧ t = t' := by
  induction a generalizing a' with
  | nil =>
    cases a' with
    | nil => simpa using e
    | cons x a' =>
      simp only [List.nil_append, List.cons_append, List.cons.injEq] at e
      exact absurd e.1.symm (h' x (by simp))
  | cons x a ih =>
    cases a' with
    | nil =>
      simp only [List.nil_append, List.cons_append, List.cons.injEq] at e
      exact absurd e.1 (h x (by simp))
    | cons y a' =>
      simp only [List.cons_append, List.cons.injEq] at e
      obtain ⟨rfl, e⟩ := e
      obtain ⟨rfl, rfl⟩ := ih (fun c hc => h c (by simp [hc])) (fun c hc => h' c (by simp [hc])) e
      exact ⟨rfl, rfl⟩
theorem wsum_mid (xs : List UInt8) (c : UInt8) (ys : List UInt8) : ∀ j, wsum j (xs ++ c :: ys) = wsum j xs + (j + xs.length + 1) * c.toNat + wsum (j + xs.length + 1) ys := by
  induction xs with
  | nil => intro j; simp [wsum]
  | cons x xs ih =>
    intro j
    simp only [List.cons_append, wsum, ih, List.length_cons]
    rw [show j + 1 + xs.length + 1 = j + (xs.length + 1) + 1 by omega]
    omega
theorem mod_prime : ∀ p : Fin 101, ∀ d : Fin 100, 0 < p.val → 0 < d.val → p.val * d.val % 251 ≠ 0 := by decide +kernel
theorem sum_one {x y p a c : Nat} (hp : 0 < p) (hp2 : p ≤ 100) (ha : a < 100) (hc : c < 100) (h : (x + p * a + y) % 251 = (x + p * c + y) % 251) : a = c := by
  by_cases h1 : a < c
  · have e : p * c = p * a + p * (c - a) := by rw [← Nat.mul_add]; congr 1; omega
    have h2 := mod_prime ⟨p, by omega⟩ ⟨c - a, by omega⟩ hp (by simp; omega)
    simp only at h2
    omega
  · by_cases h3 : c < a
    · have e : p * a = p * c + p * (a - c) := by rw [← Nat.mul_add]; congr 1; omega
      have h2 := mod_prime ⟨p, by omega⟩ ⟨a - c, by omega⟩ hp (by simp; omega)
      simp only at h2
      omega
    · omega
theorem itoa_inj {m n : Int} (h : Lib.itoa m ++ [10] = Lib.itoa n ++ [10]) (m1 : -1000000000 < m) (m2 : m < 1000000000) (n1 : -1000000000 < n) (n2 : n < 1000000000) : m = n := by
  have e1 := numF_itoa m [10] (by simp [Stops, isD]) m1 m2
  have e2 := numF_itoa n [10] (by simp [Stops, isD]) n1 n2
  rw [h, e2] at e1
  simp at e1
  exact e1.symm
theorem sumL_small (a : List UInt8) : -1000000000 < sumL a ∧ sumL a < 1000000000 := by
  have h1 := sumL_ge a
  have h2 := sumL_le a
  omega
theorem behind_plain (a : List UInt8) : ∀ c ∈ Lib.itoa (sumL a) ++ [10], c ≠ 42 := by
  intro c hc
  rcases List.mem_append.1 hc with h | h
  · exact (plain_itoa _ c h).1
  · rw [List.mem_singleton.1 h]; decide

theorem one_byte {k sq : Int} {vs : List Int} (ho : okF k sq vs = true) {i : Nat} (hi : i < (showF k sq vs).length) {c : UInt8} (hc : byt (showF k sq vs) i ≠ c) :
    IsRead ((showF k sq vs).take i ++ c :: (showF k sq vs).drop (i + 1)) none := by
  intro k' sq' vs' ho' e
  have hA := plain_ahead k sq vs
  have hA' := plain_ahead k' sq' vs'
  have hl := aheadF_len ho
  rw [showF_ok ho'] at e
  rw [showF_ok ho] at e hi hc
  unfold behind at e hi hc
  have hT := behind_plain (aheadF k sq vs)
  have hT' := behind_plain (aheadF k' sq' vs')
  have hS := itoa_inj (m := sumL (aheadF k sq vs)) (n := sumL (aheadF k' sq' vs'))
  have b1 := sumL_small (aheadF k sq vs)
  have b2 := sumL_small (aheadF k' sq' vs')
  generalize hAA : aheadF k sq vs = A at *
  generalize hAA' : aheadF k' sq' vs' = A' at *
  by_cases h1 : i < A.length
  · have e1 : (A ++ 42 :: (Lib.itoa (sumL A) ++ [10])).take i = A.take i := List.take_append_of_le_length (by omega)
    have e2 : (A ++ 42 :: (Lib.itoa (sumL A) ++ [10])).drop (i + 1) = A.drop (i + 1) ++ 42 :: (Lib.itoa (sumL A) ++ [10]) := List.drop_append_of_le_length (by omega)
    rw [e1, e2] at e
    have hbt : byt (A ++ 42 :: (Lib.itoa (sumL A) ++ [10])) i = A[i] := by rw [byt, List.getD, List.getElem?_append_left h1, List.getElem?_eq_getElem h1]; rfl
    rw [hbt] at hc
    have hAi : A = A.take i ++ A[i] :: A.drop (i + 1) := by rw [← List.drop_eq_getElem_cons h1, List.take_append_drop]
    by_cases h42 : c = 42
    · subst h42
      obtain ⟨_, e4⟩ := star_once (fun x hx => (hA' x hx).1) (fun x hx => (hA x (List.mem_of_mem_take hx)).1) e
      exact hT' 42 (by rw [e4]; simp) rfl
    · rw [show A.take i ++ c :: (A.drop (i + 1) ++ 42 :: (Lib.itoa (sumL A) ++ [10])) = (A.take i ++ c :: A.drop (i + 1)) ++ 42 :: (Lib.itoa (sumL A) ++ [10]) by simp] at e
      have hm : ∀ x ∈ A.take i ++ c :: A.drop (i + 1), x ≠ 42 := by
        intro x hx
        rcases List.mem_append.1 hx with hx | hx
        · exact (hA x (List.mem_of_mem_take hx)).1
        · rcases List.mem_cons.1 hx with hx | hx
          · rw [hx]; exact h42
          · exact (hA x (List.mem_of_mem_drop hx)).1
      obtain ⟨e3, e4⟩ := star_once (fun x hx => (hA' x hx).1) hm e
      have hs := hS e4.symm b1.1 b1.2 b2.1 b2.2
      have hcp : c.toNat < 100 := (hA' c (by rw [e3]; simp)).2
      have hap : (A[i]).toNat < 100 := (hA _ (List.getElem_mem h1)).2
      have hlen : (A.take i).length = i := by simp; omega
      have hl' : A'.length = A.length := by rw [e3]; simp; omega
      rw [sumL, sumL, if_neg (by omega), if_neg (by omega)] at hs
      have hs2 : wsum 0 A % 251 = wsum 0 A' % 251 := by omega
      rw [e3] at hs2
      rw [hAi] at hs2
      have hre : A.take i ++ A[i] :: A.drop (i + 1) = A := hAi.symm
      simp only [hre] at hs2
      have w1 := wsum_mid (A.take i) A[i] (A.drop (i + 1)) 0
      have w2 := wsum_mid (A.take i) c (A.drop (i + 1)) 0
      rw [← hAi] at w1
      rw [w1, w2, hlen] at hs2
      simp only [Nat.zero_add] at hs2
      have := sum_one (x := wsum 0 (A.take i)) (y := wsum (i + 1) (A.drop (i + 1))) (p := i + 1) (by omega) (by omega) hap hcp hs2
      exact hc (UInt8.toNat.inj this)
  · by_cases h2 : i = A.length
    · subst h2
      have e1 : (A ++ 42 :: (Lib.itoa (sumL A) ++ [10])).take A.length = A := by simp
      have e2 : (A ++ 42 :: (Lib.itoa (sumL A) ++ [10])).drop (A.length + 1) = Lib.itoa (sumL A) ++ [10] := by simp
      have hbt : byt (A ++ 42 :: (Lib.itoa (sumL A) ++ [10])) A.length = 42 := by simp [byt, List.getD]
      rw [hbt] at hc
      rw [e1, e2] at e
      have : (42 : UInt8) ∈ A ++ c :: (Lib.itoa (sumL A) ++ [10]) := by rw [← e]; simp
      rcases List.mem_append.1 this with h | h
      · exact (hA 42 h).1 rfl
      · rcases List.mem_cons.1 h with h | h
        · exact hc h
        · exact hT 42 h rfl
    · have e1 : (A ++ 42 :: (Lib.itoa (sumL A) ++ [10])).take i = A ++ 42 :: (Lib.itoa (sumL A) ++ [10]).take (i - A.length - 1) := by
        rw [List.take_append]
        rw [List.take_of_length_le (by omega)]
        congr 1
        rw [show i - A.length = (i - A.length - 1) + 1 by omega, List.take_succ_cons]
        simp
      rw [e1, List.append_assoc, List.cons_append] at e
      obtain ⟨e3, e4⟩ := star_once (fun x hx => (hA' x hx).1) (fun x hx => (hA x hx).1) e
      subst e3
      rw [← e4] at e
      have hfull : (A' ++ 42 :: (Lib.itoa (sumL A') ++ [10])).take i ++ c :: (A' ++ 42 :: (Lib.itoa (sumL A') ++ [10])).drop (i + 1) = A' ++ 42 :: (Lib.itoa (sumL A') ++ [10]) := by
        rw [e1, List.append_assoc, List.cons_append, ← e4]
      have h5 : byt ((A' ++ 42 :: (Lib.itoa (sumL A') ++ [10])).take i ++ c :: (A' ++ 42 :: (Lib.itoa (sumL A') ++ [10])).drop (i + 1)) i = c := by
        have hl3 : ((A' ++ 42 :: (Lib.itoa (sumL A') ++ [10])).take i).length = i := by simp; simp at hi; omega
        rw [byt, List.getD, List.getElem?_append_right (by omega), hl3]
        simp
      rw [hfull] at h5
      exact hc h5
end Go.Proofs.YtdikhdfpcipdbaaGreatDoor.frm
