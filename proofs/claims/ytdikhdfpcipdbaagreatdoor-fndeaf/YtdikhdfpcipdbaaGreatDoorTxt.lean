/- Plain texts of chapter 4: digits, numbers, frames and their sums, as lists of bytes. Nothing here names the program. -/
import Derived.Lib.ItoaNum
import Derived.Lib.Join
namespace Go.Proofs.YtdikhdfpcipdbaaGreatDoor.txt
open Go

/-- What stands at a place of a list; 0 behind its end. -/
def nth (l : List Int) (k : Nat) : Int := l.getD k 0
def byt (l : List UInt8) (k : Nat) : UInt8 := l.getD k 0
theorem nth_lt {l : List Int} {k : Nat} (h : k < l.length) : nth l k = l[k] := by simp [nth, List.getD, h]
theorem nth_mem {l : List Int} {k : Nat} (h : k < l.length) : nth l k ∈ l := by rw [nth_lt h]; exact List.getElem_mem _
theorem nth_take {l : List Int} {k : Nat} (h : k < l.length) : l.take (k + 1) = l.take k ++ [nth l k] := by rw [List.take_add_one, nth_lt h]; simp [h]
theorem nth_snoc (l : List Int) (v : Int) (k : Nat) : nth (l ++ [v]) k = if k < l.length then nth l k else if k = l.length then v else 0 := by
  unfold nth
  by_cases h : k < l.length
  · simp [List.getD, List.getElem?_append_left h, h]
  · by_cases h2 : k = l.length
    · subst h2; simp [List.getD]
    · rw [if_neg h, if_neg h2, List.getD, List.getElem?_eq_none (by simp; omega)]; rfl
def isD (c : UInt8) : Bool := decide (48 ≤ c.toNat) && decide (c.toNat ≤ 57)
def val (ds : List UInt8) : Nat := ds.foldl (fun n c => n * 10 + (c.toNat - 48)) 0
theorem val_snoc (ds : List UInt8) (c : UInt8) : val (ds ++ [c]) = val ds * 10 + (c.toNat - 48) := by simp [val, List.foldl_append]

theorem digit_nat (d : Nat) (h : d < 10) : (UInt8.ofNat (48 + d)).toNat = 48 + d := by
  rw [UInt8.toNat_ofNat']; omega
theorem isD_digit (d : Nat) (h : d < 10) : isD (UInt8.ofNat (48 + d)) = true := by
  simp only [isD, digit_nat d h]; simp; omega

theorem dec_small {u : Nat} (h : u < 10) : Lib.decDigits u = [UInt8.ofNat (48 + u)] := by rw [Lib.decDigits, dif_pos h]
theorem dec_big {u : Nat} (h : ¬ u < 10) : Lib.decDigits u = Lib.decDigits (u / 10) ++ [UInt8.ofNat (48 + u % 10)] := by rw [Lib.decDigits, dif_neg h]

theorem dec_isD (u : Nat) : ∀ c ∈ Lib.decDigits u, isD c = true := by
  induction u using Nat.strongRecOn with
  | _ u ih =>
    by_cases h : u < 10
    · rw [dec_small h]; intro c hc; rw [List.mem_singleton.1 hc]; exact isD_digit u h
    · rw [dec_big h]; intro c hc
      rcases List.mem_append.1 hc with hc | hc
      · exact ih _ (by omega) c hc
      · rw [List.mem_singleton.1 hc]; exact isD_digit _ (Nat.mod_lt _ (by decide))
theorem dec_val (u : Nat) : val (Lib.decDigits u) = u := by
  induction u using Nat.strongRecOn with
  | _ u ih =>
    by_cases h : u < 10
    · rw [dec_small h]; simp only [val, List.foldl_cons, List.foldl_nil, digit_nat u h]; omega
    · rw [dec_big h, val_snoc, ih _ (by omega), digit_nat _ (Nat.mod_lt _ (by decide))]; omega
theorem dec_ne (u : Nat) : Lib.decDigits u ≠ [] := by
  by_cases h : u < 10
  · rw [dec_small h]; simp
  · rw [dec_big h]; simp
theorem dec_zero (u : Nat) : (Lib.decDigits u).head? = some 48 → u = 0 := by
  induction u using Nat.strongRecOn with
  | _ u ih =>
    by_cases h : u < 10
    · rw [dec_small h]
      intro e
      simp only [List.head?_cons, Option.some.injEq] at e
      have := congrArg UInt8.toNat e
      rw [digit_nat u h] at this
      simp at this; omega
    · rw [dec_big h]
      intro e
      have hne := dec_ne (u / 10)
      obtain ⟨x, xs, hx⟩ := List.exists_cons_of_ne_nil hne
      have e' : (Lib.decDigits (u / 10)).head? = some 48 := by rw [hx] at e ⊢; simpa using e
      have := ih _ (by omega) e'
      omega
theorem dec_len (k u : Nat) (h : u < 10 ^ (k + 1)) : (Lib.decDigits u).length ≤ k + 1 := by
  induction k generalizing u with
  | zero => rw [dec_small (by simpa using h)]; simp
  | succ k ih =>
    by_cases h1 : u < 10
    · rw [dec_small h1]; simp
    · rw [dec_big h1]
      have := ih (u / 10) (by rw [Nat.pow_succ] at h; exact Nat.div_lt_of_lt_mul (by rw [Nat.mul_comm]; exact h))
      simp; omega

theorem take_isD (m : List UInt8) : ∀ d, (∀ j, j < d → isD (m.getD j 0) = true) → isD (m.getD d 0) = false → m.takeWhile isD = m.take d ∧ m.dropWhile isD = m.drop d := by
  induction m with
  | nil => intro d _ _; simp
  | cons x m ih =>
    intro d h1 h2
    cases d with
    | zero => simp at h2; simp [h2]
    | succ d =>
      have h0 := h1 0 (by omega)
      simp at h0
      have := ih d (fun j hj => by have := h1 (j + 1) (by omega); simpa using this) (by simpa using h2)
      simp [h0, this]
theorem long_isD (m : List UInt8) : ∀ d, (∀ j, j < d → isD (m.getD j 0) = true) → d ≤ (m.takeWhile isD).length := by
  induction m with
  | nil => intro d h; cases d with
    | zero => simp
    | succ d => have := h 0 (by omega); simp [isD] at this
  | cons x m ih =>
    intro d h
    cases d with
    | zero => simp
    | succ d =>
      have h0 := h 0 (by omega)
      simp at h0
      have := ih d (fun j hj => by have := h (j + 1) (by omega); simpa using this)
      simp [h0]; omega

/-- The number at the beginning of what is behind a sign, and what is behind it. -/
def numAt (m : List UInt8) : Option (Nat × List UInt8) :=
  if m.takeWhile isD = [] ∨ (m.takeWhile isD).head? = some 48 ∨ 9 < (m.takeWhile isD).length then none else some (val (m.takeWhile isD), m.dropWhile isD)
def numF (s : List UInt8) : Option (Int × List UInt8) :=
  if s.head? = some 48 then some (0, s.drop 1)
  else if s.head? = some 45 then (numAt (s.drop 1)).map fun p => (-(p.1 : Int), p.2)
  else (numAt s).map fun p => ((p.1 : Int), p.2)

/-- What is no number goes on here. -/
def Stops (r : List UInt8) : Prop := isD (r.getD 0 0) = false
theorem takeWhile_dec (u : Nat) (r : List UInt8) (hr : Stops r) : (Lib.decDigits u ++ r).takeWhile isD = Lib.decDigits u ∧ (Lib.decDigits u ++ r).dropWhile isD = r := by
  have h := take_isD (Lib.decDigits u ++ r) (Lib.decDigits u).length (fun j hj => by
    have : (Lib.decDigits u ++ r).getD j 0 = (Lib.decDigits u)[j] := by simp [List.getD, List.getElem?_append_left hj, hj]
    rw [this]; exact dec_isD u _ (List.getElem_mem _)) (by
    have : (Lib.decDigits u ++ r).getD (Lib.decDigits u).length 0 = r.getD 0 0 := by simp [List.getD, List.getElem?_append_right (Nat.le_refl _)]
    rw [this]; exact hr)
  rw [h.1, h.2]
  simp
theorem numAt_dec (u : Nat) (r : List UInt8) (hr : Stops r) (h0 : u ≠ 0) (h9 : u < 1000000000) : numAt (Lib.decDigits u ++ r) = some (u, r) := by
  obtain ⟨h1, h2⟩ := takeWhile_dec u r hr
  rw [numAt, h1, h2, if_neg, dec_val]
  rintro (h | h | h)
  · exact dec_ne u h
  · exact h0 (dec_zero u h)
  · have := dec_len 8 u (by simpa using h9); omega
theorem dec_head (u : Nat) : ∃ c r, Lib.decDigits u = c :: r ∧ isD c = true := by
  obtain ⟨x, xs, hx⟩ := List.exists_cons_of_ne_nil (dec_ne u)
  exact ⟨x, xs, hx, dec_isD u x (by rw [hx]; simp)⟩
theorem numF_itoa (n : Int) (r : List UInt8) (hr : Stops r) (h1 : -1000000000 < n) (h2 : n < 1000000000) : numF (Lib.itoa n ++ r) = some (n, r) := by
  unfold Lib.itoa
  split
  · rename_i hn
    have : numF (45 :: Lib.decDigits n.natAbs ++ r) = (numAt (Lib.decDigits n.natAbs ++ r)).map fun p => (-(p.1 : Int), p.2) := by
      simp [numF]
    rw [this, numAt_dec _ _ hr (by omega) (by omega)]
    simp; omega
  · rename_i hn
    obtain ⟨c, xs, hx, hc⟩ := dec_head n.toNat
    by_cases h0 : n = 0
    · subst h0
      have e : Lib.decDigits (0 : Int).toNat = [48] := by rw [dec_small (by simp)]; rfl
      rw [e]; simp [numF]
    · have hc1 : c ≠ 48 := fun e => by
        have := dec_zero n.toNat (by rw [hx, e]; rfl)
        omega
      have hc2 : c ≠ 45 := fun e => by rw [e] at hc; simp [isD] at hc
      have : numF (Lib.decDigits n.toNat ++ r) = (numAt (Lib.decDigits n.toNat ++ r)).map fun p => ((p.1 : Int), p.2) := by
        rw [numF, if_neg (by rw [hx]; simpa using hc1), if_neg (by rw [hx]; simpa using hc2)]
      rw [this, numAt_dec _ _ hr (by omega) (by omega)]
      simp; omega
theorem drop_le (m : List UInt8) : (m.dropWhile isD).length ≤ m.length := (List.dropWhile_suffix isD).length_le
theorem numF_short {s : List UInt8} {n : Int} {r : List UInt8} (h : numF s = some (n, r)) : r.length ≤ s.length := by
  unfold numF at h
  split at h
  · simp at h; rw [← h.2]; simp
  · split at h
    · simp only [Option.map_eq_some_iff, Prod.mk.injEq, Prod.exists] at h
      obtain ⟨a, b, h1, _, rfl⟩ := h
      unfold numAt at h1
      split at h1
      · cases h1
      · simp at h1; rw [← h1.2]
        have := drop_le (s.drop 1); simp at this; simp; omega
    · simp only [Option.map_eq_some_iff, Prod.mk.injEq, Prod.exists] at h
      obtain ⟨a, b, h1, _, rfl⟩ := h
      unfold numAt at h1
      split at h1
      · cases h1
      · simp at h1; rw [← h1.2]; exact drop_le s

/-! ### Frames -/
def many (k : Int) : Int := if k = 1 then 3 else if k = 2 then 2 else if k = 3 then 6 else if k = 4 then 2 else -1
def sz (n : Int) : Bool := decide (-1000000 ≤ n) && decide (n ≤ 1000000)
def okF (k sq : Int) (vs : List Int) : Bool := (decide (1 ≤ k) && decide (k ≤ 4)) && ((decide (0 ≤ sq) && decide (sq ≤ 99)) && (decide ((vs.length : Int) = many k) && vs.all sz))
def letter (k : Int) : UInt8 := if k = 1 then 83 else if k = 2 then 72 else if k = 3 then 70 else 80
def blanks (ns : List Int) : List UInt8 := (ns.map fun n => 32 :: Lib.itoa n).flatten
theorem blanks_nil : blanks [] = [] := rfl
theorem blanks_cons (n : Int) (ns : List Int) : blanks (n :: ns) = 32 :: (Lib.itoa n ++ blanks ns) := by simp [blanks]
def aheadF (k sq : Int) (vs : List Int) : List UInt8 := letter k :: (blanks (sq :: vs) ++ [32])
def wsum : Nat → List UInt8 → Nat
  | _, [] => 0
  | i, c :: l => (i + 1) * c.toNat + wsum (i + 1) l
def sumL (l : List UInt8) : Int := if 200 < l.length then -1 else ((wsum 0 l % 251 : Nat) : Int)
def behind (a : List UInt8) : List UInt8 := 42 :: (Lib.itoa (sumL a) ++ [10])
def showF (k sq : Int) (vs : List Int) : List UInt8 := if okF k sq vs = true then aheadF k sq vs ++ behind (aheadF k sq vs) else []
theorem wsum_snoc (l : List UInt8) (c : UInt8) : ∀ i, wsum i (l ++ [c]) = wsum i l + (i + l.length + 1) * c.toNat := by
  induction l with
  | nil => intro i; simp [wsum]
  | cons x l ih => intro i; simp only [List.cons_append, wsum, ih, List.length_cons]; rw [show i + 1 + l.length + 1 = i + (l.length + 1) + 1 by omega]; omega
theorem sumL_ge (l : List UInt8) : -1 ≤ sumL l := by unfold sumL; split <;> omega
theorem sumL_le (l : List UInt8) : sumL l ≤ 250 := by unfold sumL; split <;> omega
theorem okF_parts {k sq : Int} {vs : List Int} (h : okF k sq vs = true) : 1 ≤ k ∧ k ≤ 4 ∧ 0 ≤ sq ∧ sq ≤ 99 ∧ (vs.length : Int) = many k ∧ ∀ v ∈ vs, -1000000 ≤ v ∧ v ≤ 1000000 := by
  simp only [okF, Bool.and_eq_true, decide_eq_true_eq, List.all_eq_true, sz] at h
  exact ⟨h.1.1, h.1.2, h.2.1.1, h.2.1.2, h.2.2.1, h.2.2.2⟩
theorem many_le (k : Int) : many k ≤ 6 := by unfold many; repeat' split
                                             all_goals omega
theorem okF_short {k sq : Int} {vs : List Int} (h : okF k sq vs = true) : vs.length ≤ 6 := by
  have h1 := (okF_parts h).2.2.2.2.1
  have h2 := many_le k
  omega
theorem showF_ok {k sq : Int} {vs : List Int} (h : okF k sq vs = true) : showF k sq vs = aheadF k sq vs ++ behind (aheadF k sq vs) := by rw [showF, if_pos h]
theorem showF_not {k sq : Int} {vs : List Int} (h : okF k sq vs = false) : showF k sq vs = [] := by rw [showF, if_neg (by rw [h]; simp)]
theorem showF_cons {k sq : Int} {vs : List Int} (h : okF k sq vs = true) : showF k sq vs = letter k :: (blanks (sq :: vs) ++ 32 :: 42 :: (Lib.itoa (sumL (aheadF k sq vs)) ++ [10])) := by
  rw [showF_ok h]; simp [aheadF, behind]

/-- What is read of a text: the frame of which it is the text; none where there is none. -/
def IsRead (s : List UInt8) : Option (Int × Int × List Int) → Prop
  | some f => okF f.1 f.2.1 f.2.2 = true ∧ showF f.1 f.2.1 f.2.2 = s
  | none => ∀ k sq vs, okF k sq vs = true → showF k sq vs ≠ s
theorem isRead_ex (s : List UInt8) : ∃ r, IsRead s r := by
  by_cases h : ∃ f : Int × Int × List Int, okF f.1 f.2.1 f.2.2 = true ∧ showF f.1 f.2.1 f.2.2 = s
  · obtain ⟨f, hf⟩ := h; exact ⟨some f, hf⟩
  · exact ⟨none, fun k sq vs ho hs => h ⟨(k, sq, vs), ho, hs⟩⟩

theorem itoa_head (n : Int) : ∃ c r, Lib.itoa n = c :: r ∧ (isD c = true ∨ c = 45) := by
  unfold Lib.itoa
  split
  · exact ⟨_, _, rfl, Or.inr rfl⟩
  · obtain ⟨c, r, h, hc⟩ := dec_head n.toNat
    exact ⟨c, r, h, Or.inl hc⟩
theorem itoa_chars (n : Int) : ∀ c ∈ Lib.itoa n, isD c = true ∨ c = 45 := by
  unfold Lib.itoa
  split
  · intro c hc
    rcases List.mem_cons.1 hc with h | h
    · exact Or.inr h
    · exact Or.inl (dec_isD _ c h)
  · intro c hc; exact Or.inl (dec_isD _ c hc)
theorem blanks_stop (ns : List Int) (t : List UInt8) : Stops (blanks ns ++ 32 :: 42 :: t) := by
  cases ns with
  | nil => simp [blanks, Stops, isD]
  | cons n ns => simp [blanks_cons, Stops, isD]
/-- Of numbers between blanks, up to a star, there is one reading. -/
theorem blanks_inj : ∀ (ns ms : List Int) (t u : List UInt8), (∀ n ∈ ns, -1000000000 < n ∧ n < 1000000000) → (∀ n ∈ ms, -1000000000 < n ∧ n < 1000000000) →
    blanks ns ++ 32 :: 42 :: t = blanks ms ++ 32 :: 42 :: u → ns = ms ∧ t = u := by
  intro ns
  induction ns with
  | nil =>
    intro ms t u _ _ h
    cases ms with
    | nil => simpa [blanks] using h
    | cons m ms =>
      obtain ⟨c, r, hc, hd⟩ := itoa_head m
      rw [blanks_cons, hc] at h
      simp [blanks] at h
      obtain ⟨h1, _⟩ := h
      subst h1
      rcases hd with hd | hd <;> simp [isD] at hd
  | cons n ns ih =>
    intro ms t u h1 h2 h
    cases ms with
    | nil =>
      obtain ⟨c, r, hc, hd⟩ := itoa_head n
      rw [blanks_cons, hc] at h
      simp [blanks] at h
      obtain ⟨h1, _⟩ := h
      subst h1
      rcases hd with hd | hd <;> simp [isD] at hd
    | cons m ms =>
      simp only [blanks_cons, List.cons_append, List.cons.injEq, true_and, List.append_assoc] at h
      have e1 := numF_itoa n _ (blanks_stop ns t) (h1 n (by simp)).1 (h1 n (by simp)).2
      have e2 := numF_itoa m _ (blanks_stop ms u) (h2 m (by simp)).1 (h2 m (by simp)).2
      rw [h, e2] at e1
      simp at e1
      obtain ⟨rfl, e1⟩ := e1
      obtain ⟨rfl, rfl⟩ := ih ms t u (fun x hx => h1 x (by simp [hx])) (fun x hx => h2 x (by simp [hx])) e1.symm
      exact ⟨rfl, rfl⟩
theorem letter_inj {k k' : Int} (h1 : 1 ≤ k) (h2 : k ≤ 4) (h3 : 1 ≤ k') (h4 : k' ≤ 4) (h : letter k = letter k') : k = k' := by
  have e1 : k = 1 ∨ k = 2 ∨ k = 3 ∨ k = 4 := by omega
  have e2 : k' = 1 ∨ k' = 2 ∨ k' = 3 ∨ k' = 4 := by omega
  rcases e1 with rfl | rfl | rfl | rfl <;> rcases e2 with rfl | rfl | rfl | rfl <;> first | rfl | (simp [letter] at h)
theorem okF_small {k sq : Int} {vs : List Int} (h : okF k sq vs = true) : ∀ n ∈ sq :: vs, -1000000000 < n ∧ n < 1000000000 := by
  obtain ⟨_, _, h3, h4, _, h6⟩ := okF_parts h
  intro n hn
  rcases List.mem_cons.1 hn with rfl | hn
  · omega
  · have := h6 n hn; omega
theorem showF_inj {k sq k' sq' : Int} {vs vs' : List Int} (h : okF k sq vs = true) (h' : okF k' sq' vs' = true) (e : showF k sq vs = showF k' sq' vs') : k = k' ∧ sq = sq' ∧ vs = vs' := by
  rw [showF_cons h, showF_cons h'] at e
  simp only [List.cons.injEq] at e
  obtain ⟨e1, e2⟩ := e
  obtain ⟨e3, _⟩ := blanks_inj _ _ _ _ (okF_small h) (okF_small h') e2
  obtain ⟨a1, a2, _⟩ := okF_parts h
  obtain ⟨b1, b2, _⟩ := okF_parts h'
  simp at e3
  exact ⟨letter_inj a1 a2 b1 b2 e1, e3.1, e3.2⟩
theorem isRead_uniq {s : List UInt8} {r r' : Option (Int × Int × List Int)} (h : IsRead s r) (h' : IsRead s r') : r = r' := by
  match r, r', h, h' with
  | none, none, _, _ => rfl
  | none, some f, h, h' => exact absurd h'.2 (h _ _ _ h'.1)
  | some f, none, h, h' => exact absurd h.2 (h' _ _ _ h.1)
  | some (k, sq, vs), some (k', sq', vs'), h, h' =>
    obtain ⟨rfl, rfl, rfl⟩ := showF_inj h.1 h'.1 (h.2.trans h'.2.symm)
    rfl
end Go.Proofs.YtdikhdfpcipdbaaGreatDoor.txt
