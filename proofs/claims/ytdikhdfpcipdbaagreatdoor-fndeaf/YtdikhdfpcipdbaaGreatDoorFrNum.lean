/- numberAhead: labels and gotos; byteAt, isDigit. -/
import Derived.Test.YtdikhdfpcipdbaaGreatDoorFrShow2
import Derived.ScopeJumps
import Derived.WalkMore
namespace Go.Proofs.YtdikhdfpcipdbaaGreatDoor.frm
open Go.ChangeShapes Go.WideShapes Go.ChangeAt Go.RowKit
open Go.Proofs.YtdikhdfpcipdbaaGreatDoor.nums Go.Proofs.YtdikhdfpcipdbaaGreatDoor.mem Go.Proofs.YtdikhdfpcipdbaaGreatDoor.txt Go.Proofs.YtdikhdfpcipdbaaGreatDoor.fix
open Go.Proofs.YtdikhdfpcipdbaaGreatDoor.tab (Ret quiet_w wpList_make_has)
set_option linter.unusedVariables false

/-- As Q; by a goto to a label: J of that label. -/
def jumps (J : Nat → Act → World → Prop) (Q : Exit → Act → World → Prop) : Exit → Act → World → Prop
  | .goto l, a, w => J l a w
  | e, a, w => Q e a w

/-- A scope in which the run jumps to labels: what holds at each jump, and a measure that every pass from a label lowers. -/
theorem wp_scope_labels {P : Program} {a : Act} {w : World} {Q : Exit → Act → World → Prop} {c : Code} (J : Nat → Act → World → Prop) (μ : Nat → Act → World → Nat)
    (first : c.wp P (jumps J Q) a w)
    (pass : ∀ l a w, J l a w → ∃ rest, findLabel c l = some rest ∧ rest.wp P (jumps (fun l' a' w' => J l' a' w' ∧ μ l' a' w' < μ l a w) Q) a w) : (Code.scope c).wp P Q a w := by
  intro b k cs
  have key : ∀ n l a w, μ l a w = n → J l a w → ∀ rest, findLabel c l = some rest → ∃ e a' w', Q e a' w' ∧ Arrives P (lone (b.at a (.code rest :: .inScope c :: k)) cs w) b k cs e a' w' := by
    intro n
    induction n using Nat.strongRecOn with
    | _ n ih =>
      intro l a w hn hJ rest hf
      obtain ⟨rest', hf', hp⟩ := pass l a w hJ
      obtain rfl : rest = rest' := Option.some.inj (hf.symm.trans hf')
      obtain ⟨e, a₁, w₁, hq, harr⟩ := hp b (.inScope c :: k) cs
      cases e with
      | normal => exact ⟨.normal, a₁, w₁, hq, Steps.trans harr (.one step_inScope)⟩
      | exit id => exact ⟨.exit id, a₁, w₁, hq, fun k' hk => harr k' (by simp [exitTo, hk])⟩
      | goto l' =>
        obtain ⟨hJ', hlt⟩ := hq
        obtain ⟨r2, hf2, _⟩ := pass l' a₁ w₁ hJ'
        have hg : gotoIn l' (.inScope c :: k) = some (.code r2 :: .inScope c :: k) := by simp [gotoIn, hf2]
        obtain ⟨e₂, a₂, w₂, hq₂, harr₂⟩ := ih _ (by omega) l' a₁ w₁ rfl hJ' r2 hf2
        exact ⟨e₂, a₂, w₂, hq₂, .of_steps (harr _ hg) harr₂⟩
      | ret => exact ⟨_, a₁, w₁, hq, harr⟩
      | panic ch => exact ⟨_, a₁, w₁, hq, harr⟩
      | outgrown => exact ⟨_, a₁, w₁, hq, harr⟩
  obtain ⟨e, a₁, w₁, hq, harr⟩ := first b (.inScope c :: k) cs
  cases e with
  | normal => exact ⟨.normal, a₁, w₁, hq, .head step_scope (Steps.trans harr (.one step_inScope))⟩
  | exit id => exact ⟨.exit id, a₁, w₁, hq, fun k' hk => .head step_scope (harr k' (by simp [exitTo, hk]))⟩
  | goto l' =>
    obtain ⟨r2, hf2, _⟩ := pass l' a₁ w₁ hq
    have hg : gotoIn l' (.inScope c :: k) = some (.code r2 :: .inScope c :: k) := by simp [gotoIn, hf2]
    obtain ⟨e₂, a₂, w₂, hq₂, harr₂⟩ := key _ l' a₁ w₁ rfl hq r2 hf2
    exact ⟨e₂, a₂, w₂, hq₂, .of_steps (.head step_scope (harr _ hg)) harr₂⟩
  | ret => exact ⟨_, a₁, w₁, hq, .of_steps (.one step_scope) harr⟩
  | panic ch => exact ⟨_, a₁, w₁, hq, .of_steps (.one step_scope) harr⟩
  | outgrown => exact ⟨_, a₁, w₁, hq, .of_steps (.one step_scope) harr⟩

/-- The same, where the first walk may go on at a label as every other one does. -/
theorem wp_scope_again {P : Program} {a : Act} {w : World} {Q : Exit → Act → World → Prop} {c : Code} (J : Nat → Act → World → Prop) (μ : Nat → Act → World → Nat)
    (first : (∀ l a w, J l a w → ∀ rest, findLabel c l = some rest → rest.wp P (jumps J Q) a w) → c.wp P (jumps J Q) a w)
    (pass : ∀ l a w, J l a w → ∃ rest, findLabel c l = some rest ∧ rest.wp P (jumps (fun l' a' w' => J l' a' w' ∧ μ l' a' w' < μ l a w) Q) a w) : (Code.scope c).wp P Q a w := by
  refine wp_scope_labels J μ (first fun l a w hJ rest hf => ?_) pass
  obtain ⟨r, hr, hp⟩ := pass l a w hJ
  obtain rfl : rest = r := Option.some.inj (hf.symm.trans hr)
  refine Code.wp_mono (fun e a' w' h => ?_) hp
  cases e <;> first | exact h | exact h.1

theorem at_byt (l : List UInt8) (i : Nat) (h : i < (ByteArray.mk l.toArray).size) : (ByteArray.mk l.toArray)[i]'h = byt l i := at_str l i h
theorem byt_ge (l : List UInt8) (i : Nat) (h : l.length ≤ i) : byt l i = 0 := by simp [byt, List.getD, List.getElem?_eq_none h]

/-- What numberAhead answers. -/
def numV (r : Option (Int × List UInt8)) : Value := match r with
  | some (n, t) => .tuple #[.int .i64 n, str t, .bool true]
  | none => .tuple #[.int .i64 0, str [], .bool false]


theorem byt_drop (l : List UInt8) (i j : Nat) : byt (l.drop i) j = byt l (i + j) := by simp [byt, List.getD]
theorem head_byt (l : List UInt8) (c : UInt8) (h : c ≠ 0) : l.head? = some c ↔ byt l 0 = c := by
  cases l with
  | nil => simp [byt]; exact fun e => h e.symm
  | cons x l => simp [byt]
theorem numAt_none1 (m : List UInt8) (h : isD (byt m 0) = false) : numAt m = none := by
  have := (take_isD m 0 (fun j hj => by omega) h).1
  rw [numAt, this]; simp
theorem numAt_none2 (m : List UInt8) (h : byt m 0 = 48) : numAt m = none := by
  cases m with
  | nil => simp [byt] at h
  | cons x m =>
    have : x = 48 := by simpa [byt] using h
    subst this
    rw [numAt, if_pos]
    right; left
    simp [isD]
theorem numAt_long (m : List UInt8) (h : ∀ j, j < 10 → isD (byt m j) = true) : numAt m = none := by
  have := long_isD m 10 h
  rw [numAt, if_pos (Or.inr (Or.inr (by omega)))]
theorem byt_lt {m : List UInt8} {d : Nat} (h : isD (byt m d) = true) : d < m.length := by
  by_cases hd : d < m.length
  · exact hd
  · rw [byt_ge m d (by omega)] at h; simp [isD] at h
theorem numAt_some (m : List UInt8) (d : Nat) (h1 : 1 ≤ d) (h2 : d ≤ 9) (h : ∀ j, j < d → isD (byt m j) = true) (hn : isD (byt m d) = false) (h0 : byt m 0 ≠ 48) : numAt m = some (val (m.take d), m.drop d) := by
  obtain ⟨e1, e2⟩ := take_isD m d h hn
  have hl : d ≤ m.length := by have := byt_lt (h (d - 1) (by omega)); omega
  rw [numAt, e1, e2, if_neg]
  rintro (h3 | h3 | h3)
  · have e := congrArg List.length h3; rw [List.length_take, List.length_nil] at e; omega
  · cases m with
    | nil => simp at hl; omega
    | cons x m =>
      cases d with
      | zero => omega
      | succ d => simp at h3; exact h0 (by simpa [byt] using h3)
  · rw [List.length_take] at h3; omega
theorem val_take (m : List UInt8) (d : Nat) (h : d < m.length) : val (m.take (d + 1)) = val (m.take d) * 10 + ((byt m d).toNat - 48) := by
  have e : m.take (d + 1) = m.take d ++ [byt m d] := by rw [List.take_add_one]; simp [byt, List.getD, h]
  rw [e, val_snoc]
theorem isD_iff (c : UInt8) : isD c = true ↔ 48 ≤ c.toNat ∧ c.toNat ≤ 57 := by simp [isD]
theorem val_lt (m : List UInt8) : ∀ d, (∀ j, j < d → isD (byt m j) = true) → val (m.take d) < 10 ^ d := by
  intro d
  induction d with
  | zero => intro _; simp [val]
  | succ d ih =>
    intro h
    have h1 := ih (fun j hj => h j (by omega))
    have h2 := h d (by omega)
    rw [val_take m d (byt_lt h2), Nat.pow_succ]
    have := (isD_iff _).1 h2
    omega
theorem val_bd (m : List UInt8) (d : Nat) (h : ∀ j, j < d → isD (byt m j) = true) (hd : d ≤ 9) : val (m.take d) < 1000000000 := by
  have h1 := val_lt m d h
  have h2 : 10 ^ d ≤ 10 ^ 9 := Nat.pow_le_pow_right (by omega) hd
  have h3 : (10 : Nat) ^ 9 = 1000000000 := rfl
  omega

/-- At a digit: so many are read, behind a sign or not. -/
structure AtDigit (l : List UInt8) (i0 d : Nat) (sg : Int) : Prop where
  le : i0 ≤ 1
  d9 : d ≤ 9
  sign : sg = 1 ∨ sg = -1
  digs : ∀ j, j < d + 1 → isD (byt l (i0 + j)) = true
  head : byt l i0 ≠ 48
  says : numF l = (numAt (l.drop i0)).map fun p => (sg * (p.1 : Int), p.2)
theorem AtDigit.long {l : List UInt8} {i0 d : Nat} {sg : Int} (h : AtDigit l i0 d sg) (hd : d = 9) : numF l = none := by
  rw [h.says, numAt_long _ (fun j hj => by rw [byt_drop]; exact h.digs j (by omega))]; rfl
theorem AtDigit.lt {l : List UInt8} {i0 d : Nat} {sg : Int} (h : AtDigit l i0 d sg) : i0 + d < l.length := byt_lt (h.digs d (by omega))
theorem AtDigit.next {l : List UInt8} {i0 d : Nat} {sg : Int} (h : AtDigit l i0 d sg) (hd : d ≠ 9) (hx : isD (byt l (i0 + (d + 1))) = true) : AtDigit l i0 (d + 1) sg :=
  ⟨h.le, by have := h.d9; omega, h.sign, fun j hj => by
    by_cases e : j = d + 1
    · subst e; exact hx
    · exact h.digs j (by omega), h.head, h.says⟩
theorem AtDigit.done {l : List UInt8} {i0 d : Nat} {sg : Int} (h : AtDigit l i0 d sg) (hd : d ≠ 9) (hx : isD (byt l (i0 + (d + 1))) = false) :
    numF l = some (sg * (val ((l.drop i0).take (d + 1)) : Int), l.drop (i0 + (d + 1))) := by
  have h9 := h.d9
  rw [h.says, numAt_some (l.drop i0) (d + 1) (by omega) (by omega) (fun j hj => by rw [byt_drop]; exact h.digs j hj) (by rw [byt_drop]; exact hx) (by rw [byt_drop]; exact h.head)]
  simp [List.drop_drop]
theorem AtDigit.val {l : List UInt8} {i0 d : Nat} {sg : Int} (h : AtDigit l i0 d sg) : txt.val ((l.drop i0).take (d + 1)) = txt.val ((l.drop i0).take d) * 10 + ((byt l (i0 + d)).toNat - 48) := by
  have := val_take (l.drop i0) d (by have := h.lt; simp; omega)
  rwa [byt_drop] at this
theorem AtDigit.bd {l : List UInt8} {i0 d : Nat} {sg : Int} (h : AtDigit l i0 d sg) : txt.val ((l.drop i0).take d) < 1000000000 :=
  val_bd _ d (fun j hj => by rw [byt_drop]; exact h.digs j (by omega)) h.d9
theorem AtDigit.bd1 {l : List UInt8} {i0 d : Nat} {sg : Int} (h : AtDigit l i0 d sg) (hd : d ≠ 9) : txt.val ((l.drop i0).take (d + 1)) < 1000000000 :=
  val_bd _ (d + 1) (fun j hj => by rw [byt_drop]; exact h.digs j (by omega)) (by have := h.d9; omega)

theorem str_drop (l : List UInt8) (m : Nat) : (ByteArray.mk l.toArray).extract m l.length = ByteArray.mk (l.drop m).toArray := by
  rw [ByteArray.extract_mk]
  rw [List.take_of_length_le (by simp)]

/-- What holds at each label: 0 at the end, 1 at no number, 2 at a digit. -/
def NumJ (l : List UInt8) (w : World) : Nat → Act → World → Prop
  | 0, a, w' => w.grownBy w' none ∧ ∃ (n i d sg : Int) (m : Nat) (u8 u9 u10 u11 u12 u13 u14 u15 u16 u17 u18 u19 u20 u21 u22 u23 u24 u25 u26 u27 u28 u29 u30 u31 u32 u33 u34 u35 u36 u37 u38 u39 u40 u41 u42 u43 u44 u45 u46 u47 u48 : Value), i = (m : Int) ∧ m ≤ l.length ∧ 0 ≤ n ∧ n < 1000000000 ∧ (sg = 1 ∨ sg = -1) ∧ a = { tmps := #[str l, undef, .int .i64 n, str [], .bool false, .int .i64 i, .int .i64 d, .int .i64 sg, u8, u9, u10, u11, u12, u13, u14, u15, u16, u17, u18, u19, u20, u21, u22, u23, u24, u25, u26, u27, u28, u29, u30, u31, u32, u33, u34, u35, u36, u37, u38, u39, u40, u41, u42, u43, u44, u45, u46, u47, u48], defers := [] } ∧ Hid (numF l = some (sg * n, l.drop m))
  | 1, a, w' => w.grownBy w' none ∧ ∃ (n i d sg : Int) (u8 u9 u10 u11 u12 u13 u14 u15 u16 u17 u18 u19 u20 u21 u22 u23 u24 u25 u26 u27 u28 u29 u30 u31 u32 u33 u34 u35 u36 u37 u38 u39 u40 u41 u42 u43 u44 u45 u46 u47 u48 : Value), a = { tmps := #[str l, undef, .int .i64 n, str [], .bool false, .int .i64 i, .int .i64 d, .int .i64 sg, u8, u9, u10, u11, u12, u13, u14, u15, u16, u17, u18, u19, u20, u21, u22, u23, u24, u25, u26, u27, u28, u29, u30, u31, u32, u33, u34, u35, u36, u37, u38, u39, u40, u41, u42, u43, u44, u45, u46, u47, u48], defers := [] } ∧ Hid (numF l = none)
  | 2, a, w' => w.grownBy w' none ∧ ∃ (n i d sg : Int) (i0 k : Nat) (u8 u9 u10 u11 u12 u13 u14 u15 u16 u17 u18 u19 u20 u21 u22 u23 u24 u25 u26 u27 u28 u29 u30 u31 u32 u33 u34 u35 u36 u37 u38 u39 u40 u41 u42 u43 u44 u45 u46 u47 u48 : Value), i = ((i0 + k : Nat) : Int) ∧ d = (k : Int) ∧ n = (val ((l.drop i0).take k) : Int) ∧ a = { tmps := #[str l, undef, .int .i64 n, str [], .bool false, .int .i64 i, .int .i64 d, .int .i64 sg, u8, u9, u10, u11, u12, u13, u14, u15, u16, u17, u18, u19, u20, u21, u22, u23, u24, u25, u26, u27, u28, u29, u30, u31, u32, u33, u34, u35, u36, u37, u38, u39, u40, u41, u42, u43, u44, u45, u46, u47, u48], defers := [] } ∧ AtDigit l i0 k sg
  | _, _, _ => False

end Go.Proofs.YtdikhdfpcipdbaaGreatDoor.frm
