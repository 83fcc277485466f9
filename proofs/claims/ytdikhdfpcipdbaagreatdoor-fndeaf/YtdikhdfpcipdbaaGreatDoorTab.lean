/- Chapter 2 on plain lists: what a table is, what is at it, whether it rises, its greatest Y. Nothing here names the program. -/
import Derived.Test.YtdikhdfpcipdbaaGreatDoorNums
namespace Go.Proofs.YtdikhdfpcipdbaaGreatDoor.tab
open Go.Proofs.YtdikhdfpcipdbaaGreatDoor.nums
set_option linter.unusedVariables false

abbrev Pts := List (Int × Int)
def px (ps : Pts) (k : Nat) : Int := (ps.getD k (0, 0)).1
def py (ps : Pts) (k : Nat) : Int := (ps.getD k (0, 0)).2
/-- X and Y of the k-th are sizes. -/
def szB (ps : Pts) (k : Nat) : Bool := inb (px ps k) (-1000000) 1000000 && inb (py ps k) (-1000000) 1000000
/-- All of the first n are right, and X rises. -/
def Good (ps : Pts) (n : Nat) : Prop := (∀ k, k < n → szB ps k = true) ∧ ∀ k, k + 1 < n → px ps k < px ps (k + 1)
def OkT (ps : Pts) : Prop := 2 ≤ ps.length ∧ ps.length ≤ 8 ∧ Good ps ps.length
open Classical in
noncomputable def okB (ps : Pts) : Bool := decide (OkT ps)
open Classical in
noncomputable def riseB (ps : Pts) : Bool := decide (OkT ps ∧ ∀ k, k + 1 < ps.length → py ps k ≤ py ps (k + 1))
theorem okB_true {ps : Pts} (h : OkT ps) : okB ps = true := by unfold okB; simp [h]
theorem okB_false {ps : Pts} (h : ¬ OkT ps) : okB ps = false := by unfold okB; simp [h]
theorem okB_iff {ps : Pts} : okB ps = true ↔ OkT ps := by unfold okB; simp
theorem riseB_true {ps : Pts} (h : OkT ps) (hr : ∀ k, k + 1 < ps.length → py ps k ≤ py ps (k + 1)) : riseB ps = true := by unfold riseB; simp [h]; exact hr
theorem riseB_false {ps : Pts} {k : Nat} (hk : k + 1 < ps.length) (h : py ps (k + 1) < py ps k) : riseB ps = false := by
  unfold riseB; simp; intro _; exact ⟨k, hk, by omega⟩
theorem riseB_notOk {ps : Pts} (h : ¬ OkT ps) : riseB ps = false := by unfold riseB; simp [h]
theorem riseB_iff {ps : Pts} : riseB ps = true ↔ OkT ps ∧ ∀ k, k + 1 < ps.length → py ps k ≤ py ps (k + 1) := by unfold riseB; simp

/-- What is between the k-th and the one behind it. -/
def mid (ps : Pts) (k : Nat) (x : Int) : Int := kPlus (py ps k) (kPart (py ps (k + 1) - py ps k) (x - px ps k) (px ps (k + 1) - px ps k))
/-- y is what stands at x of a right table. -/
def AtIs (ps : Pts) (x y : Int) : Prop :=
  (x ≤ px ps 0 ∧ y = py ps 0) ∨ (px ps 0 < x ∧ px ps (ps.length - 1) ≤ x ∧ y = py ps (ps.length - 1)) ∨
  ∃ k, k + 1 < ps.length ∧ px ps 0 < x ∧ px ps k ≤ x ∧ x < px ps (k + 1) ∧ y = mid ps k x
/-- The greatest of the first n + 1. -/
def gr (ps : Pts) : Nat → Int
  | 0 => py ps 0
  | n + 1 => max (gr ps n) (py ps (n + 1))

theorem szB_iff {ps : Pts} {k : Nat} : szB ps k = true ↔ (-1000000 ≤ px ps k ∧ px ps k ≤ 1000000) ∧ -1000000 ≤ py ps k ∧ py ps k ≤ 1000000 := by
  unfold szB inb; simp
theorem Good.sz {ps : Pts} {n k : Nat} (h : Good ps n) (hk : k < n) : (-1000000 ≤ px ps k ∧ px ps k ≤ 1000000) ∧ -1000000 ≤ py ps k ∧ py ps k ≤ 1000000 := szB_iff.1 (h.1 k hk)
theorem OkT.sz {ps : Pts} {k : Nat} (h : OkT ps) : (-1000000 ≤ px ps k ∧ px ps k ≤ 1000000) ∧ -1000000 ≤ py ps k ∧ py ps k ≤ 1000000 := by
  by_cases hk : k < ps.length
  · exact h.2.2.sz hk
  · have : ps.getD k (0, 0) = (0, 0) := by simp [List.getD, List.getElem?_eq_none (by omega : ps.length ≤ k)]
    unfold px py; rw [this]; simp
theorem Good.mono {ps : Pts} {n k : Nat} (h : Good ps n) (hk : k ≤ n) : Good ps k := ⟨fun i hi => h.1 i (by omega), fun i hi => h.2 i (by omega)⟩
theorem Good.zero (ps : Pts) : Good ps 0 := ⟨fun i hi => by omega, fun i hi => by omega⟩
theorem Good.first {ps : Pts} (h : szB ps 0 = true) : Good ps 1 := by
  refine ⟨fun i hi => ?_, fun i hi => by omega⟩
  obtain rfl : i = 0 := by omega
  exact h
theorem Good.next {ps : Pts} {n : Nat} (h : Good ps (n + 1)) (hs : szB ps (n + 1) = true) (hx : px ps n < px ps (n + 1)) : Good ps (n + 1 + 1) :=
  ⟨fun i hi => by
    by_cases e : i = n + 1
    · subst e; exact hs
    · exact h.1 i (by omega), fun i hi => by
    by_cases e : i = n
    · subst e; exact hx
    · exact h.2 i (by omega)⟩
theorem Good.lt {ps : Pts} {n : Nat} (h : Good ps n) : ∀ (j i : Nat), i < j → j < n → px ps i < px ps j
  | 0, i, hij, hj => by omega
  | j + 1, i, hij, hj => by
    have h1 := h.2 j (by omega)
    by_cases e : i = j
    · subst e; exact h1
    · have := h.lt j i (by omega) (by omega); omega
theorem Good.le {ps : Pts} {n : Nat} (h : Good ps n) (j i : Nat) (hij : i ≤ j) (hj : j < n) : px ps i ≤ px ps j := by
  by_cases e : i = j
  · subst e; omega
  · have := h.lt j i (by omega) hj; omega

/-- There is one answer. -/
theorem AtIs.one {ps : Pts} {x y z : Int} (hg : OkT ps) (h : AtIs ps x y) (h' : AtIs ps x z) : y = z := by
  obtain ⟨h2, h8, hg⟩ := hg
  have hl := hg.lt (ps.length - 1) 0 (by omega) (by omega)
  rcases h with ⟨a, rfl⟩ | ⟨a, b, rfl⟩ | ⟨k, hk, a, b, c, rfl⟩ <;> rcases h' with ⟨a', rfl⟩ | ⟨a', b', rfl⟩ | ⟨k', hk', a', b', c', rfl⟩
  all_goals first | rfl | (exfalso; omega) | skip
  · have := hg.le (ps.length - 1) (k' + 1) (by omega) (by omega); omega
  · have := hg.le (ps.length - 1) (k + 1) (by omega) (by omega); omega
  · have e : k = k' := by
      by_cases h1 : k < k'
      · have := hg.le k' (k + 1) (by omega) (by omega); omega
      · by_cases h3 : k' < k
        · have := hg.le k (k' + 1) (by omega) (by omega); omega
        · omega
    subst e; rfl

theorem gr_le (ps : Pts) : ∀ (n k : Nat), k ≤ n → py ps k ≤ gr ps n
  | 0, k, hk => by
    obtain rfl : k = 0 := by omega
    exact Int.le_refl _
  | n + 1, k, hk => by
    unfold gr
    by_cases e : k = n + 1
    · subst e; omega
    · have := gr_le ps n k (by omega); omega

theorem tdiv_mono {a b c : Int} (h0 : 0 ≤ a) (h : a ≤ b) (hc : 0 < c) : a.tdiv c ≤ b.tdiv c := by
  rw [Int.tdiv_eq_ediv_of_nonneg h0, Int.tdiv_eq_ediv_of_nonneg (by omega)]
  exact Int.ediv_le_ediv hc h

/-- The part of a way d, at dx of DX: from 0 to d. -/
theorem part_up {d dx DX : Int} (hd0 : 0 ≤ d) (hx0 : 0 ≤ dx) (hx1 : dx ≤ DX) (hX : 0 < DX) (hm : dx ≤ 2000000) : 0 ≤ kPart d dx DX ∧ kPart d dx DX ≤ d := by
  unfold kPart
  split
  · omega
  · have h1 : fit dx = dx := fit_same _ (by omega) (by omega)
    have f0 : 0 ≤ fit d := by unfold fit btw; omega
    have f1 : fit d ≤ d := by unfold fit btw; omega
    rw [h1]
    have e : (fit d * DX).tdiv DX = fit d := Int.mul_tdiv_cancel _ (by omega)
    have h2 : fit d * dx ≤ fit d * DX := Int.mul_le_mul_of_nonneg_left hx1 f0
    have h3 : 0 ≤ fit d * dx := Int.mul_nonneg f0 hx0
    have h4 := tdiv_mono h3 h2 hX
    have h5 : 0 ≤ (fit d * dx).tdiv DX := Int.tdiv_nonneg h3 (by omega)
    rw [e] at h4
    have h6 := fit_le d
    have h7 : fit ((fit d * dx).tdiv DX) = (fit d * dx).tdiv DX := fit_same _ (by omega) (by omega)
    omega
theorem fit_neg (d : Int) : fit (-d) = -fit d := by unfold fit btw; omega
theorem part_neg (d dx DX : Int) : kPart (-d) dx DX = -kPart d dx DX := by
  unfold kPart
  split
  · rfl
  · rw [fit_neg, Int.neg_mul, Int.neg_tdiv, fit_neg]
theorem part_mono {d a b DX : Int} (hd0 : 0 ≤ d) (h0 : 0 ≤ a) (h : a ≤ b) (hX : 0 < DX) : kPart d a DX ≤ kPart d b DX := by
  unfold kPart
  split
  · omega
  · have f0 : 0 ≤ fit d := by unfold fit btw; omega
    have g0 : 0 ≤ fit a := by unfold fit btw; omega
    have g1 : fit a ≤ fit b := by unfold fit btw; omega
    have h2 : fit d * fit a ≤ fit d * fit b := Int.mul_le_mul_of_nonneg_left g1 f0
    have h4 := tdiv_mono (Int.mul_nonneg f0 g0) h2 hX
    unfold fit btw at h4 ⊢; omega
theorem part_zero' (d DX : Int) : kPart d 0 DX = 0 := by
  unfold kPart
  split
  · rfl
  · have : fit 0 = 0 := by unfold fit btw; omega
    rw [this]; simp; unfold fit btw; omega

/-- Between two it is between. -/
theorem mid_bd {ps : Pts} (h : OkT ps) {k : Nat} {x : Int} (hk : k + 1 < ps.length) (h1 : px ps k ≤ x) (h2 : x ≤ px ps (k + 1)) :
    min (py ps k) (py ps (k + 1)) ≤ mid ps k x ∧ mid ps k x ≤ max (py ps k) (py ps (k + 1)) := by
  obtain ⟨⟨a1, a2⟩, b1, b2⟩ := h.sz (k := k)
  obtain ⟨⟨c1, c2⟩, d1, d2⟩ := h.sz (k := k + 1)
  have hlt := h.2.2.2 k hk
  unfold mid
  have fp : fit (py ps k) = py ps k := fit_same _ b1 b2
  by_cases hd : py ps k ≤ py ps (k + 1)
  · have := part_up (d := py ps (k + 1) - py ps k) (dx := x - px ps k) (DX := px ps (k + 1) - px ps k) (by omega) (by omega) (by omega) (by omega) (by omega)
    generalize kPart (py ps (k + 1) - py ps k) (x - px ps k) (px ps (k + 1) - px ps k) = q at *
    unfold kPlus; rw [fp]; unfold fit btw; omega
  · have e : py ps (k + 1) - py ps k = -(py ps k - py ps (k + 1)) := by omega
    have := part_up (d := py ps k - py ps (k + 1)) (dx := x - px ps k) (DX := px ps (k + 1) - px ps k) (by omega) (by omega) (by omega) (by omega) (by omega)
    rw [e, part_neg]
    generalize kPart (py ps k - py ps (k + 1)) (x - px ps k) (px ps (k + 1) - px ps k) = q at *
    unfold kPlus; rw [fp]; unfold fit btw; omega
theorem mid_mono {ps : Pts} (h : OkT ps) {k : Nat} {x z : Int} (hk : k + 1 < ps.length) (hy : py ps k ≤ py ps (k + 1)) (h1 : px ps k ≤ x) (hxz : x ≤ z) (h2 : z ≤ px ps (k + 1)) : mid ps k x ≤ mid ps k z := by
  have hlt := h.2.2.2 k hk
  unfold mid
  have := part_mono (d := py ps (k + 1) - py ps k) (a := x - px ps k) (b := z - px ps k) (DX := px ps (k + 1) - px ps k) (by omega) (by omega) (by omega) (by omega)
  unfold kPlus fit btw; omega

theorem AtIs.le_gr {ps : Pts} (h : OkT ps) {x y : Int} (hy : AtIs ps x y) : y ≤ gr ps (ps.length - 1) := by
  have h2 := h.1
  rcases hy with ⟨_, rfl⟩ | ⟨_, _, rfl⟩ | ⟨k, hk, _, a, b, rfl⟩
  · exact gr_le ps _ _ (by omega)
  · exact gr_le ps _ _ (by omega)
  · have := mid_bd h hk a (by omega)
    have g1 := gr_le ps (ps.length - 1) k (by omega)
    have g2 := gr_le ps (ps.length - 1) (k + 1) (by omega)
    omega
theorem AtIs.point {ps : Pts} (h : OkT ps) {k : Nat} (hk : k < ps.length) {y : Int} (hy : AtIs ps (px ps k) y) : y = py ps k := by
  refine AtIs.one h hy ?_
  have h2 := h.1
  by_cases h0 : k = 0
  · subst h0; exact .inl ⟨by omega, rfl⟩
  · have hl := h.2.2.lt k 0 (by omega) hk
    by_cases hn : k = ps.length - 1
    · subst hn; exact .inr (.inl ⟨hl, by omega, rfl⟩)
    · refine .inr (.inr ⟨k, by omega, hl, by omega, h.2.2.2 k (by omega), ?_⟩)
      obtain ⟨⟨a1, a2⟩, b1, b2⟩ := h.sz (k := k)
      unfold mid
      rw [Int.sub_self, part_zero']
      unfold kPlus fit btw; omega
theorem rise_le {ps : Pts} (hr : ∀ k, k + 1 < ps.length → py ps k ≤ py ps (k + 1)) : ∀ (j i : Nat), i ≤ j → j < ps.length → py ps i ≤ py ps j
  | 0, i, hij, hj => by
    obtain rfl : i = 0 := by omega
    exact Int.le_refl _
  | j + 1, i, hij, hj => by
    by_cases e : i = j + 1
    · subst e; exact Int.le_refl _
    · have := rise_le hr j i (by omega) (by omega)
      have := hr j hj
      omega
/-- Where it rises more is never less. -/
theorem AtIs.mono {ps : Pts} (h : OkT ps) (hr : ∀ k, k + 1 < ps.length → py ps k ≤ py ps (k + 1)) {x z y u : Int} (hxz : x ≤ z) (hy : AtIs ps x y) (hu : AtIs ps z u) : y ≤ u := by
  have h2 := h.1
  have hg := h.2.2
  have R := rise_le hr
  rcases hy with ⟨a, rfl⟩ | ⟨a, b, rfl⟩ | ⟨k, hk, a, b, c, rfl⟩ <;> rcases hu with ⟨a', rfl⟩ | ⟨a', b', rfl⟩ | ⟨k', hk', a', b', c', rfl⟩
  · omega
  · exact R _ _ (by omega) (by omega)
  · have := mid_bd h hk' b' (by omega)
    have := R k' 0 (by omega) (by omega)
    have := R (k' + 1) 0 (by omega) (by omega)
    omega
  · omega
  · omega
  · have := hg.le (ps.length - 1) (k' + 1) (by omega) (by omega)
    omega
  · have := hg.le k 0 (by omega) (by omega); omega
  · have := mid_bd h hk b (by omega)
    have := R (ps.length - 1) k (by omega) (by omega)
    have := R (ps.length - 1) (k + 1) (by omega) (by omega)
    omega
  · by_cases e : k = k'
    · subst e; exact mid_mono h hk (hr k hk) b hxz (by omega)
    · have hlt : k < k' := by
        refine Nat.lt_of_not_le fun hle => ?_
        have := hg.le k (k' + 1) (by omega) (by omega)
        omega
      have := mid_bd h hk b (by omega)
      have := mid_bd h hk' b' (by omega)
      have := R k' (k + 1) (by omega) (by omega)
      have := R k' k (by omega) (by omega)
      have := R (k' + 1) k' (by omega) (by omega)
      omega
end Go.Proofs.YtdikhdfpcipdbaaGreatDoor.tab
