/- EffectOf of the model. -/
import Derived.Test.YtdikhdfpcipdbaaGreatDoorShEff
import Derived.Test.YtdikhdfpcipdbaaGreatDoorShRe
namespace Go.Proofs.YtdikhdfpcipdbaaGreatDoor.sh
open Go.ChangeShapes Go.WideShapes Go.ChangeAt Go.RowKit
open Go.Proofs.YtdikhdfpcipdbaaGreatDoor.nums Go.Proofs.YtdikhdfpcipdbaaGreatDoor.mem
open Go.Proofs.YtdikhdfpcipdbaaGreatDoor.tab (Ret quiet_w)
open Go.Proofs.YtdikhdfpcipdbaaGreatDoor.il (nth Own RetI blk blk_some infoInt)
set_option linter.unusedVariables false

theorem stays_at {c : Int} {i : Nat} (h : i < (cas.staysIn c).length) : ∃ f : Nat, f < 6 ∧ nth (cas.staysIn c) i = (f : Int) ∧ on c f = true := by
  have hm := il.nth_mem h
  unfold cas.staysIn cas.staysTo at hm
  obtain ⟨f, hf, e⟩ := List.mem_map.1 hm
  obtain ⟨h1, h2⟩ := List.mem_filter.1 hf
  refine ⟨f, List.mem_range.1 h1, ?_, h2⟩
  exact e.symm
theorem stays_of {c : Int} {f : Nat} (hf : f < 6) (h : on c f = true) : ∃ i, i < (cas.staysIn c).length ∧ nth (cas.staysIn c) i = (f : Int) := by
  have hm : (f : Int) ∈ cas.staysIn c := List.mem_map.2 ⟨f, List.mem_filter.2 ⟨List.mem_range.2 hf, h⟩, rfl⟩
  obtain ⟨i, hi, e⟩ := List.getElem_of_mem hm
  exact ⟨i, hi, by rw [il.nth_lt hi, e]⟩
def onL (c : Int) (g : Nat → Int) (j : Nat) : Int := g (nth (cas.staysIn c) j).toNat
theorem eight {c : Int} (h : cas.caseOk c = true) : c = 0 ∨ c = 1 ∨ c = 2 ∨ c = 3 ∨ c = 4 ∨ c = 5 ∨ c = 6 ∨ c = 7 := by
  unfold cas.caseOk inb at h; simp at h; omega
theorem sum_rr {c : Int} (h : cas.caseOk c = true) : psum (onL c rr) (cas.staysIn c).length = sumOn (on c) rr := by
  rcases eight h with rfl | rfl | rfl | rfl | rfl | rfl | rfl | rfl <;> decide
theorem sum_rp {c : Int} (h : cas.caseOk c = true) : psum (onL c rp) (cas.staysIn c).length = sumOn (on c) rp := by
  rcases eight h with rfl | rfl | rfl | rfl | rfl | rfl | rfl | rfl <;> decide
theorem sum_pp {c : Int} (h : cas.caseOk c = true) : psum (onL c pp) (cas.staysIn c).length = sumOn (on c) pp := by
  rcases eight h with rfl | rfl | rfl | rfl | rfl | rfl | rfl | rfl <;> decide
theorem len_cnt {c : Int} (h : cas.caseOk c = true) : (cas.staysIn c).length = cnt6 (on c) := by
  rcases eight h with rfl | rfl | rfl | rfl | rfl | rfl | rfl | rfl <;> decide
theorem set4 {w : World} {g : Nat} {t : TypeId} {a b c d : Value} (h : Has w g t #[a, b, c, d]) (a' b' c' d' : Value) : Has ((((w.setCell ⟨g, 0, none⟩ a').setCell ⟨g, 1, none⟩ b').setCell ⟨g, 2, none⟩ c').setCell ⟨g, 3, none⟩ d') g t #[a', b', c', d'] := (((h.put 0 a' rfl).put 1 b' rfl).put 2 c' rfl).put 3 d' rfl
theorem psum4 {g : Nat → Int} {k : Nat} (hk : k ≤ 6) (h : ∀ j, j < k → -4 ≤ g j ∧ g j ≤ 4) : -24 ≤ psum g k ∧ psum g k ≤ 24 := by
  have := psum_in k h
  omega

end Go.Proofs.YtdikhdfpcipdbaaGreatDoor.sh
