/- A set of fans: a map whose keys are the fans' weights; its words and its laws at the operations. -/
import Derived.Test.YtdikhdfpcipdbaaGreatDoorSh
import Derived.Maps.RangeWalk
import Derived.Maps.OwnOps
import Derived.Maps.OwnSet
import Derived.DeepKeys4
namespace Go.Proofs.YtdikhdfpcipdbaaGreatDoor.sh
open Go.ChangeShapes Go.WideShapes Go.ChangeAt Go.RowKit
open Go.Proofs.YtdikhdfpcipdbaaGreatDoor.nums Go.Proofs.YtdikhdfpcipdbaaGreatDoor.mem
open Go.Maps (Keyed)
set_option linter.unusedVariables false

theorem laidOutP : laidOutB Tryz.prog = true := by kernel_rfl
theorem rowK : (284 : TypeId) < Tryz.prog.types.size := of_decide_eq_true (by kernel_rfl)
theorem wideK : (match Tryz.prog.underlying 284 with | some (.array _ _) | some (.struct _) => true | _ => false) = true := by kernel_rfl
theorem zeroE (w : World) : (zeroValue 4).run Tryz.prog w = .ok (.bool false) w := by kernel_rfl

/-- The key of the k-th fan, and what it reads as. -/
def keyV (k : Nat) : Value := .agg #[.int .i64 (tR k), .int .i64 (tP k)]
noncomputable def kf (k : Nat) : Lit := (keyOf Tryz.prog 284 (keyV k)).getD (.bool false)
theorem kf_some {k : Nat} (h : k < 6) : (keyOf Tryz.prog 284 (keyV k)).isSome = true := by
  rcases six h with rfl | rfl | rfl | rfl | rfl | rfl <;> kernel_rfl
theorem kf_is {k : Nat} (h : k < 6) : keyOf Tryz.prog 284 (keyV k) = some (kf k) := by
  obtain ⟨l, hl⟩ := Option.isSome_iff_exists.1 (kf_some h)
  unfold kf; rw [hl]; rfl
theorem key_inj {i j : Nat} (hi : i < 6) (hj : j < 6) (h : keyV i = keyV j) : i = j := by
  unfold keyV at h
  rcases six hi with rfl | rfl | rfl | rfl | rfl | rfl <;> rcases six hj with rfl | rfl | rfl | rfl | rfl | rfl <;> first | rfl | (exfalso; revert h; simp [tR, tP])
/-- How many of the six are in S. -/
def cnt6 (S : Nat → Bool) : Nat := (if S 0 then 1 else 0) + (if S 1 then 1 else 0) + (if S 2 then 1 else 0) + (if S 3 then 1 else 0) + (if S 4 then 1 else 0) + (if S 5 then 1 else 0)
/-- The map reads as the set S of fans. -/
structure Six (D : DataW Unit) (S : Nat → Bool) : Prop where
  has : ∀ k, k < 6 → Maps.has D (kf k) = S k
  at_ : ∀ k, k < 6 → D.atKey (kf k) (.lit (.bool false)) = .lit (.bool (S k))
  only : ∀ kl, Maps.has D kl = true → ∃ k, k < 6 ∧ kl = kf k
  size : Maps.size D = cnt6 S
theorem cnt6_congr {S S' : Nat → Bool} (h : ∀ k, k < 6 → S k = S' k) : cnt6 S = cnt6 S' := by
  unfold cnt6; rw [h 0 (by omega), h 1 (by omega), h 2 (by omega), h 3 (by omega), h 4 (by omega), h 5 (by omega)]
theorem Six.congr {D : DataW Unit} {S S' : Nat → Bool} (h : Six D S) (e : ∀ k, k < 6 → S k = S' k) : Six D S' :=
  ⟨fun k hk => (h.has k hk).trans (e k hk), fun k hk => by rw [← e k hk]; exact h.at_ k hk, h.only, h.size.trans (cnt6_congr e)⟩
theorem six_empty : Six (.map []) (fun _ => false) := by
  refine ⟨fun k hk => rfl, fun k hk => ?_, fun kl h => (by cases h), rfl⟩
  exact Maps.atKey_of_not_has rfl _
def ins (S : Nat → Bool) (k : Nat) : Nat → Bool := fun j => decide (j = k) || S j
def out (S : Nat → Bool) (k : Nat) : Nat → Bool := fun j => !decide (j = k) && S j
theorem cnt6_ins {S : Nat → Bool} {k : Nat} (hk : k < 6) (h : S k = false) : cnt6 (ins S k) = cnt6 S + 1 := by
  unfold cnt6 ins
  rcases six hk with rfl | rfl | rfl | rfl | rfl | rfl <;> simp [h] <;> omega
theorem cnt6_out {S : Nat → Bool} {k : Nat} (hk : k < 6) (h : S k = true) : cnt6 (out S k) + 1 = cnt6 S := by
  unfold cnt6 out
  rcases six hk with rfl | rfl | rfl | rfl | rfl | rfl <;> simp [h] <;> omega
/-- Block b is a map that reads as the set S of fans. -/
def IsSet (w : World) (b : Nat) (S : Nat → Bool) : Prop := ∃ D n, w.ownsMap Tryz.prog 284 (plainElem Tryz.prog 4) b n D ∧ n ≤ 12 ∧ Six D S
theorem IsSet.kept {w w' : World} {b : Nat} {S : Nat → Bool} {row : Option Nat} (h : IsSet w b S) (hg : w.grownBy w' row) (hn : some b ≠ row) : IsSet w' b S := by
  obtain ⟨D, n, ho, hn', hs⟩ := h
  exact ⟨D, n, ho.kept hg hn, hn', hs⟩
theorem IsSet.lt {w : World} {b : Nat} {S : Nat → Bool} (h : IsSet w b S) : b < w.heap.size := by obtain ⟨D, n, ho, _⟩ := h; exact ho.lt
theorem IsSet.ne {w : World} {b g : Nat} {S : Nat → Bool} {t : TypeId} {cs : Array Value} (h : IsSet w b S) (H : Has w g t cs) : b ≠ g := by
  obtain ⟨D, n, ⟨es, clock, hb, _⟩, _⟩ := h
  rintro rfl
  unfold Has at H
  rw [hb] at H; cases H
theorem IsSet.congr {w : World} {b : Nat} {S S' : Nat → Bool} (h : IsSet w b S) (e : ∀ k, k < 6 → S k = S' k) : IsSet w b S' := by
  obtain ⟨D, n, ho, hn, hs⟩ := h
  exact ⟨D, n, ho, hn, hs.congr e⟩

section
variable (w : World) {ops : Array Oper} {rest : List Oper} {o : Oper} {a : Act} {Q : Exit → Act → World → Prop}

/-- 'len(m)'. -/
theorem wpList_count (hg : o.guard = none) (m : Operand) (hop : o.op = Op.call { callee := Callee.builtin Builtin.len, args := #[m], argTypes := #[278] }) (b : Nat) (S : Nat → Bool) (hm : a.eval m = .map (some b)) (hs : IsSet w b S)
    (hK : wpList Tryz.prog ops Q rest (a.put o.dst (.int .i64 (cnt6 S : Nat))) w) : wpList Tryz.prog ops Q (o :: rest) a w := by
  obtain ⟨D, n, hown, _, hsix⟩ := hs
  exact wpList_len_own w hg m 278 hop 284 4 Tryz.underlying278 _ b n D hm hown (by rw [hsix.size]; exact hK)

/-- 'clear(m)'. -/
theorem wpList_clear (hg : o.guard = none) (m : Operand) (hop : o.op = Op.call { callee := Callee.builtin Builtin.clear, args := #[m], argTypes := #[278] }) (b n : Nat) (D : DataW Unit) (hm : a.eval m = .map (some b))
    (hown : w.ownsMap Tryz.prog 284 (plainElem Tryz.prog 4) b n D)
    (hK : ∀ w', IsSet w' b (fun _ => false) → w.grownBy w' (some b) → wpList Tryz.prog ops Q rest (a.put o.dst (.tuple #[])) w') : wpList Tryz.prog ops Q (o :: rest) a w := by
  refine wpList_plain hg fun K' hK' => ?_
  obtain ⟨es, clock, hb, F, _, _⟩ := hown
  have hrun : (Builtin.clear_ #[278] o.type #[.map (some b)]).run Tryz.prog w = .ok (.tuple #[]) (Go.ChangeMaps.setBlock w b (.map #[] clock)) := by
    simp [Builtin.clear_, run_underlying Tryz.underlying278, MapKept.run_getObj_map hb, MapKept.run_setObj_map _ hb, Result.andThen, Go.ChangeMaps.setBlock]
  unfold Oper.wp
  simp [execOp, hop, resolve, invoke, builtin, hm, hrun, Result.andThen]
  refine hK' _ _ (hK _ ⟨.map [], 0, ⟨#[], clock, Go.ChangeMaps.heap_setBlock_same hb _, ⟨by simp, MapKept.stamped_empty clock, by simp⟩, by simp, rfl⟩, by omega, six_empty⟩ ⟨rfl, rfl, rfl, by simp [Go.ChangeMaps.setBlock], fun i _ hi => Go.ChangeMaps.heap_setBlock_other hb _ (fun e => hi (by rw [e]))⟩)

/-- A walk over the set under way: the fans of L are still to come. -/
def Going (w : World) (b r : Nat) (S : Nat → Bool) (L : Nat → Bool) (cnt : Nat) : Prop :=
  ∃ D n left, w.ranges Tryz.prog 284 (plainElem Tryz.prog 4) b r n D left cnt ∧ n ≤ 12 ∧ Six D S ∧ (∀ k, k < 6 → left (kf k) = L k) ∧ (∀ kl, left kl = true → ∃ k, k < 6 ∧ kl = kf k) ∧ ∀ k, k < 6 → L k = true → S k = true
theorem Going.kept {w w' : World} {b r cnt : Nat} {S L : Nat → Bool} {row : Option Nat} (h : Going w b r S L cnt) (hg : w.grownBy w' row) (h1 : some b ≠ row) (h2 : some r ≠ row) : Going w' b r S L cnt := by
  obtain ⟨D, n, left, hr, hn, hs, hl, ho⟩ := h
  exact ⟨D, n, left, hr.kept hg h1 h2, hn, hs, hl, ho⟩
theorem Going.left {w : World} {b r cnt : Nat} {S L : Nat → Bool} (h : Going w b r S L cnt) : w.rangeLeft b r = cnt := by
  obtain ⟨D, n, left, hr, hn, hs, hl, ho⟩ := h
  exact hr.left_eq
theorem Going.set {w : World} {b r cnt : Nat} {S L : Nat → Bool} (h : Going w b r S L cnt) : IsSet w b S := by
  obtain ⟨D, n, left, hr, hn, hs, hl, ho⟩ := h
  exact ⟨D, n, hr.owns, hn, hs⟩
theorem Going.lt {w : World} {b r cnt : Nat} {S L : Nat → Bool} (h : Going w b r S L cnt) : r < w.heap.size := by
  obtain ⟨D, n, left, hr, hn, hs, hl, ho⟩ := h
  exact hr.lt

theorem Going.ner {w : World} {b r cnt g : Nat} {S L : Nat → Bool} {t : TypeId} {cs : Array Value} (h : Going w b r S L cnt) (H : Has w g t cs) : r ≠ g := by
  obtain ⟨D, n, left, ⟨es, clock, since, seen, c0, _, _, _, _, hr, _⟩, _⟩ := h
  rintro rfl
  unfold Has at H
  rw [hr] at H; cases H

end
end Go.Proofs.YtdikhdfpcipdbaaGreatDoor.sh
