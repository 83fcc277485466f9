/- A set of fans: a map whose keys are the fans' weights; its words and its laws at the operations. -/
import Derived.Test.YtekglhikojondaaDoorSh
import Derived.Maps.RangeWalk
import Derived.Maps.OwnOps
import Derived.Maps.OwnSet
import Derived.DeepKeys4
namespace Go.Proofs.YtekglhikojondaaDoor.sh
open Go.ChangeShapes Go.WideShapes Go.ChangeAt Go.RowKit
open Go.Proofs.YtekglhikojondaaDoor.nums Go.Proofs.YtekglhikojondaaDoor.mem
open Go.Maps (Keyed)
set_option linter.unusedVariables false

theorem laidOutP : laidOutB Tryd.prog = true := by kernel_rfl
theorem rowK : (57 : TypeId) < Tryd.prog.types.size := of_decide_eq_true (by kernel_rfl)
theorem wideK : (match Tryd.prog.underlying 57 with | some (.array _ _) | some (.struct _) => true | _ => false) = true := by kernel_rfl
theorem law : Keyed Tryd.prog 57 := Keyed.of_law (deep_law_laid laidOutP (m := 3) (by omega) rowK (by kernel_rfl) wideK)
theorem zeroE (w : World) : (zeroValue 4).run Tryd.prog w = .ok (.bool false) w := by kernel_rfl

/-- The key of the k-th fan, and what it reads as. -/
def keyV (k : Nat) : Value := .agg #[.int .i64 (tR k), .int .i64 (tP k)]
noncomputable def kf (k : Nat) : Lit := (keyOf Tryd.prog 57 (keyV k)).getD (.bool false)
theorem kf_some {k : Nat} (h : k < 6) : (keyOf Tryd.prog 57 (keyV k)).isSome = true := by
  rcases six h with rfl | rfl | rfl | rfl | rfl | rfl <;> kernel_rfl
theorem kf_is {k : Nat} (h : k < 6) : keyOf Tryd.prog 57 (keyV k) = some (kf k) := by
  obtain ⟨l, hl⟩ := Option.isSome_iff_exists.1 (kf_some h)
  unfold kf; rw [hl]; rfl
theorem key_inj {i j : Nat} (hi : i < 6) (hj : j < 6) (h : keyV i = keyV j) : i = j := by
  unfold keyV at h
  rcases six hi with rfl | rfl | rfl | rfl | rfl | rfl <;> rcases six hj with rfl | rfl | rfl | rfl | rfl | rfl <;> first | rfl | (exfalso; revert h; simp [tR, tP])
theorem kf_inj {i j : Nat} (hi : i < 6) (hj : j < 6) (h : kf i = kf j) : i = j := key_inj hi hj (law.inj (kf_is hi) (h ▸ kf_is hj))
theorem kf_key {k : Nat} (h : k < 6) : WideAt.IsKeyLit (kf k) := law.key (kf_is h)
theorem kf_of {key : Value} {kl : Lit} {k : Nat} (hk : k < 6) (h : keyOf Tryd.prog 57 key = some kl) (e : kl = kf k) : key = keyV k := law.inj h (e ▸ kf_is hk)

/-- How many of the six are in S. -/
def cnt6 (S : Nat → Bool) : Nat := (if S 0 then 1 else 0) + (if S 1 then 1 else 0) + (if S 2 then 1 else 0) + (if S 3 then 1 else 0) + (if S 4 then 1 else 0) + (if S 5 then 1 else 0)
/-- The map reads as the set S of fans. -/
structure Six (D : DataW Unit) (S : Nat → Bool) : Prop where
  has : ∀ k, k < 6 → Maps.has D (kf k) = S k
  at_ : ∀ k, k < 6 → D.atKey (kf k) (.lit (.bool false)) = .lit (.bool (S k))
  only : ∀ kl, Maps.has D kl = true → ∃ k, k < 6 ∧ kl = kf k
  size : Maps.size D = cnt6 S
theorem cnt6_congr {S S' : Nat → Bool} (h : ∀ k, k < 6 → S k = S' k) : cnt6 S = cnt6 S' := by
  unfold cnt6; rw [h 0 (by omega), h 1 (by omega), h 2 (by omega), h 3 (by omega), h 4 (by omega), h 5 (by omega)]
theorem Six.congr {D : DataW Unit} {S S' : Nat → Bool} (h : Six D S) (e : ∀ k, k < 6 → S k = S' k) : Six D S' :=
  ⟨fun k hk => (h.has k hk).trans (e k hk), fun k hk => by rw [← e k hk]; exact h.at_ k hk, h.only, h.size.trans (cnt6_congr e)⟩
theorem six_empty : Six (.map []) (fun _ => false) := by
  refine ⟨fun k hk => rfl, fun k hk => ?_, fun kl h => (by cases h), rfl⟩
  exact Maps.atKey_of_not_has rfl _
def ins (S : Nat → Bool) (k : Nat) : Nat → Bool := fun j => decide (j = k) || S j
def out (S : Nat → Bool) (k : Nat) : Nat → Bool := fun j => !decide (j = k) && S j
theorem cnt6_ins {S : Nat → Bool} {k : Nat} (hk : k < 6) (h : S k = false) : cnt6 (ins S k) = cnt6 S + 1 := by
  unfold cnt6 ins
  rcases six hk with rfl | rfl | rfl | rfl | rfl | rfl <;> simp [h] <;> omega
theorem cnt6_out {S : Nat → Bool} {k : Nat} (hk : k < 6) (h : S k = true) : cnt6 (out S k) + 1 = cnt6 S := by
  unfold cnt6 out
  rcases six hk with rfl | rfl | rfl | rfl | rfl | rfl <;> simp [h] <;> omega
theorem Six.put {D : DataW Unit} {S : Nat → Bool} (h : Six D S) (T : Maps.Tidy D) {k : Nat} (hk : k < 6) (hn : S k = false) : Six (D.put (kf k) (.lit (.bool true))) (ins S k) := by
  refine ⟨fun j hj => ?_, fun j hj => ?_, fun kl hkl => ?_, ?_⟩
  · by_cases e : j = k
    · subst e; rw [Maps.has_put_same T.isMap (kf_key hj)]; simp [ins]
    · rw [Maps.has_put_other (fun e2 => e (kf_inj hj hk e2)), h.has j hj]; simp [ins, e]
  · by_cases e : j = k
    · subst e; rw [Maps.atKey_put_same T.isMap (kf_key hj)]; simp [ins]
    · rw [Maps.atKey_put_other (fun e2 => e (kf_inj hj hk e2)), h.at_ j hj]; simp [ins, e]
  · by_cases e : kl = kf k
    · exact ⟨k, hk, e⟩
    · rw [Maps.has_put_other e] at hkl; exact h.only kl hkl
  · rw [Maps.size_put T, h.has k hk, hn, cnt6_ins hk hn, h.size]; rfl
theorem Six.del {D : DataW Unit} {S : Nat → Bool} (h : Six D S) (T : Maps.Tidy D) {k : Nat} (hk : k < 6) (hy : S k = true) : Six (D.del (kf k)) (out S k) := by
  refine ⟨fun j hj => ?_, fun j hj => ?_, fun kl hkl => ?_, ?_⟩
  · by_cases e : j = k
    · subst e; rw [Maps.has_del_same]; simp [out]
    · rw [Maps.has_del_other (fun e2 => e (kf_inj hj hk e2)), h.has j hj]; simp [out, e]
  · by_cases e : j = k
    · subst e; rw [Maps.atKey_del_same]; simp [out]
    · rw [Maps.atKey_del_other (fun e2 => e (kf_inj hj hk e2)), h.at_ j hj]; simp [out, e]
  · by_cases e : kl = kf k
    · exact ⟨k, hk, e⟩
    · rw [Maps.has_del_other e] at hkl; exact h.only kl hkl
  · have := Maps.size_del T (k := kf k)
    rw [h.has k hk, hy, h.size, ← cnt6_out hk hy] at this
    simpa using this

/-- Block b is a map that reads as the set S of fans. -/
def IsSet (w : World) (b : Nat) (S : Nat → Bool) : Prop := ∃ D n, w.ownsMap Tryd.prog 57 (plainElem Tryd.prog 4) b n D ∧ n ≤ 12 ∧ Six D S
theorem IsSet.kept {w w' : World} {b : Nat} {S : Nat → Bool} {row : Option Nat} (h : IsSet w b S) (hg : w.grownBy w' row) (hn : some b ≠ row) : IsSet w' b S := by
  obtain ⟨D, n, ho, hn', hs⟩ := h
  exact ⟨D, n, ho.kept hg hn, hn', hs⟩
theorem IsSet.lt {w : World} {b : Nat} {S : Nat → Bool} (h : IsSet w b S) : b < w.heap.size := by obtain ⟨D, n, ho, _⟩ := h; exact ho.lt
theorem IsSet.ne {w : World} {b g : Nat} {S : Nat → Bool} {t : TypeId} {cs : Array Value} (h : IsSet w b S) (H : Has w g t cs) : b ≠ g := by
  obtain ⟨D, n, ⟨es, clock, hb, _⟩, _⟩ := h
  rintro rfl
  unfold Has at H
  rw [hb] at H; cases H
theorem IsSet.congr {w : World} {b : Nat} {S S' : Nat → Bool} (h : IsSet w b S) (e : ∀ k, k < 6 → S k = S' k) : IsSet w b S' := by
  obtain ⟨D, n, ho, hn, hs⟩ := h
  exact ⟨D, n, ho, hn, hs.congr e⟩

section
variable (w : World) {ops : Array Oper} {rest : List Oper} {o : Oper} {a : Act} {Q : Exit → Act → World → Prop}

/-- 'm[key of fan k]'. -/
theorem wpList_look (hg : o.guard = none) (m x : Operand) (hop : o.op = Op.lookup 53 m x false) (b : Nat) (S : Nat → Bool) (hm : a.eval m = .map (some b)) (hs : IsSet w b S) (k : Nat) (hk : k < 6) (hx : a.eval x = keyV k) (y : Bool) (hy : S k = y)
    (hK : wpList Tryd.prog ops Q rest (a.put o.dst (.bool y)) w) : wpList Tryd.prog ops Q (o :: rest) a w := by
  subst hy
  obtain ⟨D, n, hown, _, hsix⟩ := hs
  refine wpList_plain hg fun K' hK' => ?_
  obtain ⟨v, ps, hrun, hv⟩ := hown.lookup law Tryd.underlying53 (zeroE w) (plainElem_bool (H := Unit) Tryd.underlying4 false) (kf_is hk)
  rw [hsix.at_ k hk] at hv
  have ev : v = .bool (S k) := by
    cases v <;> simp [plainElem, Tryd.underlying4] at hv
    rw [hv.1]
  subst ev
  unfold Oper.wp
  simp [execOp, hop, hm, hx, hrun, Result.andThen]
  exact hK' _ _ hK

/-- 'len(m)'. -/
theorem wpList_count (hg : o.guard = none) (m : Operand) (hop : o.op = Op.call { callee := Callee.builtin Builtin.len, args := #[m], argTypes := #[53] }) (b : Nat) (S : Nat → Bool) (hm : a.eval m = .map (some b)) (hs : IsSet w b S)
    (hK : wpList Tryd.prog ops Q rest (a.put o.dst (.int .i64 (cnt6 S : Nat))) w) : wpList Tryd.prog ops Q (o :: rest) a w := by
  obtain ⟨D, n, hown, _, hsix⟩ := hs
  exact wpList_len_own w hg m 53 hop 57 4 Tryd.underlying53 _ b n D hm hown (by rw [hsix.size]; exact hK)

/-- 'm[key of fan k] = true', where it is not there. -/
theorem wpList_ins (hg : o.guard = none) (m x v : Operand) (hop : o.op = Op.mapUpdate 53 m x v) (b n : Nat) (D : DataW Unit) (S : Nat → Bool) (hm : a.eval m = .map (some b)) (hv : a.eval v = .bool true)
    (hown : w.ownsMap Tryd.prog 57 (plainElem Tryd.prog 4) b n D) (hn : n ≤ 11) (hsix : Six D S) (k : Nat) (hk : k < 6) (hx : a.eval x = keyV k) (hno : S k = false)
    (hK : ∀ w' D', w'.ownsMap Tryd.prog 57 (plainElem Tryd.prog 4) b (n + 1) D' → Six D' (ins S k) → w.grownBy w' (some b) → wpList Tryd.prog ops Q rest (a.put o.dst undef) w') : wpList Tryd.prog ops Q (o :: rest) a w :=
  wpList_mapUpdate_own w hg m x v 53 hop 57 4 law Tryd.underlying53 _ b n D hm hown (by unfold maxLen; omega) _ _ (kf k) hx hv (kf_is hk) _ [] (plainElem_bool Tryd.underlying4 true)
    (fun w' h1 h2 => hK w' _ h1 (hsix.put (hown.tidy law) hk hno) h2)

/-- 'delete(m, key of fan k)', where it is there. -/
theorem wpList_out (hg : o.guard = none) (m x : Operand) (hop : o.op = Op.call { callee := Callee.builtin Builtin.delete, args := #[m, x], argTypes := #[53, 57] }) (b n : Nat) (D : DataW Unit) (S : Nat → Bool) (hm : a.eval m = .map (some b))
    (hown : w.ownsMap Tryd.prog 57 (plainElem Tryd.prog 4) b n D) (hsix : Six D S) (k : Nat) (hk : k < 6) (hx : a.eval x = keyV k) (hyes : S k = true)
    (hK : ∀ w' D', w'.ownsMap Tryd.prog 57 (plainElem Tryd.prog 4) b n D' → Six D' (sh.out S k) → w.grownBy w' (some b) → wpList Tryd.prog ops Q rest (a.put o.dst (.tuple #[])) w') : wpList Tryd.prog ops Q (o :: rest) a w :=
  wpList_delete_own w hg m x 53 57 hop 4 law Tryd.underlying53 _ b n D hm hown _ (kf k) hx (kf_is hk)
    (fun w' h1 h2 => hK w' _ h1 (hsix.del (hown.tidy law) hk hyes) h2.grown)

/-- 'clear(m)'. -/
theorem wpList_clear (hg : o.guard = none) (m : Operand) (hop : o.op = Op.call { callee := Callee.builtin Builtin.clear, args := #[m], argTypes := #[53] }) (b n : Nat) (D : DataW Unit) (hm : a.eval m = .map (some b))
    (hown : w.ownsMap Tryd.prog 57 (plainElem Tryd.prog 4) b n D)
    (hK : ∀ w', IsSet w' b (fun _ => false) → w.grownBy w' (some b) → wpList Tryd.prog ops Q rest (a.put o.dst (.tuple #[])) w') : wpList Tryd.prog ops Q (o :: rest) a w := by
  refine wpList_plain hg fun K' hK' => ?_
  obtain ⟨es, clock, hb, F, _, _⟩ := hown
  have hrun : (Builtin.clear_ #[53] o.type #[.map (some b)]).run Tryd.prog w = .ok (.tuple #[]) (Go.ChangeMaps.setBlock w b (.map #[] clock)) := by
    simp [Builtin.clear_, run_underlying Tryd.underlying53, MapKept.run_getObj_map hb, MapKept.run_setObj_map _ hb, Result.andThen, Go.ChangeMaps.setBlock]
  unfold Oper.wp
  simp [execOp, hop, resolve, invoke, builtin, hm, hrun, Result.andThen]
  refine hK' _ _ (hK _ ⟨.map [], 0, ⟨#[], clock, Go.ChangeMaps.heap_setBlock_same hb _, ⟨by simp, MapKept.stamped_empty clock, by simp⟩, by simp, rfl⟩, by omega, six_empty⟩ ⟨rfl, rfl, rfl, by simp [Go.ChangeMaps.setBlock], fun i _ hi => Go.ChangeMaps.heap_setBlock_other hb _ (fun e => hi (by rw [e]))⟩)

/-- A walk over the set under way: the fans of L are still to come. -/
def Going (w : World) (b r : Nat) (S : Nat → Bool) (L : Nat → Bool) (cnt : Nat) : Prop :=
  ∃ D n left, w.ranges Tryd.prog 57 (plainElem Tryd.prog 4) b r n D left cnt ∧ n ≤ 12 ∧ Six D S ∧ (∀ k, k < 6 → left (kf k) = L k) ∧ (∀ kl, left kl = true → ∃ k, k < 6 ∧ kl = kf k) ∧ ∀ k, k < 6 → L k = true → S k = true
theorem Going.kept {w w' : World} {b r cnt : Nat} {S L : Nat → Bool} {row : Option Nat} (h : Going w b r S L cnt) (hg : w.grownBy w' row) (h1 : some b ≠ row) (h2 : some r ≠ row) : Going w' b r S L cnt := by
  obtain ⟨D, n, left, hr, hn, hs, hl, ho⟩ := h
  exact ⟨D, n, left, hr.kept hg h1 h2, hn, hs, hl, ho⟩
theorem Going.left {w : World} {b r cnt : Nat} {S L : Nat → Bool} (h : Going w b r S L cnt) : w.rangeLeft b r = cnt := by
  obtain ⟨D, n, left, hr, hn, hs, hl, ho⟩ := h
  exact hr.left_eq
theorem Going.set {w : World} {b r cnt : Nat} {S L : Nat → Bool} (h : Going w b r S L cnt) : IsSet w b S := by
  obtain ⟨D, n, left, hr, hn, hs, hl, ho⟩ := h
  exact ⟨D, n, hr.owns, hn, hs⟩
theorem Going.lt {w : World} {b r cnt : Nat} {S L : Nat → Bool} (h : Going w b r S L cnt) : r < w.heap.size := by
  obtain ⟨D, n, left, hr, hn, hs, hl, ho⟩ := h
  exact hr.lt

theorem Going.ner {w : World} {b r cnt g : Nat} {S L : Nat → Bool} {t : TypeId} {cs : Array Value} (h : Going w b r S L cnt) (H : Has w g t cs) : r ≠ g := by
  obtain ⟨D, n, left, ⟨es, clock, since, seen, c0, _, _, _, _, hr, _⟩, _⟩ := h
  rintro rfl
  unfold Has at H
  rw [hr] at H; cases H

/-- 'range m'. -/
theorem wpList_go (hg : o.guard = none) (m : Operand) (hop : o.op = Op.range 53 m) (b : Nat) (S : Nat → Bool) (hm : a.eval m = .map (some b)) (hs : IsSet w b S)
    (hK : ∀ w' cnt, Going w' b w.heap.size S S cnt → w.grownBy w' none → w'.heap.size = w.heap.size + 1 → wpList Tryd.prog ops Q rest (a.put o.dst (.pointer (some ⟨w.heap.size, 0, none⟩))) w') : wpList Tryd.prog ops Q (o :: rest) a w := by
  obtain ⟨D, n, hown, hn, hsix⟩ := hs
  exact wpList_range_own w hg m 53 hop 57 4 law Tryd.underlying53 _ b n D hm hown
    (fun w' h1 h2 h3 => hK w' _ ⟨D, n, _, h1, hn, hsix, hsix.has, hsix.only, fun _ _ h => h⟩ h2 h3)

/-- The step. -/
theorem wpList_step (hg : o.guard = none) (it : Operand) (hop : o.op = Op.next it false) (b r cnt : Nat) (S L : Nat → Bool) (hit : a.eval it = .pointer (some ⟨r, 0, none⟩)) (h : Going w b r S L cnt)
    (hDone : (∀ k, k < 6 → L k = false) → wpList Tryd.prog ops Q rest (a.put o.dst (.tuple #[.bool false])) w)
    (hMore : ∀ (k : Nat) (w' : World) (cnt' : Nat), k < 6 → L k = true → S k = true → Going w' b r S (sh.out L k) cnt' → cnt' < cnt → w.grownBy w' (some r) → w'.heap.size = w.heap.size →
      (Instr.entry (.pointer (some ⟨r, 0, none⟩))).run Tryd.prog w' = .ok (.tuple #[.agg #[.int .i64 (tR k), .int .i64 (tP k)], .bool true]) w' → wpList Tryd.prog ops Q rest (a.put o.dst (.tuple #[.bool true, .agg #[.int .i64 (tR k), .int .i64 (tP k)], .bool true])) w') :
    wpList Tryd.prog ops Q (o :: rest) a w := by
  obtain ⟨D, n, left, hr, hn, hsix, hl, ho, hLS⟩ := h
  refine wpList_next_ranges w hg it hop 57 law _ id Value.bool (fun key kl _ => ⟨key, rfl⟩) (fun v y hv => ?_) b r n D left cnt hit hr (fun _ h2 => hDone (fun k hk => by rw [← hl k hk]; exact h2 _)) ?_
  · cases v <;> simp [plainElem, Tryd.underlying4] at hv
    exact ⟨_, rfl⟩
  · intro x c kl y w' cnt' hkey hlk hv hat hrg hlt hgr hsz hen
    obtain ⟨k, hk, rfl⟩ := ho kl hlk
    obtain rfl : x = keyV k := kf_of hk hkey rfl
    have hLk : L k = true := by rw [← hl k hk]; exact hlk
    have hSk := hLS k hk hLk
    obtain rfl : c = true := by
      have h1 := hat (.lit (.bool false))
      rw [hsix.at_ k hk, hSk] at h1
      rw [plainElem_bool Tryd.underlying4] at hv
      obtain rfl := Option.some.inj hv
      simpa using h1.symm
    refine hMore k w' cnt' hk hLk hSk ⟨D, n, _, hrg, hn, hsix, fun j hj => ?_, fun kl h => ho kl (by simp at h; exact h.1), fun j hj h => hLS j hj (by unfold sh.out at h; simp at h; exact h.2)⟩ hlt hgr hsz hen
    show (left (kf j) && !(kf j).sameKey (kf k)) = sh.out L k j
    unfold sh.out
    rw [hl j hj]
    by_cases e : j = k
    · subst e; rw [WideAt.sameKey_self (kf_key hj)]; simp
    · rw [Maps.sameKey_ne (fun e2 => e (kf_inj hj hk e2))]; simp [e]
end
end Go.Proofs.YtekglhikojondaaDoor.sh
