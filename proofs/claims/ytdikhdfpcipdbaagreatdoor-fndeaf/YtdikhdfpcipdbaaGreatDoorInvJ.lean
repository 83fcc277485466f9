/- As InvTail, over whatever is known of the world, by the operations that have come up. -/
import Derived.Test.YtdikhdfpcipdbaaGreatDoorInvTail
namespace Go.Proofs.YtdikhdfpcipdbaaGreatDoor.iv
open Go
open Go.Proofs.YtdikhdfpcipdbaaGreatDoor.mem
variable {P : Program}

/-- Where the region stands: what the operations that have come up have left. -/
structure InvJ (d : Nat → Nat) (n : Nat) (Φ : Nat → Value → World → Prop) (J : (Nat → Bool) → World → Prop) (a0 : Act) (ls : Array Bool) (a : Act) (w : World) : Prop where
  gr : J (fun j => ls.getD j false) w
  sz : a.tmps.size = a0.tmps.size
  df : a.defers = a0.defers
  old : ∀ k, (∀ j, j < n → d j ≠ k) → a.tmps[k]? = a0.tmps[k]?
  new : ∀ j, j < n → ls.getD j false = true → ∃ v, a.tmps[d j]? = some v ∧ Φ j v w

theorem region_invJ {id : Nat} {Q : Exit → Act → World → Prop} {a0 : Act} {w0 : World} {l : List Oper} (n : Nat) (d : Nat → Nat) (Φ : Nat → Value → World → Prop) (J : (Nat → Bool) → World → Prop)
    (hm : P.follows .mixedOrders = true) (hs0 : Region.sinkB .any l.toArray n = true) (hc0 : Region.chainB .any l.toArray n = true) (hn : n < l.toArray.size) (hl0 : lowB l.toArray n = true)
    (hC : Region.seqB .any l.toArray (l.length - n) n (canon n l.toArray.size) = true)
    (hd : ∀ i j, i < n → j < n → d i = d j → i = j) (hlt : ∀ i, i < n → d i < a0.tmps.size)
    (hJ0 : J (fun _ => false) w0.drew)
    (hs : ∀ i o a w D, i < n → l[i]? = some o → J D w → D i = false → a.tmps.size = a0.tmps.size → a.defers = a0.defers → (∀ k, (∀ j, j < n → d j ≠ k) → a.tmps[k]? = a0.tmps[k]?) →
      (∀ e ∈ o.after, Region.binds .any e = true → ∃ v, a.tmps[d e.on]? = some v ∧ Φ e.on v w) →
      wpList P l.toArray (fun x a' w' => x = .normal ∧ ∃ v, a' = a.put (some (d i)) v ∧ J (fun j => if j = i then true else D j) w' ∧ Φ i v w' ∧ ∀ j u, Φ j u w → Φ j u w') [o] a w)
    (ht : ∀ a w D, J D w → (∀ j, j < n → D j = true) → a.tmps.size = a0.tmps.size → a.defers = a0.defers → (∀ k, (∀ j, j < n → d j ≠ k) → a.tmps[k]? = a0.tmps[k]?) →
      (∀ j, j < n → ∃ v, a.tmps[d j]? = some v ∧ Φ j v w) → wpList P l.toArray Q (l.drop n) a w) : (Code.region id l.toArray true).wp P Q a0 w0 := by
  have hlow : ∀ i o, i < n → l.toArray[i]? = some o → ∀ e ∈ o.after, e.on < i := by
    intro i o hi ho e he
    have h := List.all_eq_true.1 hl0 i (List.mem_range.2 hi)
    simp only [ho] at h
    have := Array.all_eq_true'.1 h e he
    simpa using this
  have key : ∀ (f : Nat) (ls : Array Bool) (a : Act) (w : World), HeadInv .any l.toArray n ls → (List.range n).countP (fun j => !ls.getD j false) = f → InvJ d n Φ J a0 ls a w →
      wpAny P .any l.toArray Q (f + (l.length - n)) ls a w := by
    intro f
    induction f with
    | zero =>
      intro ls a w inv hf I
      have hall : ∀ j, j < n → ls.getD j false = true := fun j hj => by
        have := List.countP_eq_zero.1 hf j (List.mem_range.2 hj)
        simpa using this
      have hls : ls = canon n l.toArray.size := by
        apply Array.ext
        · rw [inv.size]; simp [canon]
        · intro k h1 h2
          have e2 : (canon n l.toArray.size)[k] = decide (k < n) := by simp [canon]
          rw [e2]
          by_cases hk : k < n
          · have := hall k hk
            simp [h1] at this
            rw [this, decide_eq_true hk]
          · have := inv.tail k (by omega) (by rw [← inv.size]; exact h1)
            simp [h1] at this
            rw [this, decide_eq_false hk]
      rw [Nat.zero_add]
      have hT := ht a w _ I.gr (fun j hj => hall j hj) I.sz I.df I.old (fun j hj => I.new j hj (hall j hj))
      have hdl : (l.drop n).length = l.length - n := by simp
      have := wpAny_of_seq (md := .any) (P := P) (ops := l.toArray) (Q' := Q) (l.drop n) n ls a w (fun j => by simp) (by rw [hdl, hls]; exact hC) hT
      rwa [hdl] at this
    | succ f ih =>
      intro ls a w inv hf I
      rw [Nat.succ_add]
      -- one of the heads has not come up: the least of them may
      have hex : ∃ j, j < n ∧ ls.getD j false = false := by
        have h0 : 0 < (List.range n).countP (fun j => !ls.getD j false) := by omega
        obtain ⟨j, hj, h⟩ := List.countP_pos_iff.1 h0
        exact ⟨j, List.mem_range.1 hj, by simpa using h⟩
      have hleast : ∃ j, j < n ∧ ls.getD j false = false ∧ ∀ i, i < j → ls.getD i false = true := by
        obtain ⟨j, hj, h⟩ := hex
        induction j using Nat.strongRecOn with
        | _ j ihj =>
          by_cases hx : ∃ i, i < j ∧ ls.getD i false = false
          · obtain ⟨i, hi, h'⟩ := hx
            exact ihj i hi (by omega) h'
          · exact ⟨j, hj, h, fun i hi => by
              cases hh : ls.getD i false with
              | true => rfl
              | false => exact absurd ⟨i, hi, hh⟩ hx⟩
      obtain ⟨j0, hj0, hu0, hbelow⟩ := hleast
      have hun : ls.getD j0 true = false := getD_in (by rw [inv.size]; omega) hu0
      have hready : j0 ∈ Region.ready .any l.toArray ls := by
        refine mem_ready.2 ⟨hun, ?_⟩
        have hsz : j0 < l.toArray.size := by omega
        refine ⟨l.toArray[j0], Array.getElem?_eq_getElem hsz, fun e he _ => hbelow _ (hlow j0 _ hj0 (Array.getElem?_eq_getElem hsz) e he)⟩
      refine ⟨fun h => (by rw [h] at hready; cases hready), fun i hi => ?_⟩
      have hin : i < n := Nat.lt_of_not_le fun h => tail_waits hs0 hc0 hn inv _ j0 rfl hj0 hun i h hi
      obtain ⟨hiu, o, ho, hall⟩ := mem_ready.1 hi
      have hol : l[i]? = some o := by simpa using ho
      have hdeps : ∀ e ∈ o.after, Region.binds .any e = true → ∃ v, a.tmps[d e.on]? = some v ∧ Φ e.on v w := fun e he hb =>
        I.new e.on (Nat.lt_trans (hlow i o hin ho e he) hin) (hall e he hb)
      have H := hs i o a w _ hin hol I.gr (getD_both hiu) I.sz I.df I.old hdeps
      refine wpOp_mono (fun a' w' hK => ?_) (wpOp_of_list ho H)
      obtain ⟨v, rfl, hg, hv, hst⟩ := hK
      refine ih _ _ _ (inv.set hi hin) ?_ ?_
      · -- one head less
        have hi2 : ls.getD i false = false := getD_both hiu
        have e1 : (List.range n).countP (fun j => !ls.getD j false) = (List.range n).countP (fun j => !(ls.setIfInBounds i true).getD j false) + 1 := by
          have hil : i < ls.size := by rw [inv.size]; omega
          have hnew : (ls.setIfInBounds i true).getD i false = true := by simp [hil]
          have key2 : ∀ m, m ≤ n → (List.range m).countP (fun j => !ls.getD j false) = (List.range m).countP (fun j => !(ls.setIfInBounds i true).getD j false) + (if i < m then 1 else 0) := by
            intro m
            induction m with
            | zero => intro _; simp
            | succ m ihm =>
              intro hm'
              rw [List.range_succ, List.countP_append, List.countP_append, ihm (by omega)]
              by_cases him : i = m
              · subst him
                have a1 : List.countP (fun j => !ls.getD j false) [i] = 1 := by rw [List.countP_cons, hi2]; rfl
                have a2 : List.countP (fun j => !(ls.setIfInBounds i true).getD j false) [i] = 0 := by rw [List.countP_cons, hnew]; rfl
                rw [a1, a2, if_neg (Nat.lt_irrefl _), if_pos (Nat.lt_succ_self _)]
              · have : (ls.setIfInBounds i true).getD m false = ls.getD m false := getD_set_ne false him
                simp only [List.countP_cons, List.countP_nil, this]
                by_cases h3 : i < m
                · have h4 : i < m + 1 := by omega
                  rw [if_pos h3, if_pos h4]; omega
                · have h4 : ¬ i < m + 1 := by omega
                  rw [if_neg h3, if_neg h4]; omega
          have := key2 n (Nat.le_refl _)
          rwa [if_pos hin] at this
        omega
      · have hdi : d i < a.tmps.size := by rw [I.sz]; exact hlt i hin
        have hil : i < ls.size := by rw [inv.size]; omega
        have hJ : (fun j => if j = i then true else ls.getD j false) = fun j => (ls.setIfInBounds i true).getD j false := funext fun j => by
          by_cases e : j = i
          · subst e; simp [hil]
          · rw [if_neg e, getD_set_ne false (Ne.symm e)]
        refine ⟨by rw [← hJ]; exact hg, by simpa [Act.put] using I.sz, by simpa [Act.put] using I.df, fun k hk => ?_, fun j hj hl => ?_⟩
        · have hne : d i ≠ k := hk i hin
          show (a.tmps.setIfInBounds (d i) v)[k]? = _
          rw [Array.getElem?_setIfInBounds_ne hne]; exact I.old k hk
        · by_cases hji : j = i
          · subst hji
            exact ⟨v, Array.getElem?_setIfInBounds_self_of_lt hdi, hv⟩
          · rw [getD_set_ne false (Ne.symm hji)] at hl
            obtain ⟨u, hu, hp⟩ := I.new j hj hl
            refine ⟨u, ?_, hst _ _ hp⟩
            have hne : d i ≠ d j := fun e => hji (hd i j hin hj e).symm
            show (a.tmps.setIfInBounds (d i) v)[d j]? = _
            rw [Array.getElem?_setIfInBounds_ne hne]; exact hu
  refine wp_region_any hm ?_
  have inv0 : HeadInv .any l.toArray n (Array.replicate l.toArray.size false) :=
    ⟨by simp, fun j oj _ hl => (by rw [getD_replicate_false] at hl; cases hl), fun t _ ht => getD_in (by simpa using ht) (getD_replicate_false _ _)⟩
  have hcount : (List.range n).countP (fun j => !(Array.replicate l.toArray.size false).getD j false) = n := by
    rw [List.countP_eq_length.2 (fun j _ => by rw [getD_replicate_false]; rfl)]; simp
  have H := key n _ a0 { w0 with drawn := w0.drawn + 1 } inv0 hcount ⟨(by rw [show (fun j => (Array.replicate l.toArray.size false).getD j false) = (fun _ => false) from funext fun j => getD_replicate_false _ _]; exact hJ0), rfl, rfl, fun _ _ => rfl, fun j _ hl => (by rw [getD_replicate_false] at hl; cases hl)⟩
  have hsz : n + (l.length - n) = l.toArray.size := by simp at hn ⊢; omega
  rwa [hsz] at H
end Go.Proofs.YtdikhdfpcipdbaaGreatDoor.iv
