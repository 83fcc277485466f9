/- As InvTail, over whatever is known of the world, by the operations that have come up. As InvJ, where what stands behind the heads waits for the last of them and comes in more orders than one. Frames drawn: l4Draw, l4DrawAny, DrawFrameOk, DrawShowFrame; pick. Frames drawn: l4DrawAny, DrawFrameOk, DrawShowFrame; pick. -/
import Derived.Test.YtdikhdfpcipdbaaGreatDoorG13
import Derived.Test.YtdikhdfpcipdbaaGreatDoorG23
import Derived.Test.YtdikhdfpcipdbaaGreatDoorG15
import Derived.Deep.RegionLaw
/- As InvTail, over whatever is known of the world, by the operations that have come up. -/
namespace Go.Proofs.YtdikhdfpcipdbaaGreatDoor.iv
open Go
open Go.Proofs.YtdikhdfpcipdbaaGreatDoor.mem
variable {P : Program}

/-- Where the region stands: what the operations that have come up have left. -/
structure InvJ (d : Nat → Nat) (n : Nat) (Φ : Nat → Value → World → Prop) (J : (Nat → Bool) → World → Prop) (a0 : Act) (ls : Array Bool) (a : Act) (w : World) : Prop where
  gr : J (fun j => ls.getD j false) w
  sz : a.tmps.size = a0.tmps.size
  df : a.defers = a0.defers
  old : ∀ k, (∀ j, j < n → d j ≠ k) → a.tmps[k]? = a0.tmps[k]?
  new : ∀ j, j < n → ls.getD j false = true → ∃ v, a.tmps[d j]? = some v ∧ Φ j v w

end Go.Proofs.YtdikhdfpcipdbaaGreatDoor.iv

/- As InvJ, where what stands behind the heads waits for the last of them and comes in more orders than one. -/
namespace Go.Proofs.YtdikhdfpcipdbaaGreatDoor.iv
open Go
open Go.Proofs.YtdikhdfpcipdbaaGreatDoor.mem
variable {P : Program}

/-- Each behind the heads waits for the last of them. -/
def gateB (md : Region.Mode) (ops : Array Oper) (m : Nat) : Bool := (List.range ops.size).all fun t => decide (t ≤ m) || Region.waitsFor md ops t m
theorem gate_un {md : Region.Mode} {ops : Array Oper} {m : Nat} {listed : Array Bool} (hs : Region.sinkB md ops m = true) (hn : m < ops.size) (inv : HeadInv md ops (m + 1) listed) :
    ∀ (d i : Nat), m - i = d → i < m + 1 → listed.getD i true = false → listed.getD m false = false := by
  intro d
  induction d using Nat.strongRecOn with
  | _ d ih =>
    intro i hd hi hun
    by_cases him : i = m
    · subst him; exact getD_both hun
    · have h1 := List.all_eq_true.1 hs i (List.mem_range.2 (by omega))
      obtain ⟨j, hj, hj2⟩ := List.any_eq_true.1 h1
      simp only [Bool.and_eq_true, decide_eq_true_eq] at hj2
      obtain ⟨oj, hoj, e, he, hb, hon⟩ := Region.waitsFor_spec hj2.2
      have hjle : j ≤ m := by have := List.mem_range.1 hj; omega
      cases hl : listed.getD j false with
      | true =>
        have h2 := inv.closed j oj hoj hl e he hb
        rw [hon, getD_both hun] at h2
        cases h2
      | false =>
        have hjs : j < listed.size := by rw [inv.size]; omega
        exact ih (m - j) (by omega) j rfl (by omega) (getD_in hjs hl)
theorem gate_waits {md : Region.Mode} {ops : Array Oper} {m : Nat} {listed : Array Bool} (hs : Region.sinkB md ops m = true) (hc : gateB md ops m = true) (hn : m < ops.size) (inv : HeadInv md ops (m + 1) listed)
    (i : Nat) (hi : i < m + 1) (hun : listed.getD i true = false) (t : Nat) (ht : m + 1 ≤ t) : t ∉ Region.ready md ops listed := by
  intro hr
  obtain ⟨_, ot, hot, hall⟩ := mem_ready.1 hr
  have htlt : t < ops.size := (Array.getElem?_eq_some_iff.1 hot).1
  have h1 := List.all_eq_true.1 hc t (List.mem_range.2 htlt)
  simp only [Bool.or_eq_true, decide_eq_true_eq] at h1
  rcases h1 with h1 | h1
  · omega
  · obtain ⟨o', ho', e, he, hb, hon⟩ := Region.waitsFor_spec h1
    have : o' = ot := Option.some.inj (ho'.symm.trans hot)
    subst this
    have h2 := hall e he hb
    rw [hon, gate_un hs hn inv _ i rfl hi hun] at h2
    cases h2
theorem region_invG {id : Nat} {Q : Exit → Act → World → Prop} {a0 : Act} {w0 : World} {l : List Oper} (n : Nat) (d : Nat → Nat) (Φ : Nat → Value → World → Prop) (J : (Nat → Bool) → World → Prop)
    (m : Nat) (hnm : n = m + 1) (hm : P.follows .mixedOrders = true) (hs0 : Region.sinkB .any l.toArray m = true) (hc0 : gateB .any l.toArray m = true) (hn : n < l.toArray.size) (hl0 : lowB l.toArray n = true)
    (hd : ∀ i j, i < n → j < n → d i = d j → i = j) (hlt : ∀ i, i < n → d i < a0.tmps.size)
    (hJ0 : J (fun _ => false) w0.drew)
    (hs : ∀ i o a w D, i < n → l[i]? = some o → J D w → D i = false → a.tmps.size = a0.tmps.size → a.defers = a0.defers → (∀ k, (∀ j, j < n → d j ≠ k) → a.tmps[k]? = a0.tmps[k]?) →
      (∀ e ∈ o.after, Region.binds .any e = true → ∃ v, a.tmps[d e.on]? = some v ∧ Φ e.on v w) →
      wpList P l.toArray (fun x a' w' => x = .normal ∧ ∃ v, a' = a.put (some (d i)) v ∧ J (fun j => if j = i then true else D j) w' ∧ Φ i v w' ∧ ∀ j u, Φ j u w → Φ j u w') [o] a w)
    (ht : ∀ a w D, J D w → (∀ j, j < n → D j = true) → a.tmps.size = a0.tmps.size → a.defers = a0.defers → (∀ k, (∀ j, j < n → d j ≠ k) → a.tmps[k]? = a0.tmps[k]?) →
      (∀ j, j < n → ∃ v, a.tmps[d j]? = some v ∧ Φ j v w) → wpAny P .any l.toArray Q (l.length - n) (canon n l.toArray.size) a w) : (Code.region id l.toArray true).wp P Q a0 w0 := by
  have hlow : ∀ i o, i < n → l.toArray[i]? = some o → ∀ e ∈ o.after, e.on < i := by
    intro i o hi ho e he
    have h := List.all_eq_true.1 hl0 i (List.mem_range.2 hi)
    simp only [ho] at h
    have := Array.all_eq_true'.1 h e he
    simpa using this
  have key : ∀ (f : Nat) (ls : Array Bool) (a : Act) (w : World), HeadInv .any l.toArray n ls → (List.range n).countP (fun j => !ls.getD j false) = f → InvJ d n Φ J a0 ls a w →
      wpAny P .any l.toArray Q (f + (l.length - n)) ls a w := by
    intro f
    induction f with
    | zero =>
      intro ls a w inv hf I
      have hall : ∀ j, j < n → ls.getD j false = true := fun j hj => by
        have := List.countP_eq_zero.1 hf j (List.mem_range.2 hj)
        simpa using this
      have hls : ls = canon n l.toArray.size := by
        apply Array.ext
        · rw [inv.size]; simp [canon]
        · intro k h1 h2
          have e2 : (canon n l.toArray.size)[k] = decide (k < n) := by simp [canon]
          rw [e2]
          by_cases hk : k < n
          · have := hall k hk
            simp [h1] at this
            rw [this, decide_eq_true hk]
          · have := inv.tail k (by omega) (by rw [← inv.size]; exact h1)
            simp [h1] at this
            rw [this, decide_eq_false hk]
      rw [Nat.zero_add]
      have hT := ht a w _ I.gr (fun j hj => hall j hj) I.sz I.df I.old (fun j hj => I.new j hj (hall j hj))
      rw [hls]
      exact hT
    | succ f ih =>
      intro ls a w inv hf I
      rw [Nat.succ_add]
      -- one of the heads has not come up: the least of them may
      have hex : ∃ j, j < n ∧ ls.getD j false = false := by
        have h0 : 0 < (List.range n).countP (fun j => !ls.getD j false) := by omega
        obtain ⟨j, hj, h⟩ := List.countP_pos_iff.1 h0
        exact ⟨j, List.mem_range.1 hj, by simpa using h⟩
      have hleast : ∃ j, j < n ∧ ls.getD j false = false ∧ ∀ i, i < j → ls.getD i false = true := by
        obtain ⟨j, hj, h⟩ := hex
        induction j using Nat.strongRecOn with
        | _ j ihj =>
          by_cases hx : ∃ i, i < j ∧ ls.getD i false = false
          · obtain ⟨i, hi, h'⟩ := hx
            exact ihj i hi (by omega) h'
          · exact ⟨j, hj, h, fun i hi => by
              cases hh : ls.getD i false with
              | true => rfl
              | false => exact absurd ⟨i, hi, hh⟩ hx⟩
      obtain ⟨j0, hj0, hu0, hbelow⟩ := hleast
      have hun : ls.getD j0 true = false := getD_in (by rw [inv.size]; omega) hu0
      have hready : j0 ∈ Region.ready .any l.toArray ls := by
        refine mem_ready.2 ⟨hun, ?_⟩
        have hsz : j0 < l.toArray.size := by omega
        refine ⟨l.toArray[j0], Array.getElem?_eq_getElem hsz, fun e he _ => hbelow _ (hlow j0 _ hj0 (Array.getElem?_eq_getElem hsz) e he)⟩
      refine ⟨fun h => (by rw [h] at hready; cases hready), fun i hi => ?_⟩
      have hin : i < n := Nat.lt_of_not_le fun h => gate_waits hs0 hc0 (by omega) (by rw [← hnm]; exact inv) j0 (by omega) hun i (by omega) hi
      obtain ⟨hiu, o, ho, hall⟩ := mem_ready.1 hi
      have hol : l[i]? = some o := by simpa using ho
      have hdeps : ∀ e ∈ o.after, Region.binds .any e = true → ∃ v, a.tmps[d e.on]? = some v ∧ Φ e.on v w := fun e he hb =>
        I.new e.on (Nat.lt_trans (hlow i o hin ho e he) hin) (hall e he hb)
      have H := hs i o a w _ hin hol I.gr (getD_both hiu) I.sz I.df I.old hdeps
      refine wpOp_mono (fun a' w' hK => ?_) (wpOp_of_list ho H)
      obtain ⟨v, rfl, hg, hv, hst⟩ := hK
      refine ih _ _ _ (inv.set hi hin) ?_ ?_
      · -- one head less
        have hi2 : ls.getD i false = false := getD_both hiu
        have e1 : (List.range n).countP (fun j => !ls.getD j false) = (List.range n).countP (fun j => !(ls.setIfInBounds i true).getD j false) + 1 := by
          have hil : i < ls.size := by rw [inv.size]; omega
          have hnew : (ls.setIfInBounds i true).getD i false = true := by simp [hil]
          have key2 : ∀ m, m ≤ n → (List.range m).countP (fun j => !ls.getD j false) = (List.range m).countP (fun j => !(ls.setIfInBounds i true).getD j false) + (if i < m then 1 else 0) := by
            intro m
            induction m with
            | zero => intro _; simp
            | succ m ihm =>
              intro hm'
              rw [List.range_succ, List.countP_append, List.countP_append, ihm (by omega)]
              by_cases him : i = m
              · subst him
                have a1 : List.countP (fun j => !ls.getD j false) [i] = 1 := by rw [List.countP_cons, hi2]; rfl
                have a2 : List.countP (fun j => !(ls.setIfInBounds i true).getD j false) [i] = 0 := by rw [List.countP_cons, hnew]; rfl
                rw [a1, a2, if_neg (Nat.lt_irrefl _), if_pos (Nat.lt_succ_self _)]
              · have : (ls.setIfInBounds i true).getD m false = ls.getD m false := getD_set_ne false him
                simp only [List.countP_cons, List.countP_nil, this]
                by_cases h3 : i < m
                · have h4 : i < m + 1 := by omega
                  rw [if_pos h3, if_pos h4]; omega
                · have h4 : ¬ i < m + 1 := by omega
                  rw [if_neg h3, if_neg h4]; omega
          have := key2 n (Nat.le_refl _)
          rwa [if_pos hin] at this
        omega
      · have hdi : d i < a.tmps.size := by rw [I.sz]; exact hlt i hin
        have hil : i < ls.size := by rw [inv.size]; omega
        have hJ : (fun j => if j = i then true else ls.getD j false) = fun j => (ls.setIfInBounds i true).getD j false := funext fun j => by
          by_cases e : j = i
          · subst e; simp [hil]
          · rw [if_neg e, getD_set_ne false (Ne.symm e)]
        refine ⟨by rw [← hJ]; exact hg, by simpa [Act.put] using I.sz, by simpa [Act.put] using I.df, fun k hk => ?_, fun j hj hl => ?_⟩
        · have hne : d i ≠ k := hk i hin
          show (a.tmps.setIfInBounds (d i) v)[k]? = _
          rw [Array.getElem?_setIfInBounds_ne hne]; exact I.old k hk
        · by_cases hji : j = i
          · subst hji
            exact ⟨v, Array.getElem?_setIfInBounds_self_of_lt hdi, hv⟩
          · rw [getD_set_ne false (Ne.symm hji)] at hl
            obtain ⟨u, hu, hp⟩ := I.new j hj hl
            refine ⟨u, ?_, hst _ _ hp⟩
            have hne : d i ≠ d j := fun e => hji (hd i j hin hj e).symm
            show (a.tmps.setIfInBounds (d i) v)[d j]? = _
            rw [Array.getElem?_setIfInBounds_ne hne]; exact hu
  refine wp_region_any hm ?_
  have inv0 : HeadInv .any l.toArray n (Array.replicate l.toArray.size false) :=
    ⟨by simp, fun j oj _ hl => (by rw [getD_replicate_false] at hl; cases hl), fun t _ ht => getD_in (by simpa using ht) (getD_replicate_false _ _)⟩
  have hcount : (List.range n).countP (fun j => !(Array.replicate l.toArray.size false).getD j false) = n := by
    rw [List.countP_eq_length.2 (fun j _ => by rw [getD_replicate_false]; rfl)]; simp
  have H := key n _ a0 { w0 with drawn := w0.drawn + 1 } inv0 hcount ⟨(by rw [show (fun j => (Array.replicate l.toArray.size false).getD j false) = (fun _ => false) from funext fun j => getD_replicate_false _ _]; exact hJ0), rfl, rfl, fun _ _ => rfl, fun j _ hl => (by rw [getD_replicate_false] at hl; cases hl)⟩
  have hsz : n + (l.length - n) = l.toArray.size := by simp at hn ⊢; omega
  rwa [hsz] at H
/-- What is left comes in one order. -/
theorem any_drop {Q : Exit → Act → World → Prop} {l : List Oper} {ls : Array Bool} {a : Act} {w : World} (k : Nat) (hC : Region.seqB .any l.toArray (l.length - k) k ls = true) (h : wpList P l.toArray Q (l.drop k) a w) : wpAny P .any l.toArray Q (l.length - k) ls a w := by
  have hdl : (l.drop k).length = l.length - k := by simp
  have := wpAny_of_seq (md := .any) (P := P) (ops := l.toArray) (Q' := Q) (l.drop k) k ls a w (fun j => by simp) (by rw [hdl]; exact hC) h
  rwa [hdl] at this
end Go.Proofs.YtdikhdfpcipdbaaGreatDoor.iv

/- Frames drawn: l4Draw, l4DrawAny, DrawFrameOk, DrawShowFrame; pick. -/
namespace Go.Proofs.YtdikhdfpcipdbaaGreatDoor.frm
open Go.ChangeShapes Go.WideShapes Go.ChangeAt Go.RowKit
open Go.Proofs.YtdikhdfpcipdbaaGreatDoor.nums Go.Proofs.YtdikhdfpcipdbaaGreatDoor.mem Go.Proofs.YtdikhdfpcipdbaaGreatDoor.txt Go.Proofs.YtdikhdfpcipdbaaGreatDoor.fix Go.Proofs.YtdikhdfpcipdbaaGreatDoor.cur
open Go.Proofs.YtdikhdfpcipdbaaGreatDoor.tab (Ret quiet_w wpList_make_has)
set_option linter.unusedVariables false

/-- A call at a step of a region that draws its order. -/
theorem step_call {P : Program} {w : World} {ops : Array Oper} {o : Oper} {a : Act} {K : Act → World → Prop} {Q : Exit → Act → World → Prop} {E : Prop} (hgd : o.guard = none) (f : FuncId) (args : Array Value)
    (ho : (execOp a.eval o).run P w = .ok (.enter f args) w) (Post : Value → World → Prop) (hC : Calls P f args w fun e w' => ∃ v, e = .returned v ∧ Post v w') (h : ∀ v w', Post v w' → K (a.put o.dst v) w') :
    if Region.wanted o (yielded ops a.tmps) = true then Oper.wp P o a w K Q else E := by
  have hw : Region.wanted o (yielded ops a.tmps) = true := by simp [Region.wanted, hgd]
  rw [if_pos hw]
  unfold Oper.wp
  rw [ho]
  exact hC.mono fun e w' ⟨v, he, hp⟩ => by subst he; exact h v w' hp

theorem gr_own_row {w0 w w' : World} {base size n : Nat} {e : TypeId} {v : Value} {xs : List Value} {row : Option Nat} (h0 : w0.grownBy w row) (ho : w.ownsRow base e size v n xs) (hb : w0.heap.size ≤ base) {o : Obj} (hg : (w.alloc o).grownBy w' v.ownBlock) : w0.grownBy w' row := by
  have h1 := gr_alloc h0 o
  cases hv : v.ownBlock with
  | none => rw [hv] at hg; exact gr_trans h1 (gr_none hg row)
  | some q =>
    have := (ho.lt q hv).1
    rw [hv] at hg
    exact gr_past h1 hg (by omega)
theorem cur_own {b : Option Addr} {n c q : Nat} {w w' : World} {base size m : Nat} {e : TypeId} {v : Value} {xs : List Value} (h : Cur b n c w q) (ho : w.ownsRow base e size v m xs) (hb : q < base) (hg : w.grownBy w' v.ownBlock) : Cur b n c w' q :=
  h.kept hg (fun r e => by have := (ho.lt r e).1; omega)

/-- A frame is drawn: its numbers lie in new memory. -/
def DrewF (b : Option Addr) (n c q : Nat) (w : World) (e : Ending) (w' : World) : Prop :=
  ∃ (k sq : Int) (vs : List Int) (a : Option Addr) (cap : Nat), e = .returned (fr k sq a vs.length cap) ∧ Own w.heap.size w' a vs ∧ vs ≠ [] ∧ vs.length ≤ 6 ∧ w.grownBy w' (some q) ∧ Cur b n c w' q

set_option maxRecDepth 100000 in
set_option maxHeartbeats 4000000 in
theorem drawF (b : Option Addr) (n c q : Nat) (w : World) (hn : n ≤ 4096) (h : Cur b n c w q) : Calls Tryz.prog 62 #[.pointer (some ⟨q, 0, none⟩)] w (DrewF b n c q w) := by
  obtain ⟨i0, hi, hz0, hz1, hz2⟩ := info_parts infoInt
  have hq := h.lt
  have H0 := Has.fresh w 50 #[.int .i64 0, .int .i64 0, .slice none 0 0]
  have g0 := gr_none (World.grownBy_alloc w (Obj.cells #[.int .i64 0, .int .i64 0, .slice none 0 0] 50) none) (some q)
  go_enter Tryz.func62, Tryz.ntmps62
  go_wp2_with fail
  refine (below b n c q _ 4 hn (h.alloc _) (by omega)).mono ?_
  rintro e w1 ⟨x, ⟨x0, x1⟩, rfl, g1, h1⟩
  go_wp2_with fail
  refine (below b n c q _ 100 hn h1 (by omega)).mono ?_
  rintro e w2 ⟨sq, ⟨s0, s1⟩, rfl, g2, h2⟩
  replace g0 := gr_trans (gr_trans g0 g1) g2
  have hne : w.heap.size ≠ q := by omega
  replace H0 := (H0.grown g1 (fun e => by injection e with e; omega)).grown g2 (fun e => by injection e with e; omega)
  have hR := H0.lt
  clear g1 g2 h1 h
  obtain ⟨k, hk⟩ : ∃ k : Int, 1 + x = k := ⟨_, rfl⟩
  have hk1 : 1 ≤ k ∧ k ≤ 4 := by omega
  have hM := specMany k
  have hm1 := many_ge hk1.1 hk1.2
  have hm2 := many_le k
  have HX := Has.fresh w2 50 #[.int .i64 k, .int .i64 sq, .slice none 0 0]
  replace H0 := H0.alloc (Obj.cells #[.int .i64 k, .int .i64 sq, .slice none 0 0] 50)
  replace g0 := gr_alloc g0 (Obj.cells #[.int .i64 k, .int .i64 sq, .slice none 0 0] 50)
  replace h2 := h2.alloc (Obj.cells #[.int .i64 k, .int .i64 sq, .slice none 0 0] 50)
  obtain ⟨b0, b1, b2, _, _, _⟩ := three HX
  go_wp2_with fail
  refine (hM _).mono ?_
  rintro e w3 ⟨rfl, g3⟩
  replace H0 := H0.grown g3 (by simp)
  replace HX := HX.grown g3 (by simp)
  replace g0 := gr_trans g0 (gr_none g3 _)
  replace h2 := h2.kept g3 (fun r e => by cases e)
  clear g3 b0 b1 b2 hM
  have hxB := HX.lt
  obtain ⟨M, hMM⟩ : ∃ M : Nat, many k = (M : Int) := ⟨(many k).toNat, by omega⟩
  rw [hMM] at hm1 hm2 ⊢
  generalize w2.heap.size = bx at *
  generalize hB : w3.heap.size = B at *
  clear hMM
  go_wp2_with fail
  go_loopw [4] (fun i wr => ∃ (m : Nat) (acc : List Int) (ao : Option Addr) (cp : Nat), i = .int .i64 m ∧ m + acc.length = M ∧ Has wr bx 50 #[.int .i64 k, .int .i64 sq, .slice ao acc.length cp] ∧ wr.ownsRow B 2 1 (.slice ao acc.length cp) acc.length (vals acc) ∧ Has wr w.heap.size 50 #[.int .i64 0, .int .i64 0, .slice none 0 0] ∧ w.grownBy wr (some q) ∧ Cur b n c wr q ∧ B ≤ wr.heap.size) (fun i _ => (intOf i).toNat)
  case atStart => exact ⟨M, [], none, 0, rfl, by simp, HX, World.ownsRow_nil _ _ _ _, H0, g0, h2, by omega⟩
  case round =>
    clear HX H0 g0 h2
    obtain ⟨m, acc, ao, cp, rfl, hma, HX, hown, H0, g0, h2, hBs⟩ := hrel
    by_cases hm : 0 < m
    · have hm' : decide (0 < (m : Int)) = true := by simp; omega
      have hxd : Has wr.drew bx _ _ := HX
      have hcd : Cur b n c wr.drew q := h2
      have hod : wr.drew.ownsRow B 2 1 (.slice ao acc.length cp) acc.length (vals acc) := hown
      obtain ⟨b0, b1, b2, _, _, _⟩ := three HX
      go_wp2_with fail
      have hcall : Calls Tryz.prog 22 #[.pointer (some ⟨q, 0, none⟩), .int .i64 400] wr.drew fun e w' => ∃ v, e = .returned v ∧ ∃ x : Int, v = .int .i64 x ∧ wr.drew.grownBy w' (some q) ∧ Cur b n c w' q :=
        (below b n c q _ 400 hn hcd (by omega)).mono fun e w' ⟨x, _, he, hg, hc⟩ => ⟨_, he, x, rfl, hg, hc⟩
      go_region_law (first
          | (refine step_append_lies _ (by rfl) _ _ _ (by rfl) B 2 i0 _ 1 8 Tryz.underlying25 hi hz0 hz1 hz2 rfl (by omega) (.slice ao acc.length cp) acc.length (vals acc) (by rfl) (ho4.alloc _) ⟨w4.heap.size, 0, none⟩ 1 1 [.int .i64 v] (by rfl) (by rfl) (World.news_of_block (cs := #[.int .i64 v]) (t := 2) (fr := (0, 0)) (heap_alloc_new w4 _)) (by simp [Value.oneCell']) (by omega) (by unfold maxLen; omega) (by omega) (by simp; have := g4.size; simp at this; omega) (w4.heap.size + 1) (by simp) ?_; intro gg cap1 w5 hown5 hgrow hat hlt; have HX5 := own_keep (HX4.alloc _) (ho4.alloc _) (by omega) hgrow; obtain ⟨_, _, y5, z0, z1, z2⟩ := three HX5)
          | (refine step_call (by rfl) 22 _ (by go_simp) _ hcall ?_; rintro _ w4 ⟨v, rfl, g4, h4⟩; have HX4 := hxd.grown g4 (fun e => by injection e with e; omega); obtain ⟨_, _, y2, _, _, _⟩ := three HX4; have y4 := (three (HX4.alloc (Obj.cells #[.int .i64 v] 2))).2.2.1; have ho4 := row_past hod g4 (by omega)))
      all_goals have hel : acc.length + 1 = (acc ++ [v]).length := by simp
      all_goals rw [hel] at hown5 ⊢
      all_goals rw [show vals acc ++ [Value.int .i64 v] = vals (acc ++ [v]) by simp [vals]] at hown5
      all_goals have hgw := gr_own_row (gr_trans (gr_drewN g0 1) g4) ho4 (show w.heap.size ≤ B by omega) (o := Obj.cells #[.int .i64 v] 2) hgrow
      all_goals have H5 := own_keep ((H0.drewN 1).grown g4 (fun e => by injection e with e; omega) |>.alloc (Obj.cells #[.int .i64 v] 2)) (ho4.alloc _) (by omega) hgrow
      all_goals have h5 : Cur b n c w5 q := cur_own (h4.alloc _) (ho4.alloc _) (by omega) hgrow
      all_goals have hs5 : B ≤ w5.heap.size := by have h1 := hgrow.size; have h2 := g4.size; simp at h1 h2; omega
      all_goals have hm6 : (m : Int) ≤ 6 := by omega
      all_goals have hm0 : (1 : Int) ≤ m := by omega
      all_goals clear hel hgrow hat hlt g4 h4 HX4 ho4 hod hcd hxd y2 y4 y5 z0 z1 z2 hcall b0 b1 b2 HX hown H0 g0 h2 hm' hi hz0 hz1 hz2
      all_goals go_wp2_with fail
      all_goals go_roundw
      case rel => exact ⟨m - 1, acc ++ [v], some ⟨gg, 0, none⟩, cap1, by congr 1; omega, by simp; omega, HX5.put 2 _ (by simp), row_past hown5 (gr_set (gr_refl _ (some bx)) _ _) (by omega), has_other H5 (by omega) _ _, gr_new hgw (by omega) _ _, h5.kept (gr_set (gr_refl _ (some bx)) _ _) (fun r e => by injection e with e; omega), by simpa [World.setCell] using hs5⟩
      case measure => simp [intOf]; omega
      case rel => exact ⟨m - 1, acc ++ [v], some ⟨gg, 0, none⟩, cap1, by congr 1; omega, by simp; omega, HX5.put 2 _ (by simp), row_past hown5 (gr_set (gr_refl _ (some bx)) _ _) (by omega), has_other H5 (by omega) _ _, gr_new hgw (by omega) _ _, h5.kept (gr_set (gr_refl _ (some bx)) _ _) (fun r e => by injection e with e; omega), by simpa [World.setCell] using hs5⟩
      case measure => simp [intOf]; omega
      case rel => exact ⟨m - 1, acc ++ [v], some ⟨gg, 0, none⟩, cap1, by congr 1; omega, by simp; omega, HX5.put 2 _ (by simp), row_past hown5 (gr_set (gr_refl _ (some bx)) _ _) (by omega), has_other H5 (by omega) _ _, gr_new hgw (by omega) _ _, h5.kept (gr_set (gr_refl _ (some bx)) _ _) (fun r e => by injection e with e; omega), by simpa [World.setCell] using hs5⟩
      case measure => simp [intOf]; omega
    · obtain rfl : m = 0 := by omega
      have hm' : decide (0 < ((0 : Nat) : Int)) = false := by simp
      have hav : acc ≠ [] := fun e => by rw [e] at hma; simp at hma; omega
      obtain ⟨b0, b1, b2, f0, f1, f2⟩ := three HX
      obtain ⟨p0, p1, p2, q0, q1, q2⟩ := three H0
      by_cases hk4 : k = 4
      · subst hk4
        go_wp2_with fail
        refine (below b n c q _ 3 hn h2 (by omega)).mono ?_
        rintro e w4 ⟨v1, _, rfl, g4, h4⟩
        go_wp2_with fail
        refine (below b n c q _ 2 hn h4 (by omega)).mono ?_
        rintro e w5 ⟨v2, _, rfl, g5, h5⟩
        replace HX := (HX.grown g4 (fun e => by injection e with e; omega)).grown g5 (fun e => by injection e with e; omega)
        replace H0 := (H0.grown g4 (fun e => by injection e with e; omega)).grown g5 (fun e => by injection e with e; omega)
        replace g0 := gr_alloc (gr_trans (gr_trans g0 g4) g5) (Obj.cells #[.int .i64 v1, .int .i64 v2] 2)
        have hs5 : B ≤ w5.heap.size := by have h1 := g4.size; have h2 := g5.size; omega
        have HV := Has.fresh w5 2 #[.int .i64 v1, .int .i64 v2]
        replace HX := HX.alloc (Obj.cells #[.int .i64 v1, .int .i64 v2] 2)
        replace H0 := H0.alloc (Obj.cells #[.int .i64 v1, .int .i64 v2] 2)
        replace h5 := h5.alloc (Obj.cells #[.int .i64 v1, .int .i64 v2] 2)
        clear g4 g5 h4 b0 b1 b2 f0 f1 f2 p0 p1 p2 q0 q1 q2 h2
        obtain ⟨b0, b1, b2, f0, f1, f2⟩ := three HX
        obtain ⟨p0, p1, p2, q0, q1, q2⟩ := three H0
        have hbR : w.heap.size ≠ bx := by omega
        have hVR : w5.heap.size ≠ w.heap.size := by omega
        have hVX : w5.heap.size ≠ bx := by omega
        go_wp2_with fail
        obtain ⟨r0, r1, r2, _, _, _⟩ := three (set3 (has_other H0 hbR 2 (.slice (some ⟨w5.heap.size, 0, none⟩) 2 2)) (.int .i64 4) (.int .i64 sq) (.slice (some ⟨w5.heap.size, 0, none⟩) 2 2))
        refine bodyPost_ret (v := fr 4 sq (some ⟨w5.heap.size, 0, none⟩) ([v1, v2] : List Int).length 2) (by simp [results, Tryz.results62, go_sem, r0, r1, r2]) rfl ⟨4, sq, [v1, v2], _, _, rfl, ?_, by simp, by simp, gr_new (gr_new (gr_new (gr_new g0 (by omega) _ _) (Nat.le_refl _) _ _) (Nat.le_refl _) _ _) (Nat.le_refl _) _ _, (((h5.kept (gr_set (gr_refl _ (some bx)) _ _) (fun r e => by injection e with e; omega)).kept (gr_set (gr_refl _ (some w.heap.size)) _ _) (fun r e => by injection e with e; omega)).kept (gr_set (gr_refl _ (some w.heap.size)) _ _) (fun r e => by injection e with e; omega)).kept (gr_set (gr_refl _ (some w.heap.size)) _ _) (fun r e => by injection e with e; omega)⟩
        refine ⟨w5.heap.size, 0, #[.int .i64 v1, .int .i64 v2], fun _ => rfl, by omega, has_other (has_other (has_other (has_other HV hVX _ _) hVR _ _) hVR _ _) hVR _ _, fun j hj => ?_⟩
        have : j = 0 ∨ j = 1 := by simp at hj; omega
        rcases this with rfl | rfl <;> rfl
      · have hk5 : (k == 4) = false := by rw [beq_eq_false_iff_ne]; exact hk4
        have hO := row_own hown (show w.heap.size + 1 ≤ B by omega) hav
        go_wp2_with fail
        obtain ⟨r0, r1, r2, _, _, _⟩ := three (set3 H0 (.int .i64 k) (.int .i64 sq) (.slice ao acc.length cp))
        exact bodyPost_ret (v := fr k sq ao acc.length cp) (by simp [results, Tryz.results62, go_sem, r0, r1, r2]) rfl ⟨k, sq, acc, ao, cp, rfl, (((hO.set _ _).set _ _).set _ _).up (Nat.le_succ _), hav, by omega, gr_new (gr_new (gr_new g0 (Nat.le_refl _) _ _) (Nat.le_refl _) _ _) (Nat.le_refl _) _ _, ((h2.kept (gr_set (gr_refl _ (some w.heap.size)) _ _) (fun r e => by injection e with e; omega)).kept (gr_set (gr_refl _ (some w.heap.size)) _ _) (fun r e => by injection e with e; omega)).kept (gr_set (gr_refl _ (some w.heap.size)) _ _) (fun r e => by injection e with e; omega)⟩
end Go.Proofs.YtdikhdfpcipdbaaGreatDoor.frm

/- Frames drawn: l4DrawAny, DrawFrameOk, DrawShowFrame; pick. -/
namespace Go.Proofs.YtdikhdfpcipdbaaGreatDoor.frm
open Go.ChangeShapes Go.WideShapes Go.ChangeAt Go.RowKit
open Go.Proofs.YtdikhdfpcipdbaaGreatDoor.nums Go.Proofs.YtdikhdfpcipdbaaGreatDoor.mem Go.Proofs.YtdikhdfpcipdbaaGreatDoor.txt Go.Proofs.YtdikhdfpcipdbaaGreatDoor.fix Go.Proofs.YtdikhdfpcipdbaaGreatDoor.cur
open Go.Proofs.YtdikhdfpcipdbaaGreatDoor.tab (Ret quiet_w wpList_make_has)
set_option linter.unusedVariables false

/-- Some frame is drawn. -/
def AnyF (b : Option Addr) (n c q : Nat) (w : World) (e : Ending) (w' : World) : Prop :=
  ∃ (k sq : Int) (vs : List Int) (a : Option Addr) (cap : Nat), e = .returned (fr k sq a vs.length cap) ∧ Ints w' a vs ∧ vs.length ≤ 6 ∧ (∀ x : Addr, a = some x → w.heap.size ≤ x.block) ∧ w.grownBy w' (some q) ∧ Cur b n c w' q
theorem Ints.set3 {w : World} {a : Option Addr} {vs : List Int} {r : Nat} (h : Ints w a vs) (hn : ∀ x : Addr, a = some x → x.block ≠ r) (u0 u1 u2 : Value) : Ints (((w.setCell ⟨r, 0, none⟩ u0).setCell ⟨r, 1, none⟩ u1).setCell ⟨r, 2, none⟩ u2) a vs :=
  ((h.set r 0 u0 hn).set r 1 u1 hn).set r 2 u2 hn
theorem Cur.set {b : Option Addr} {n c q r : Nat} {w : World} (h : Cur b n c w q) (hr : q < r) (i : Nat) (u : Value) : Cur b n c (w.setCell ⟨r, i, none⟩ u) q :=
  h.kept (gr_set (gr_refl _ (some r)) _ _) (fun r' e => by injection e with e; omega)
theorem ints_head {w : World} {g o : Nat} {cs : Array Value} {vs : List Int} (hc : Has w g 2 cs) (hj : ∀ j, j < vs.length → cs[o + j]? = some (.int .i64 (nth vs j))) (hne : vs ≠ []) (v : Int) :
    Ints (w.setCell ⟨g, o, none⟩ (.int .i64 v)) (some ⟨g, o, none⟩) (v :: vs.drop 1) := by
  intro j hjl
  have hl : (v :: vs.drop 1).length = vs.length := by
    have := List.length_pos_iff.2 hne
    simp; omega
  rw [hl] at hjl
  have h2 := hc.set o (.int .i64 v)
  refine ⟨_, rfl, h2.lt, ?_⟩
  rw [addo, h2.cell]
  have hs : o < cs.size := by
    have h0 := hj 0 (List.length_pos_iff.2 hne)
    have := (Array.getElem?_eq_some_iff.1 h0).1
    omega
  cases j with
  | zero => rw [Nat.add_zero, Array.getElem?_setIfInBounds_self_of_lt hs]; rfl
  | succ j =>
    rw [Array.getElem?_setIfInBounds_ne (by omega), hj (j + 1) hjl]
    congr 2
    rw [nth_lt hjl, nth_lt (by rw [hl]; exact hjl)]
    simp

set_option maxRecDepth 100000 in
set_option maxHeartbeats 4000000 in
theorem drawAny (b : Option Addr) (n c q : Nat) (w : World) (hn : n ≤ 4096) (h : Cur b n c w q) : Calls Tryz.prog 23 #[.pointer (some ⟨q, 0, none⟩)] w (AnyF b n c q w) := by
  have hq := h.lt
  have H0 := Has.fresh w 50 #[.int .i64 0, .int .i64 0, .slice none 0 0]
  have g0 := gr_none (World.grownBy_alloc w (Obj.cells #[.int .i64 0, .int .i64 0, .slice none 0 0] 50) none) (some q)
  have hsz : (w.alloc (Obj.cells #[.int .i64 0, .int .i64 0, .slice none 0 0] 50)).heap.size = w.heap.size + 1 := by simp
  go_enter Tryz.func23, Tryz.ntmps23
  go_wp2_with fail
  refine (drawF b n c q _ hn (h.alloc _)).mono ?_
  rintro e w1 ⟨k, sq, vs, a, cap, rfl, hO, hne, hl6, g1, h1⟩
  rw [hsz] at hO
  have hs1 : w.heap.size + 1 ≤ w1.heap.size := by have := g1.size; rw [hsz] at this; exact this
  replace g0 := gr_alloc (gr_trans g0 g1) (Obj.cells #[.int .i64 k, .int .i64 sq, .slice a vs.length cap] 50)
  replace H0 := (H0.grown g1 (fun e => by injection e with e; omega)).alloc (Obj.cells #[.int .i64 k, .int .i64 sq, .slice a vs.length cap] 50)
  have HX := Has.fresh w1 50 #[.int .i64 k, .int .i64 sq, .slice a vs.length cap]
  replace h1 := h1.alloc (Obj.cells #[.int .i64 k, .int .i64 sq, .slice a vs.length cap] 50)
  replace hO := hO.kept (World.grownBy_alloc w1 (Obj.cells #[.int .i64 k, .int .i64 sq, .slice a vs.length cap] 50) none)
  clear g1 hsz h
  go_wp2_with fail
  refine (once b n c q _ 8 hn h1 (by omega)).mono ?_
  rintro e w2 ⟨v, rfl, g2, h2⟩
  replace g0 := gr_trans g0 g2
  replace H0 := H0.grown g2 (fun e => by injection e with e; omega)
  replace HX := HX.grown g2 (fun e => by injection e with e; omega)
  replace hO := hO.grown g2 (fun g hg e => by injection e with e; omega)
  have hs2 := HX.lt
  clear g2 h1
  obtain ⟨g, o, cs, ha, hbg, hcs, hj⟩ := hO
  have ha' := ha hne
  subst ha'
  clear ha
  have hgb := hcs.lt
  generalize hbx : w1.heap.size = bx at *
  have hgx : g ≠ bx := fun e => by subst e; have := hcs.symm.trans HX; simp at this
  have hI : Ints w2 (some ⟨g, o, none⟩) vs := fun j hj' => ⟨_, rfl, hcs.lt, by rw [addo, hcs.cell]; exact hj j hj'⟩
  have hgr : ∀ x : Addr, some (⟨g, o, none⟩ : Addr) = some x → x.block ≠ w.heap.size := fun x e => by injection e with e; subst e; show g ≠ _; omega
  have hgg : ∀ x : Addr, some (⟨g, o, none⟩ : Addr) = some x → w.heap.size ≤ x.block := fun x e => by injection e with e; subst e; show _ ≤ g; omega
  cases v
  · obtain ⟨b0, b1, b2, f0, f1, f2⟩ := three HX
    obtain ⟨p0, p1, p2, q0, q1, q2⟩ := three H0
    go_wp2_with fail
    obtain ⟨r0, r1, r2, _, _, _⟩ := three (frm.set3 H0 (.int .i64 k) (.int .i64 sq) (.slice (some ⟨g, o, none⟩) vs.length cap))
    exact bodyPost_ret (v := fr k sq (some ⟨g, o, none⟩) vs.length cap) (by simp [results, Tryz.results23, go_sem, r0, r1, r2]) rfl ⟨k, sq, vs, _, cap, rfl, hI.set3 hgr _ _ _, hl6, hgg, gr_new (gr_new (gr_new g0 (Nat.le_refl _) _ _) (Nat.le_refl _) _ _) (Nat.le_refl _) _ _, Cur.set (Cur.set (Cur.set h2 hq _ _) hq _ _) hq _ _⟩
  · go_wp2_with fail
    refine (below b n c q _ 3 hn h2 (by omega)).mono ?_
    rintro e w3 ⟨y, ⟨y0, y1⟩, rfl, g3, h3⟩
    replace g0 := gr_trans g0 g3
    replace H0 := H0.grown g3 (fun e => by injection e with e; omega)
    replace HX := HX.grown g3 (fun e => by injection e with e; omega)
    replace hcs := hcs.grown g3 (fun e => by injection e with e; omega)
    replace hI := hI.grown g3 (fun x e er => by injection e with e; subst e; injection er with er; change g = q at er; omega)
    have hs3 := HX.lt
    clear g3 h2 hgb hs2
    obtain ⟨b0, b1, b2, f0, f1, f2⟩ := three HX
    have hbR : w.heap.size ≠ bx := by omega
    have hy : y = 0 ∨ y = 1 ∨ y = 2 := by omega
    rcases hy with rfl | rfl | rfl
    · go_wp2_with fail
      refine (from_ b n c q _ 0 5 hn h3 (by omega) (by omega) (by omega) (by omega)).mono ?_
      rintro e w4 ⟨z, _, rfl, g4, h4⟩
      replace g0 := gr_trans g0 g4
      replace H0 := H0.grown g4 (fun e => by injection e with e; omega)
      replace HX := HX.grown g4 (fun e => by injection e with e; omega)
      replace hI := hI.grown g4 (fun x e er => by injection e with e; subst e; injection er with er; change g = q at er; omega)
      clear g4 h3 b0 b1 b2 f0 f1 f2 hcs
      obtain ⟨b0, b1, b2, f0, f1, f2⟩ := three HX
      obtain ⟨p0, p1, p2, q0, q1, q2⟩ := three H0
      go_wp2_with fail
      obtain ⟨r0, r1, r2, _, _, _⟩ := three (frm.set3 (has_other H0 hbR 0 (.int .i64 z)) (.int .i64 z) (.int .i64 sq) (.slice (some ⟨g, o, none⟩) vs.length cap))
      exact bodyPost_ret (v := fr z sq (some ⟨g, o, none⟩) vs.length cap) (by simp [results, Tryz.results23, go_sem, r0, r1, r2]) rfl ⟨z, sq, vs, _, cap, rfl, (hI.set bx 0 _ (fun x e => by injection e with e; subst e; exact hgx)).set3 hgr _ _ _, hl6, hgg, gr_new (gr_new (gr_new (gr_new g0 (by omega) _ _) (Nat.le_refl _) _ _) (Nat.le_refl _) _ _) (Nat.le_refl _) _ _, Cur.set (Cur.set (Cur.set (Cur.set h4 (by omega) _ _) hq _ _) hq _ _) hq _ _⟩
    · replace g0 := gr_alloc g0 (Obj.cells #[.int .i64 (-1), .int .i64 100] 2)
      have HT := Has.fresh w3 2 #[.int .i64 (-1), .int .i64 100]
      go_wp2_with fail
      refine (below b n c q _ 2 hn (h3.alloc _) (by omega)).mono ?_
      rintro e w4 ⟨y, ⟨y0, y1⟩, rfl, g4, h4⟩
      replace H0 := H0.alloc (Obj.cells #[.int .i64 (-1), .int .i64 100] 2)
      replace HX := HX.alloc (Obj.cells #[.int .i64 (-1), .int .i64 100] 2)
      replace hI := hI.kept (World.grownBy_alloc w3 (Obj.cells #[.int .i64 (-1), .int .i64 100] 2) none)
      replace HT := HT.grown g4 (fun e => by injection e with e; omega)
      obtain ⟨z, t, rfl, ht⟩ : ∃ (z : Int) (t : Nat), y = (t : Int) ∧ w4.cell? ⟨w3.heap.size, t, none⟩ = some (.int .i64 z) := by
        have hy : y = 0 ∨ y = 1 := by omega
        rcases hy with rfl | rfl
        · exact ⟨-1, 0, rfl, HT.cell 0⟩
        · exact ⟨100, 1, rfl, HT.cell 1⟩
      have htl : t < 2 := by omega
      replace g0 := gr_trans g0 g4
      replace H0 := H0.grown g4 (fun e => by injection e with e; omega)
      replace HX := HX.grown g4 (fun e => by injection e with e; omega)
      replace hI := hI.grown g4 (fun x e er => by injection e with e; subst e; injection er with er; change g = q at er; omega)
      clear g4 h3 b0 b1 b2 f0 f1 f2 hcs
      obtain ⟨b0, b1, b2, f0, f1, f2⟩ := three HX
      obtain ⟨p0, p1, p2, q0, q1, q2⟩ := three H0
      go_wp2_with fail
      obtain ⟨r0, r1, r2, _, _, _⟩ := three (frm.set3 (has_other H0 hbR 1 (.int .i64 z)) (.int .i64 k) (.int .i64 z) (.slice (some ⟨g, o, none⟩) vs.length cap))
      exact bodyPost_ret (v := fr k z (some ⟨g, o, none⟩) vs.length cap) (by simp [results, Tryz.results23, go_sem, r0, r1, r2]) rfl ⟨k, z, vs, _, cap, rfl, (hI.set bx 1 _ (fun x e => by injection e with e; subst e; exact hgx)).set3 hgr _ _ _, hl6, hgg, gr_new (gr_new (gr_new (gr_new g0 (by omega) _ _) (Nat.le_refl _) _ _) (Nat.le_refl _) _ _) (Nat.le_refl _) _ _, Cur.set (Cur.set (Cur.set (Cur.set h4 (by omega) _ _) hq _ _) hq _ _) hq _ _⟩
    · have hxd : Has w3.drew bx _ _ := HX
      have h3d : Cur b n c w3.drew q := h3
      have hcd : Has w3.drew g _ _ := hcs
      have hcall : Calls Tryz.prog 32 #[.pointer (some ⟨q, 0, none⟩)] w3.drew fun e w' => ∃ v, e = .returned v ∧ ∃ x : Int, v = .int .i64 x ∧ w3.drew.grownBy w' (some q) ∧ Cur b n c w' q :=
        (size b n c q _ hn h3d).mono fun e w' ⟨x, _, he, hg, hc⟩ => ⟨_, he, x, rfl, hg, hc⟩
      have hpos := List.length_pos_iff.2 hne
      have hpos2 : (0 : Int) < vs.length := by omega
      go_wp2_with fail
      go_region_law (refine step_call (by rfl) 32 _ (by go_simp) _ hcall ?_; rintro _ w4 ⟨v, rfl, g4, h4⟩; have HX4 := hxd.grown g4 (fun e => by injection e with e; omega); obtain ⟨c0, c1, c2, _, _, _⟩ := three HX4; have hc4 := hcd.grown g4 (fun e => by injection e with e; omega); have d0 := (hc4.cell o).trans (hj 0 hpos); have e0 := hc4.frozen o)
      all_goals have hI4 := ints_head hc4 hj hne v
      all_goals have hl4 : Hid (vs.length = (v :: vs.drop 1).length) := Lib.hid (by simp; omega)
      all_goals have H4 := has_other ((H0.drewN 1).grown g4 (fun e => by injection e with e; omega)) (show w.heap.size ≠ g by omega) o (.int .i64 v)
      all_goals have HX5 := has_other HX4 (fun e => hgx e.symm) o (.int .i64 v)
      all_goals have g5 := gr_new (gr_trans (gr_drewN g0 1) g4) (show w.heap.size ≤ g by omega) o (.int .i64 v)
      all_goals have h5 := Cur.set h4 (show q < g by omega) o (.int .i64 v)
      all_goals clear hxd h3d hcd hcall HX4 c0 c1 c2 hc4 d0 e0 g4 h4 b0 b1 b2 f0 f1 f2 HX hcs hI h3 g0 H0 hj
      all_goals generalize w4.setCell ⟨g, o, none⟩ (.int .i64 v) = w6 at *
      all_goals obtain ⟨b0, b1, b2, f0, f1, f2⟩ := three HX5
      all_goals obtain ⟨p0, p1, p2, q0, q1, q2⟩ := three H4
      all_goals go_wp2_with fail
      all_goals obtain ⟨r0, r1, r2, _, _, _⟩ := three (frm.set3 H4 (.int .i64 k) (.int .i64 sq) (.slice (some ⟨g, o, none⟩) vs.length cap))
      all_goals exact bodyPost_ret (v := fr k sq (some ⟨g, o, none⟩) vs.length cap) (by simp [results, Tryz.results23, go_sem, r0, r1, r2]) rfl ⟨k, sq, v :: vs.drop 1, _, cap, by rw [← hl4.out], hI4.set3 hgr _ _ _, by have := hl4.out; omega, hgg, gr_new (gr_new (gr_new g5 (Nat.le_refl _) _ _) (Nat.le_refl _) _ _) (Nat.le_refl _) _ _, Cur.set (Cur.set (Cur.set h5 hq _ _) hq _ _) hq _ _⟩

set_option maxHeartbeats 1000000 in
theorem pick (b : Option Addr) (n c q : Nat) (s m : Int) (w : World) (hn : n ≤ 4096) (hb : Bytes w q b n) (hs0 : 0 ≤ s) (hs1 : s ≤ 100) (hm : 1 ≤ m) (hm2 : m ≤ 1000000) :
    Calls Tryz.prog 19 #[.slice b n c, .int .i64 s, .int .i64 m] w fun e w' => ∃ r : Int, 0 ≤ r ∧ r < m ∧ e = .returned (.int .i64 r) ∧ w = w' := by
  go_enter Tryz.func19, Tryz.ntmps19
  go_wp2_with fail
  go_loopw [7, 8] (fun k i wr => w = wr ∧ ∃ (j : Nat) (v : Int), j ≤ n ∧ i = .int .i64 j ∧ k = .int .i64 v ∧ 0 ≤ v ∧ v ≤ 2000000) (fun k i _ => n - (intOf i).toNat)
  case atStart => exact ⟨rfl, 0, _, Nat.zero_le _, rfl, rfl, by omega, by omega⟩
  case round =>
    obtain ⟨rfl, j, v, hj, rfl, rfl, hv0, hv1⟩ := hrel
    by_cases hlt : j < n
    · obtain ⟨x, z, rfl, hx, hz, hz0, hz1⟩ := hb j hlt
      go_wp2_with fail
      go_roundw
      case rel => exact ⟨trivial, j + 1, _, by omega, by go_num, rfl, by omega, by omega⟩
      case measure => simp [intOf]; omega
    · obtain rfl : j = n := by omega
      go_wp2_with fail
      go_ret
      exact ⟨v % m, Int.emod_nonneg _ (by omega), Int.emod_lt_of_pos _ (by omega), rfl, rfl⟩
end Go.Proofs.YtdikhdfpcipdbaaGreatDoor.frm

