/- Senses copied, compared, marked and held. A drawn region whose head is quiet in a class of worlds and whose last operations come in one order: walked once. Senses: their bulk, copied, compared. A drawn region whose operations make memory of their own: each is walked once, by what it leaves in its slot; the last ones come in one order. -/
import Derived.Test.YtdikhdfpcipdbaaGreatDoorG12
import Derived.StillTail
import Derived.Lib.QuietBelow
import Derived.KernelRfl
import Derived.Test.YtdikhdfpcipdbaaGreatDoorG2
/- Senses copied, compared, marked and held. -/
namespace Go.Proofs.YtdikhdfpcipdbaaGreatDoor.se
open Go.ChangeShapes Go.WideShapes Go.ChangeAt Go.RowKit
open Go.Proofs.YtdikhdfpcipdbaaGreatDoor.nums Go.Proofs.YtdikhdfpcipdbaaGreatDoor.mem
open Go.Proofs.YtdikhdfpcipdbaaGreatDoor.tab (Ret)
open Go.Proofs.YtdikhdfpcipdbaaGreatDoor.rd (R okR zR OwnR mkR mkR_len)
open Go.Proofs.YtdikhdfpcipdbaaGreatDoor.il (nth Ints Own mks mks_len)
set_option linter.unusedVariables false

theorem six {w : World} {g : Nat} {t : TypeId} {a b c d e f : Value} (k : Has w g t #[a, b, c, d, e, f]) :
    (w.cell? ⟨g, 0, none⟩ = some a ∧ w.cell? ⟨g, 1, none⟩ = some b ∧ w.cell? ⟨g, 2, none⟩ = some c) ∧ w.cell? ⟨g, 3, none⟩ = some d ∧ w.cell? ⟨g, 4, none⟩ = some e ∧ w.cell? ⟨g, 5, none⟩ = some f :=
  ⟨⟨k.cell 0, k.cell 1, k.cell 2⟩, k.cell 3, k.cell 4, k.cell 5⟩
theorem free6 {w : World} {g : Nat} {t : TypeId} {a b c d e f : Value} (k : Has w g t #[a, b, c, d, e, f]) :
    (w.frozen? ⟨g, 0, none⟩ = false ∧ w.frozen? ⟨g, 1, none⟩ = false ∧ w.frozen? ⟨g, 2, none⟩ = false) ∧ w.frozen? ⟨g, 3, none⟩ = false ∧ w.frozen? ⟨g, 4, none⟩ = false ∧ w.frozen? ⟨g, 5, none⟩ = false :=
  ⟨⟨k.frozen 0, k.frozen 1, k.frozen 2⟩, k.frozen 3, k.frozen 4, k.frozen 5⟩
/-- What the chapter may be asked of at most. -/
structure Bd (s : S) (n : Nat) : Prop where
  sp : s.sp.length ≤ n
  he : s.he.length ≤ n
  fa : s.fa.length ≤ n
  sq : s.sq.length ≤ n
/-- Where the marks of each list begin. -/
def m1 (m : Nat) (s : S) : Nat := m + 3 * s.sp.length
def m2 (m : Nat) (s : S) : Nat := m1 m s + 3 * s.he.length
def m3 (m : Nat) (s : S) : Nat := m2 m s + 3 * s.fa.length
def m4 (m : Nat) (s : S) : Nat := m3 m s + s.sq.length
def mkS (m : Nat) (s : S) : S := ⟨mkR m s.sp.length, mkR (m1 m s) s.he.length, mkR (m2 m s) s.fa.length, s.wn, s.ar, mks (m3 m s) s.sq.length⟩
def MarkedS (m : Nat) (s : S) (p : P) (w : World) (e : Ending) (w' : World) : Prop := e = .returned (.int .i64 (m4 m s : Int)) ∧ Chg (blkS s p) w w' ∧ Arg w' (mkS m s) p

theorem ownR_chg {S : Nat → Prop} {w w' : World} {a : Option Addr} {l : List R} (h : Chg S w w') (H : OwnR w a l) (hn : ∀ x : Addr, a = some x → ¬ S x.block) : OwnR w' a l := by
  rcases H with H | ⟨g, cs, rfl, hc, hj⟩
  · exact Or.inl H
  · exact Or.inr ⟨g, cs, rfl, h.has hc (hn _ rfl), hj⟩
theorem own_chg {S : Nat → Prop} {w w' : World} {a : Option Addr} {l : List Int} (h : Chg S w w') (H : Own w a l) (hn : ∀ x, il.blk a l = some x → ¬ S x) : Own w' a l := by
  rcases H with H | ⟨g, o, cs, rfl, hc, hj⟩
  · exact Or.inl H
  · by_cases hl : l = []
    · exact Or.inl hl
    · exact Or.inr ⟨g, o, cs, rfl, h.has hc (hn _ (il.blk_some hl)), hj⟩
theorem OwnS.chg {T : Nat → Prop} {b : Nat} {w w' : World} {s : S} {p : P} (h : OwnS b w s p) (hc : Chg T w w') (hn : ∀ c, blkS s p c → ¬ T c) : OwnS b w' s p :=
  ⟨ownR_chg hc h.sp (fun x e => hn _ (Or.inl ⟨x, e, rfl⟩)), ownR_chg hc h.he (fun x e => hn _ (Or.inr (Or.inl ⟨x, e, rfl⟩))), ownR_chg hc h.fa (fun x e => hn _ (Or.inr (Or.inr (Or.inl ⟨x, e, rfl⟩)))), own_chg hc h.sq (fun x e => hn _ (Or.inr (Or.inr (Or.inr e)))), h.b1, h.b2, h.b3, h.b4, h.d12, h.d13, h.d23⟩
theorem OwnR.int {w : World} {a : Option Addr} {l : List R} {b : Option Addr} {n : List Int} (h : OwnR w a l) (k : Own w b n) {x : Addr} (e : a = some x) : some x.block ≠ il.blk b n := by
  rcases h with ⟨h, _⟩ | ⟨g, cs, h, hc, hj⟩
  · rw [h] at e; cases e
  · rw [h] at e; injection e with e; subst e; exact k.ne hc (by decide)
end Go.Proofs.YtdikhdfpcipdbaaGreatDoor.se

/- A drawn region whose head is quiet in a class of worlds and whose last operations come in one order: walked once. -/
namespace Go.Proofs.YtdikhdfpcipdbaaGreatDoor.qt
open Go Go.Sort
variable {P : Program} {ops : Array Oper} {md : Region.Mode} {C : World → Prop}

/-- So many operations of the head are left, in whatever order; then L. -/
def headQ (P : Program) (md : Region.Mode) (ops : Array Oper) (C : World → Prop) (n : Nat) (L : Array Bool → Act → Prop) : Nat → Array Bool → Act → Prop
  | 0, ls, a => L ls a
  | f + 1, ls, a => Region.ready md ops ls ≠ [] ∧ ∀ i ∈ Region.ready md ops ls, i < n ∧ qOp P ops C i (headQ P md ops C n L f (ls.setIfInBounds i true)) a

theorem any_of_headQ {n g : Nat} {L : Array Bool → Act → Prop} {Q : Exit → Act → World → Prop} (hL : ∀ ls a w, C w → L ls a → wpAny P md ops Q g ls a w) (f : Nat) :
    ∀ (ls : Array Bool) (a : Act) (w : World), C w → headQ P md ops C n L f ls a → wpAny P md ops Q (f + g) ls a w := by
  induction f with
  | zero => intro ls a w hw h; rw [Nat.zero_add]; exact hL ls a w hw h
  | succ f ih =>
    intro ls a w hw h
    rw [Nat.succ_add]
    exact ⟨fun h0 => (h.1 h0).elim, fun i hi => wpOp_of_qOp hw (fun a' w' hw' k => ih _ a' w' hw' k) (h.2 i hi).2⟩

theorem headQ_first {n i : Nat} {oi : Oper} {v : Value} {L : Array Bool → Act → Prop} (hi : ops[i]? = some oi) (hsel : Region.noSelect ops = true)
    (hs : Region.sinkB md ops n = true) (hc : Region.chainB md ops n = true) (hn : n < ops.size) (hin : i < n)
    (hend : ∀ ls a, L ls a → ∀ j ∈ Region.ready md ops ls, n ≤ j) (f : Nat) :
    ∀ (ls : Array Bool) (a : Act), HeadInv md ops n ls →
      (∀ j oj, ops[j]? = some oj → j ≠ i → ls.getD j true = false → (∀ e ∈ oj.after, Region.binds md e = true → e.on ≠ i) → oi.apart ops oj = true) →
      i ∈ Region.ready md ops ls → YieldsIn P ops C oi v a →
      headQ P md ops C n L f (ls.setIfInBounds i true) (a.put oi.dst v) → headQ P md ops C n L (f + 1) ls a := by
  have nosel := Region.noSelect_spec hsel
  induction f with
  | zero =>
    intro ls a inv _ hr hy H
    refine ⟨List.ne_nil_of_mem hr, fun j hj => ?_⟩
    have hjn : j < n := Nat.lt_of_not_le fun h => tail_waits hs hc hn inv _ i rfl hin (mem_ready.1 hr).1 j h hj
    refine ⟨hjn, ?_⟩
    by_cases e : j = i
    · rw [e]; exact hy.qOp hi H
    · exact absurd (hend _ _ H j (ready_mono hj e)) (by omega)
  | succ f ih =>
    intro ls a inv hfree hr hy H
    have hun := (mem_ready.1 hr).1
    refine ⟨List.ne_nil_of_mem hr, fun j hj => ?_⟩
    have hjn : j < n := Nat.lt_of_not_le fun h => tail_waits hs hc hn inv _ i rfl hin hun j h hj
    refine ⟨hjn, ?_⟩
    by_cases e : j = i
    · rw [e]; exact hy.qOp hi H
    · obtain ⟨hjun, oj, hoj, hall⟩ := mem_ready.1 hj
      have hnot : ∀ x ∈ oj.after, Region.binds md x = true → x.on ≠ i := by
        intro x hx hb h0
        have h1 := hall x hx hb
        rw [h0, getD_both hun] at h1
        cases h1
      have h2 := qOp_put hoj (hfree j oj hoj e hjun hnot) (fun cs b => nosel i oi cs b hi) (fun cs b => nosel j oj cs b hoj) hy (H.2 j (ready_mono hj e)).2
      refine qOp_mono (fun a' h3 => ih (ls.setIfInBounds j true) a' (inv.set hj hjn) ?_ (ready_mono hr (Ne.symm e)) h3.1 ?_) h2
      · intro k ok hk hki hu hno
        refine hfree k ok hk hki ?_ hno
        by_cases hjk : j = k
        · subst hjk; exact hjun
        · rw [getD_set_ne true hjk] at hu; exact hu
      · rw [Array.setIfInBounds_comm _ _ e]; exact h3.2

theorem headQ_lex {n g : Nat} {Lq : Act → Prop} (hsel : Region.noSelect ops = true) (hs : Region.sinkB md ops n = true) (hc : Region.chainB md ops n = true) (hn : n < ops.size) (l : List Oper) :
    ∀ (k : Nat) (ls : Array Bool) (a : Act), (∀ j, j < l.length → l[j]? = ops[k + j]?) → k + l.length = n → HeadInv md ops n ls →
    Region.lexHead md ops g l.length k ls = true → wpQuiet P ops C Lq l a →
    headQ P md ops C n (fun ls' a' => Region.seqB md ops g n ls' = true ∧ Lq a') l.length ls a := by
  induction l with
  | nil =>
    intro k ls a _ hk _ hB h
    obtain rfl : k = n := by simpa using hk
    exact ⟨by simpa [Region.lexHead] using hB, h⟩
  | cons o l ih =>
    intro k ls a hl hk inv hB h
    have h0 : ops[k]? = some o := by simpa using (hl 0 (by simp)).symm
    rw [List.length_cons] at hB hk
    simp only [Region.lexHead, Bool.and_eq_true] at hB
    obtain ⟨⟨hr, hf⟩, hB'⟩ := hB
    have hkn : k < n := by omega
    have hr' : k ∈ Region.ready md ops ls := by simpa using hr
    obtain ⟨v, hy, hK⟩ := yieldsIn_of_qOp (C := C) (K := wpQuiet P ops C Lq l) h0 (by unfold qOp; simp only [h0]; exact h)
    refine headQ_first h0 hsel hs hc hn hkn (fun ls' a' hL => seqB_ready hL.1) l.length ls a inv (Region.free_spec h0 hf) hr' hy ?_
    refine ih (k + 1) _ _ (fun j hj => ?_) (by omega) (inv.set hr' hkn) hB' hK
    have := hl (j + 1) (by simp; omega)
    simpa [Nat.add_assoc, Nat.add_comm 1 j] using this

/-- The head (n operations) is quiet in C; the others come one by one. -/
theorem region_quiet_tail {id : Nat} {Q : Exit → Act → World → Prop} {a : Act} {w : World} {l : List Oper} (n : Nat) (hm : P.follows .mixedOrders = true) (hB : Region.lexTailB .any l.toArray n = true) (hC : C { w with drawn := w.drawn + 1 })
    (h : wpQuiet P l.toArray C (fun a' => ∀ w', C w' → wpList P l.toArray Q (l.drop n) a' w') (l.take n) a) : (Code.region id l.toArray true).wp P Q a w := by
  simp only [Region.lexTailB, Bool.and_eq_true, decide_eq_true_eq] at hB
  obtain ⟨⟨⟨⟨hsel, hn⟩, hs⟩, hc⟩, hlex⟩ := hB
  have hn' : n < l.length := by simpa using hn
  have htl : (l.take n).length = n := by simp; omega
  have hdl : (l.drop n).length = l.toArray.size - n := by simp
  have inv0 : HeadInv .any l.toArray n (Array.replicate l.toArray.size false) :=
    ⟨by simp, fun j oj _ hl => (by rw [getD_replicate_false] at hl; cases hl), fun t _ ht => getD_in (by simpa using ht) (getD_replicate_false _ _)⟩
  have H := headQ_lex (md := .any) (g := l.toArray.size - n) hsel hs hc hn (l.take n) 0 _ a (fun j hj => by
    have hj' : j < n := by rw [htl] at hj; exact hj
    simp [hj']) (by simpa using htl) inv0 (by rw [htl]; exact hlex) h
  refine wp_region_any hm ?_
  have K := any_of_headQ (Q := Q) (g := l.toArray.size - n) (fun ls a' w' hw' hL => by
    have := wpAny_of_seq (md := .any) (P := P) (l.drop n) n ls a' w' (fun j => by simp) (by rw [hdl]; exact hL.1) (hL.2 w' hw')
    rwa [hdl] at this) _ _ _ _ hC H
  rw [htl] at K
  rwa [show n + (l.toArray.size - n) = l.toArray.size by simp; omega] at K

/-- The class: w with some blocks laid behind it. -/
theorem region_below_tail {id : Nat} {Q : Exit → Act → World → Prop} {a : Act} {w : World} {l : List Oper} (n : Nat) (hm : P.follows .mixedOrders = true) (hB : Region.lexTailB .any l.toArray n = true)
    (h : wpQuiet P l.toArray (fun w' => ∃ p : Regrown, w' = grow (redrawn w p.d) p.os) (fun a' => ∀ w', (∃ p : Regrown, w' = grow (redrawn w p.d) p.os) → wpList P l.toArray Q (l.drop n) a' w') (l.take n) a) : (Code.region id l.toArray true).wp P Q a w :=
  region_quiet_tail n hm hB ⟨⟨w.drawn + 1, #[]⟩, by rw [grow_empty]; rfl⟩ h
open Go.Proofs.YtdikhdfpcipdbaaGreatDoor.mem Go.Proofs.YtdikhdfpcipdbaaGreatDoor.tab
theorem rg_ret {P : Program} {f : FuncId} {args : Array Value} {w : World} {d : Nat} {os : Array Obj} {v : Value}
    (h : Calls P f args (Go.Sort.grow (redrawn w d) os) (Ret v (Go.Sort.grow (redrawn w d) os))) : Calls P f args (Go.Sort.grow (redrawn w d) os) fun e w'' => e = .returned v ∧ ∃ p : Regrown, w'' = Go.Sort.grow (redrawn w p.d) p.os :=
  Calls.regrown_of (h.mono fun _ _ ⟨he, hg⟩ => ⟨he, below_of_none hg⟩)
theorem rg_same {P : Program} {f : FuncId} {args : Array Value} {w : World} {d : Nat} {os : Array Obj} {v : Value}
    (h : Calls P f args (Go.Sort.grow (redrawn w d) os) fun e w' => e = .returned v ∧ Go.Sort.grow (redrawn w d) os = w') : Calls P f args (Go.Sort.grow (redrawn w d) os) fun e w'' => e = .returned v ∧ ∃ p : Regrown, w'' = Go.Sort.grow (redrawn w p.d) p.os :=
  h.mono fun _ _ ⟨he, hm⟩ => ⟨he, ⟨d, os⟩, hm.symm⟩
theorem gr_rg (w : World) (d : Nat) (os : Array Obj) : w.grownBy (Go.Sort.grow (redrawn w d) os) none := gr_of_below (below_regrown w d os) none
end Go.Proofs.YtdikhdfpcipdbaaGreatDoor.qt

/- Senses: their bulk, copied, compared. -/
namespace Go.Proofs.YtdikhdfpcipdbaaGreatDoor.se
open Go.ChangeShapes Go.WideShapes Go.ChangeAt Go.RowKit
open Go.Proofs.YtdikhdfpcipdbaaGreatDoor.nums Go.Proofs.YtdikhdfpcipdbaaGreatDoor.mem
open Go.Proofs.YtdikhdfpcipdbaaGreatDoor.tab (Ret)
open Go.Proofs.YtdikhdfpcipdbaaGreatDoor.rd (R okR zR OwnR)
open Go.Proofs.YtdikhdfpcipdbaaGreatDoor.il (nth Ints Own)
set_option linter.unusedVariables false

theorem gr6 {a w : World} {g : Nat} (h : a.grownBy w none) (hg : a.heap.size ≤ g) (u0 u1 u2 u3 u4 u5 : Value) :
    a.grownBy ((((((w.setCell ⟨g, 0, none⟩ u0).setCell ⟨g, 1, none⟩ u1).setCell ⟨g, 2, none⟩ u2).setCell ⟨g, 3, none⟩ u3).setCell ⟨g, 4, none⟩ u4).setCell ⟨g, 5, none⟩ u5) none :=
  gr_new (gr_new (gr_new (gr_new (gr_new (gr_new h hg _ _) hg _ _) hg _ _) hg _ _) hg _ _) hg _ _
theorem set6 {w : World} {g : Nat} {t : TypeId} {a b c d e f : Value} (k : Has w g t #[a, b, c, d, e, f]) (u0 u1 u2 u3 u4 u5 : Value) :
    Has ((((((w.setCell ⟨g, 0, none⟩ u0).setCell ⟨g, 1, none⟩ u1).setCell ⟨g, 2, none⟩ u2).setCell ⟨g, 3, none⟩ u3).setCell ⟨g, 4, none⟩ u4).setCell ⟨g, 5, none⟩ u5) g t #[u0, u1, u2, u3, u4, u5] :=
  (((((k.put 0 u0 rfl).put 1 u1 rfl).put 2 u2 rfl).put 3 u3 rfl).put 4 u4 rfl).put 5 u5 rfl
/-- A store into an older block of one's own is seen by none of what is kept. -/
theorem OwnS.set {b : Nat} {w : World} {s : S} {p : P} (h : OwnS b w s p) (g i : Nat) (u : Value) (hg : ∀ c, blkS s p c → c ≠ g) : OwnS b (w.setCell ⟨g, i, none⟩ u) s p :=
  h.chg (T := fun c => c = g) (chg_of_gr (gr_set (gr_refl w (some g)) i u) (fun b e => by injection e)) hg
theorem OwnS.set6 {b : Nat} {w : World} {s : S} {p : P} (h : OwnS b w s p) (g : Nat) (hg : g < b) (u0 u1 u2 u3 u4 u5 : Value) :
    OwnS b ((((((w.setCell ⟨g, 0, none⟩ u0).setCell ⟨g, 1, none⟩ u1).setCell ⟨g, 2, none⟩ u2).setCell ⟨g, 3, none⟩ u3).setCell ⟨g, 4, none⟩ u4).setCell ⟨g, 5, none⟩ u5) s p := by
  have hn : ∀ (W : World) (K : OwnS b W s p) c, blkS s p c → c ≠ g := fun W K c hc e => by have := (K.lt hc).1; omega
  have h0 := h.set g 0 u0 (hn _ h)
  have h1 := h0.set g 1 u1 (hn _ h0)
  have h2 := h1.set g 2 u2 (hn _ h1)
  have h3 := h2.set g 3 u3 (hn _ h2)
  have h4 := h3.set g 4 u4 (hn _ h3)
  exact h4.set g 5 u5 (hn _ h4)

end Go.Proofs.YtdikhdfpcipdbaaGreatDoor.se

/- A drawn region whose operations make memory of their own: each is walked once, by what it leaves in its slot; the last ones come in one order. -/
namespace Go.Proofs.YtdikhdfpcipdbaaGreatDoor.iv
open Go
open Go.Proofs.YtdikhdfpcipdbaaGreatDoor.mem
variable {P : Program}

/-- Each of the first n operations waits only for what stands ahead of it. -/
def lowB (ops : Array Oper) (n : Nat) : Bool := (List.range n).all fun i => match ops[i]? with
  | some o => o.after.all fun e => decide (e.on < i)
  | none => false
def canon (n m : Nat) : Array Bool := (Array.range m).map fun j => decide (j < n)
/-- Where the region stands: what the operations that have come up have left. -/
structure Inv (d : Nat → Nat) (n : Nat) (Φ : Nat → Value → World → Prop) (a0 : Act) (w0 : World) (ls : Array Bool) (a : Act) (w : World) : Prop where
  gr : w0.grownBy w none
  sz : a.tmps.size = a0.tmps.size
  df : a.defers = a0.defers
  old : ∀ k, (∀ j, j < n → d j ≠ k) → a.tmps[k]? = a0.tmps[k]?
  new : ∀ j, j < n → ls.getD j false = true → ∃ v, a.tmps[d j]? = some v ∧ Φ j v w

theorem wpOp_of_list {ops : Array Oper} {Q : Exit → Act → World → Prop} {K : Act → World → Prop} {i : Nat} {o : Oper} {a : Act} {w : World} (hi : ops[i]? = some o)
    (h : wpList P ops (fun x a' w' => x = .normal ∧ K a' w') [o] a w) : wpOp P ops Q i K a w := by
  unfold wpOp
  simp only [hi]
  unfold wpList at h
  split
  · rename_i hw
    rw [if_pos hw] at h
    have h := h.resolve_right (fun ⟨_, _, _, hh, _⟩ => by cases hh)
    refine .inl ?_
    unfold Oper.wp at *
    generalize (execOp a.eval o).run P w = r at *
    cases r with
    | ok n w' =>
      cases n <;> simp only [Oper.upon, wpList] at h ⊢
      case value u => exact h.2
      case skip => exact h.2
      case defer dd => exact h.2
      case enter f args =>
        refine Calls.mono h fun e w'' he => ?_
        cases e with
        | returned u => exact he.2
        | panicked c => cases he.1
        | outgrown => obtain ⟨_, _, hh, _⟩ := he; cases hh
      case row row args => exact Rows.mono h fun u w'' he => he.2
    | halt x w' =>
      cases x <;> simp only [Oper.upon] at h
      case panic u => cases h.1
  · rename_i hw
    rw [if_neg hw] at h
    simp only [wpList] at h
    exact h.2

theorem region_inv {id : Nat} {Q : Exit → Act → World → Prop} {a0 : Act} {w0 : World} {l : List Oper} (n : Nat) (d : Nat → Nat) (Φ : Nat → Value → World → Prop)
    (hm : P.follows .mixedOrders = true) (hs0 : Region.sinkB .any l.toArray n = true) (hc0 : Region.chainB .any l.toArray n = true) (hn : n < l.toArray.size) (hl0 : lowB l.toArray n = true)
    (hC : Region.seqB .any l.toArray (l.length - n) n (canon n l.toArray.size) = true)
    (hd : ∀ i j, i < n → j < n → d i = d j → i = j) (hlt : ∀ i, i < n → d i < a0.tmps.size)
    (stab : ∀ j v w w', Φ j v w → w.grownBy w' none → Φ j v w')
    (hs : ∀ i o a w, i < n → l[i]? = some o → w0.grownBy w none → a.tmps.size = a0.tmps.size → a.defers = a0.defers → (∀ k, (∀ j, j < n → d j ≠ k) → a.tmps[k]? = a0.tmps[k]?) →
      (∀ e ∈ o.after, Region.binds .any e = true → ∃ v, a.tmps[d e.on]? = some v ∧ Φ e.on v w) →
      wpList P l.toArray (fun x a' w' => x = .normal ∧ ∃ v, a' = a.put (some (d i)) v ∧ w.grownBy w' none ∧ Φ i v w') [o] a w)
    (ht : ∀ a w, w0.grownBy w none → a.tmps.size = a0.tmps.size → a.defers = a0.defers → (∀ k, (∀ j, j < n → d j ≠ k) → a.tmps[k]? = a0.tmps[k]?) →
      (∀ j, j < n → ∃ v, a.tmps[d j]? = some v ∧ Φ j v w) → wpList P l.toArray Q (l.drop n) a w) : (Code.region id l.toArray true).wp P Q a0 w0 := by
  have hlow : ∀ i o, i < n → l.toArray[i]? = some o → ∀ e ∈ o.after, e.on < i := by
    intro i o hi ho e he
    have h := List.all_eq_true.1 hl0 i (List.mem_range.2 hi)
    simp only [ho] at h
    have := Array.all_eq_true'.1 h e he
    simpa using this
  have key : ∀ (f : Nat) (ls : Array Bool) (a : Act) (w : World), HeadInv .any l.toArray n ls → (List.range n).countP (fun j => !ls.getD j false) = f → Inv d n Φ a0 w0 ls a w →
      wpAny P .any l.toArray Q (f + (l.length - n)) ls a w := by
    intro f
    induction f with
    | zero =>
      intro ls a w inv hf I
      have hall : ∀ j, j < n → ls.getD j false = true := fun j hj => by
        have := List.countP_eq_zero.1 hf j (List.mem_range.2 hj)
        simpa using this
      have hls : ls = canon n l.toArray.size := by
        apply Array.ext
        · rw [inv.size]; simp [canon]
        · intro k h1 h2
          have e2 : (canon n l.toArray.size)[k] = decide (k < n) := by simp [canon]
          rw [e2]
          by_cases hk : k < n
          · have := hall k hk
            simp [h1] at this
            rw [this, decide_eq_true hk]
          · have := inv.tail k (by omega) (by rw [← inv.size]; exact h1)
            simp [h1] at this
            rw [this, decide_eq_false hk]
      rw [Nat.zero_add]
      have hT := ht a w I.gr I.sz I.df I.old (fun j hj => I.new j hj (hall j hj))
      have hdl : (l.drop n).length = l.length - n := by simp
      have := wpAny_of_seq (md := .any) (P := P) (ops := l.toArray) (Q' := Q) (l.drop n) n ls a w (fun j => by simp) (by rw [hdl, hls]; exact hC) hT
      rwa [hdl] at this
    | succ f ih =>
      intro ls a w inv hf I
      rw [Nat.succ_add]
      -- one of the heads has not come up: the least of them may
      have hex : ∃ j, j < n ∧ ls.getD j false = false := by
        have h0 : 0 < (List.range n).countP (fun j => !ls.getD j false) := by omega
        obtain ⟨j, hj, h⟩ := List.countP_pos_iff.1 h0
        exact ⟨j, List.mem_range.1 hj, by simpa using h⟩
      have hleast : ∃ j, j < n ∧ ls.getD j false = false ∧ ∀ i, i < j → ls.getD i false = true := by
        obtain ⟨j, hj, h⟩ := hex
        induction j using Nat.strongRecOn with
        | _ j ihj =>
          by_cases hx : ∃ i, i < j ∧ ls.getD i false = false
          · obtain ⟨i, hi, h'⟩ := hx
            exact ihj i hi (by omega) h'
          · exact ⟨j, hj, h, fun i hi => by
              cases hh : ls.getD i false with
              | true => rfl
              | false => exact absurd ⟨i, hi, hh⟩ hx⟩
      obtain ⟨j0, hj0, hu0, hbelow⟩ := hleast
      have hun : ls.getD j0 true = false := getD_in (by rw [inv.size]; omega) hu0
      have hready : j0 ∈ Region.ready .any l.toArray ls := by
        refine mem_ready.2 ⟨hun, ?_⟩
        have hsz : j0 < l.toArray.size := by omega
        refine ⟨l.toArray[j0], Array.getElem?_eq_getElem hsz, fun e he _ => hbelow _ (hlow j0 _ hj0 (Array.getElem?_eq_getElem hsz) e he)⟩
      refine ⟨fun h => (by rw [h] at hready; cases hready), fun i hi => ?_⟩
      have hin : i < n := Nat.lt_of_not_le fun h => tail_waits hs0 hc0 hn inv _ j0 rfl hj0 hun i h hi
      obtain ⟨hiu, o, ho, hall⟩ := mem_ready.1 hi
      have hol : l[i]? = some o := by simpa using ho
      have hdeps : ∀ e ∈ o.after, Region.binds .any e = true → ∃ v, a.tmps[d e.on]? = some v ∧ Φ e.on v w := fun e he hb =>
        I.new e.on (Nat.lt_trans (hlow i o hin ho e he) hin) (hall e he hb)
      have H := hs i o a w hin hol I.gr I.sz I.df I.old hdeps
      refine wpOp_mono (fun a' w' hK => ?_) (wpOp_of_list ho H)
      obtain ⟨v, rfl, hg, hv⟩ := hK
      refine ih _ _ _ (inv.set hi hin) ?_ ?_
      · -- one head less
        have hi2 : ls.getD i false = false := getD_both hiu
        have e1 : (List.range n).countP (fun j => !ls.getD j false) = (List.range n).countP (fun j => !(ls.setIfInBounds i true).getD j false) + 1 := by
          have hil : i < ls.size := by rw [inv.size]; omega
          have hnew : (ls.setIfInBounds i true).getD i false = true := by simp [hil]
          have key2 : ∀ m, m ≤ n → (List.range m).countP (fun j => !ls.getD j false) = (List.range m).countP (fun j => !(ls.setIfInBounds i true).getD j false) + (if i < m then 1 else 0) := by
            intro m
            induction m with
            | zero => intro _; simp
            | succ m ihm =>
              intro hm'
              rw [List.range_succ, List.countP_append, List.countP_append, ihm (by omega)]
              by_cases him : i = m
              · subst him
                have a1 : List.countP (fun j => !ls.getD j false) [i] = 1 := by rw [List.countP_cons, hi2]; rfl
                have a2 : List.countP (fun j => !(ls.setIfInBounds i true).getD j false) [i] = 0 := by rw [List.countP_cons, hnew]; rfl
                rw [a1, a2, if_neg (Nat.lt_irrefl _), if_pos (Nat.lt_succ_self _)]
              · have : (ls.setIfInBounds i true).getD m false = ls.getD m false := getD_set_ne false him
                simp only [List.countP_cons, List.countP_nil, this]
                by_cases h3 : i < m
                · have h4 : i < m + 1 := by omega
                  rw [if_pos h3, if_pos h4]; omega
                · have h4 : ¬ i < m + 1 := by omega
                  rw [if_neg h3, if_neg h4]; omega
          have := key2 n (Nat.le_refl _)
          rwa [if_pos hin] at this
        omega
      · have hdi : d i < a.tmps.size := by rw [I.sz]; exact hlt i hin
        refine ⟨gr_trans I.gr hg, by simpa [Act.put] using I.sz, by simpa [Act.put] using I.df, fun k hk => ?_, fun j hj hl => ?_⟩
        · have hne : d i ≠ k := hk i hin
          show (a.tmps.setIfInBounds (d i) v)[k]? = _
          rw [Array.getElem?_setIfInBounds_ne hne]; exact I.old k hk
        · by_cases hji : j = i
          · subst hji
            exact ⟨v, Array.getElem?_setIfInBounds_self_of_lt hdi, hv⟩
          · rw [getD_set_ne false (Ne.symm hji)] at hl
            obtain ⟨u, hu, hp⟩ := I.new j hj hl
            refine ⟨u, ?_, stab _ _ _ _ hp hg⟩
            have hne : d i ≠ d j := fun e => hji (hd i j hin hj e).symm
            show (a.tmps.setIfInBounds (d i) v)[d j]? = _
            rw [Array.getElem?_setIfInBounds_ne hne]; exact hu
  refine wp_region_any hm ?_
  have inv0 : HeadInv .any l.toArray n (Array.replicate l.toArray.size false) :=
    ⟨by simp, fun j oj _ hl => (by rw [getD_replicate_false] at hl; cases hl), fun t _ ht => getD_in (by simpa using ht) (getD_replicate_false _ _)⟩
  have hcount : (List.range n).countP (fun j => !(Array.replicate l.toArray.size false).getD j false) = n := by
    rw [List.countP_eq_length.2 (fun j _ => by rw [getD_replicate_false]; rfl)]; simp
  have H := key n _ a0 { w0 with drawn := w0.drawn + 1 } inv0 hcount ⟨gr_drewN (gr_refl w0 none) 1, rfl, rfl, fun _ _ => rfl, fun j _ hl => (by rw [getD_replicate_false] at hl; cases hl)⟩
  have hsz : n + (l.length - n) = l.toArray.size := by simp at hn ⊢; omega
  rwa [hsz] at H
end Go.Proofs.YtdikhdfpcipdbaaGreatDoor.iv

