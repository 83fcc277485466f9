/- A range over an iterator that writes one box of its own between the rounds, and whose body goes on every time. Nothing here names the program. -/
import Derived.RangeFuncNested
import Derived.RangeFuncBound
import Derived.RangeFuncCalls
import Derived.RangeFuncLeaves
import Derived.Below
namespace Go.Proofs.YtfobbjimcmjfkaaDoor.rbox
open Go.RowKit
variable {F : Fence} {n : Nat} {P : Program}

/-- How a round's body ends: it goes on, the loop's own blocks and the iterator's box as they lay. -/
def GoesOn {α : Type} (B Bs : Nat) (I : List α → World → Prop) (xs : List α) (W : World) : Exit → Act → World → Prop
  | .normal, _, W' => KeepsFrom B W W' ∧ W'.heap[Bs]? = W.heap[Bs]? ∧ I xs W'
  | _, _, _ => False

/-- The iterator's contract: whatever of its caller's abides a change of its box. -/
def SeqBox {α : Type} (F : Fence) (n : Nat) (P : Program) (gf : Nat) (lb : Array Value) (encs : α → Array Value) (Bs : Nat) (S : List α → Prop) (w : World) : Prop :=
  ∀ (l : Nat) (J : List α → World → Prop) (W : World), (∀ s A B, J s A → A.grownBy B (some Bs) → J s B) →
    (∀ pre x W1, J pre W1 → YieldAt F (n - 1) P l (encs x) W1 fun e W' => e = .returned (.bool true) ∧ J (pre ++ [x]) W' ∧ W'.heap[Bs]? = W1.heap[Bs]?) →
    W.heap[Bs]? = w.heap[Bs]? → J [] W →
    CallsIn F n P gf (#[.func (.yield l) #[] #[]] ++ lb) W fun e W' => (∃ v, e = .returned v) ∧ ∃ xs, S xs ∧ J xs W'

/-- The loop's two blocks: its record, ready, and the one for deferred calls. -/
def Two (B : Nat) (r : Loop) (W : World) : Prop := W.heap[B + 1]? = some (.loop r) ∧ W.heap[B]? = some (.deferred (some []))
theorem Two.lt {B : Nat} {r : Loop} {W : World} (h : Two B r W) : B + 1 < W.heap.size := (Array.getElem?_eq_some_iff.1 h.1).1
theorem Two.put {B : Nat} {r r' : Loop} {W : World} (h : Two B r W) : Two B r' (W.putObj (B + 1) (.loop r')) :=
  ⟨World.putObj_heap_same h.lt, (World.putObj_heap_other (by omega)).trans h.2⟩
theorem Two.keeps {B : Nat} {r : Loop} {W W' : World} (h : Two B r W) (k : KeepsFrom B W W') : Two B r W' := ⟨k.same _ _ (by omega) h.1 rfl, k.same _ _ (Nat.le_refl _) h.2 rfl⟩
theorem Two.box {B Bs : Nat} {r : Loop} {W W' : World} (h : Two B r W) (hs : Bs < B) (hg : W.grownBy W' (some Bs)) : Two B r W' :=
  ⟨(hg.block _ h.lt (fun e => by injection e with e; omega)).trans h.1, (hg.block _ (by have := h.lt; omega) (fun e => by injection e with e; omega)).trans h.2⟩
theorem own_put {α : Type} {B : Nat} {r r' : Loop} {I : List α → World → Prop} (hI : OwnFrom B I) {xs : List α} {W : World} (h : Two B r W) (hi : I xs W) : I xs (W.putObj (B + 1) (.loop r')) :=
  hI.putObj _ hi (by omega) h.1 rfl

theorem range {α : Type} {g : Operand} {ps : Array Tmp} {assign body : Code} {Q : Exit → Act → World → Prop} {a : Act} {w : World}
    (hro : F.round = none) (h1 : 1 ≤ n) {gf : Nat} {lb : Array Value} (hg : a.eval g = .func (.func gf) #[] lb) (hFg : F.fn gf) (eg : ∀ args w, (callFunc gf args).run P w = .ok (.enter gf args) w)
    {encs : α → Array Value} {S : List α → Prop} {Bs : Nat} (hBs : Bs < w.heap.size) (hseq : SeqBox F (n - 1) P gf lb encs Bs S w) (hps : ∀ x, (encs x).size = ps.size)
    (I : List α → World → Prop) (hI : OwnFrom w.heap.size I) (hIb : ∀ s A B, I s A → A.grownBy B (some Bs) → I s B) (h0 : I [] w) (a₁ : α → Act)
    (hassign : ∀ (l : Nat) (x : α) (W : World) (K : Act → World → Prop), K (a₁ x) W →
      assign.wpIn (F.inRound l) (n - 1 - 1) P (Exit.then K (fun _ _ _ => False)) { tmps := (ps.zip (encs x)).foldl (fun t (p, v) => t.setIfInBounds p v) a.tmps, defers := [] } W)
    (hbody : ∀ (l : Nat) (pre : List α) (x : α) (W : World), I pre W → body.wpIn (F.inRound l) (n - 1 - 1) P (GoesOn w.heap.size Bs I (pre ++ [x]) W) (a₁ x) W)
    (hdone : ∀ (D : Nat) (xs : List α) (W : World), w.heap.size ≤ D → S xs → I xs W → W.heap[D]? = some (.deferred (some [])) → Q .normal { a with defers := { target := .collected D, args := #[] } :: a.defers } W) :
    (Code.rangeFunc g ps assign body).wpIn F n P Q a w := by
  refine wpIn_rangeFunc fun fn hfn => ?_
  rw [hro]
  -- the record, in whatever state
  have hrun := run_enterLoop_outer (P := P) (w := w) fn a.tmps ps assign body
  generalize hr0 : ({ state := .ready, pending := none, fn := fn, tmps := a.tmps, params := ps, assign := assign, body := body, defers := w.heap.size } : Loop) = r0 at hrun
  have hT : Two w.heap.size r0 ((w.alloc (.deferred (some []))).alloc (.loop r0)) := by
    refine ⟨?_, (Below.heap_alloc _ _ _ (by simp)).trans (World.alloc_heap_new w _)⟩
    have := World.alloc_heap_new (w.alloc (.deferred (some []))) (.loop r0)
    rwa [World.size_alloc] at this
  have hI1 : I [] ((w.alloc (.deferred (some []))).alloc (.loop r0)) := hI.alloc _ (hI.alloc _ h0)
  have hB1 : ((w.alloc (.deferred (some []))).alloc (.loop r0)).heap[Bs]? = w.heap[Bs]? := (Below.heap_alloc _ _ _ (by simp; omega)).trans (Below.heap_alloc _ _ _ hBs)
  generalize (w.alloc (.deferred (some []))).alloc (.loop r0) = W1 at hrun hT hI1 hB1
  refine ⟨_, _, W1, { target := .fn (.func gf) lb, args := #[.func (.yield (w.heap.size + 1)) #[] #[]] }, W1, gf, #[.func (.yield (w.heap.size + 1)) #[] #[]] ++ lb, W1, hrun, ?_, ?_, ?_, fun _ => h1, ?_⟩
  · simp only [resolve, hg]; simp [go_sem]
  · intro f' hf'; simp [Target.leads] at hf'; subst hf'; exact hFg
  · simp [invoke, go_sem, eg]
  · refine (hseq (w.heap.size + 1) (fun pre W => I pre W ∧ Two w.heap.size r0 W) _ (fun s A B hs hgr => ⟨hIb s A B hs.1 hgr, hs.2.box hBs hgr⟩) ?_ hB1 ⟨hI1, hT⟩).mono ?_
    · rintro pre x W ⟨hi, ht⟩
      have hst : r0.state = .ready := by rw [← hr0]
      have hpa : r0.params = ps := by rw [← hr0]
      have hy := run_yield (P := P) (args := encs x) ht.1 (by rw [hpa]; exact hps x)
      have hb := run_beginRound (P := P) ht.1 hst
      refine ⟨_, _, _, _, hy, ?_⟩
      have e1 : r0.fn = fn := by rw [← hr0]
      have e2 : r0.tmps = a.tmps := by rw [← hr0]
      have e3 : r0.assign = assign := by rw [← hr0]
      have e4 : r0.body = body := by rw [← hr0]
      rw [e1, e2, e3, e4, hpa]
      refine roundIn_of_wpIn hfn (hassign _ x W _ ⟨_, hb, ?_⟩)
      refine wpIn_mono (hbody _ pre x _ (own_put hI ht hi)) ?_
      rintro e a3 W3 hp
      cases e with
      | normal =>
        obtain ⟨hk, hbx, hi3⟩ := hp
        have t3 := (ht.put (r' := { r0 with state := .busy })).keeps hk
        have he := run_endRound (P := P) none t3.1
        have hback : ({ ({ r0 with state := .busy } : Loop) with state := if (none : Option Code).isNone then .ready else .done, pending := none } : Loop) = r0 := by rw [← hr0]; rfl
        rw [hback] at he
        have hBl : Bs ≠ w.heap.size + 1 := by omega
        exact ⟨_, _, he, rfl, ⟨own_put hI t3 hi3, t3.put⟩, (World.putObj_heap_other hBl).trans (hbx.trans (World.putObj_heap_other hBl))⟩
      | ret => exact hp.elim
      | exit id => exact hp.elim
      | goto t => exact hp.elim
      | panic ch => exact hp.elim
      | outgrown => exact hp.elim
    · rintro e W2 ⟨⟨v, rfl⟩, xs, hS, hi, ht⟩
      have hst : r0.state ≠ .busy := by rw [← hr0]; simp
      have hpe : r0.pending = none := by rw [← hr0]
      have he := run_endLoop (P := P) ht.1 hst
      rw [hpe] at he
      exact ⟨none, _, he, hdone _ xs _ (Nat.le_refl _) hS (own_put hI ht hi) ((World.putObj_heap_other (by omega)).trans ht.2)⟩
end Go.Proofs.YtfobbjimcmjfkaaDoor.rbox
