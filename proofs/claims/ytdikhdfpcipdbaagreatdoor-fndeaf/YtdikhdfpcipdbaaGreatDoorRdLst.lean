/- Lists of readings in memory: read, grown, copied, compared, marked. -/
import Derived.Test.YtdikhdfpcipdbaaGreatDoorRdArg
import Derived.Deep.AppendLies
namespace Go.Proofs.YtdikhdfpcipdbaaGreatDoor.rd
open Go.ChangeShapes Go.WideShapes Go.ChangeAt Go.RowKit
open Go.Proofs.YtdikhdfpcipdbaaGreatDoor.nums Go.Proofs.YtdikhdfpcipdbaaGreatDoor.mem
open Go.Proofs.YtdikhdfpcipdbaaGreatDoor.tab (Ret quiet_w wpList_make_has add_off)
set_option linter.unusedVariables false

def rx (l : List R) (k : Nat) : Int := (l.getD k zR).1
def ra (l : List R) (k : Nat) : Int := (l.getD k zR).2.1
def ro (l : List R) (k : Nat) : Bool := (l.getD k zR).2.2
theorem rr (l : List R) (k : Nat) : l.getD k zR = (rx l k, ra l k, ro l k) := rfl
theorem getD_lt {l : List R} {k : Nat} (h : k < l.length) : l.getD k zR = l[k] := by simp [List.getD, h]
theorem rx_map {f : R → R} {l : List R} {k : Nat} (h : k < l.length) : (l.map f).getD k zR = f (rx l k, ra l k, ro l k) := by
  rw [← rr, getD_lt (by simpa using h), getD_lt h, List.getElem_map]
/-- The cells of a list of readings. -/
def rowR : List R → List Value
  | [] => []
  | r :: l => .int .i64 r.1 :: .int .i64 r.2.1 :: .bool r.2.2 :: rowR l
theorem rowR_snoc (l : List R) (r : R) : rowR (l ++ [r]) = rowR l ++ [.int .i64 r.1, .int .i64 r.2.1, .bool r.2.2] := by
  induction l with
  | nil => rfl
  | cons x l ih => simp only [List.cons_append, rowR, ih]
theorem rowR_at : ∀ (l : List R) (k : Nat), k < l.length → (rowR l)[k * 3]? = some (.int .i64 (rx l k)) ∧ (rowR l)[k * 3 + 1]? = some (.int .i64 (ra l k)) ∧ (rowR l)[k * 3 + 2]? = some (.bool (ro l k)) := by
  intro l
  induction l with
  | nil => intro k h; simp at h
  | cons x l ih =>
    intro k hk
    cases k with
    | zero => exact ⟨rfl, rfl, rfl⟩
    | succ k =>
      obtain ⟨h0, h1, h2⟩ := ih k (by simpa using hk)
      rw [show (k + 1) * 3 = k * 3 + 1 + 1 + 1 by omega]
      refine ⟨?_, ?_, ?_⟩
      · simp only [rowR, List.getElem?_cons_succ]; exact h0
      · simp only [rowR, List.getElem?_cons_succ]; exact h1
      · simp only [rowR, List.getElem?_cons_succ]; exact h2

/-- The slice holds these readings, each in three cells, in a block of the world. -/
def Arg (w : World) (a : Option Addr) (l : List R) : Prop :=
  ∀ k, k < l.length → ∃ x : Addr, a = some x ∧ x.block < w.heap.size ∧ w.cell? (x.add (k * 3)) = some (.int .i64 (rx l k)) ∧ w.cell? ⟨(x.add (k * 3)).block, (x.add (k * 3)).off + 1, none⟩ = some (.int .i64 (ra l k)) ∧ w.cell? ⟨(x.add (k * 3)).block, (x.add (k * 3)).off + 2, none⟩ = some (.bool (ro l k))
theorem Arg.nil (w : World) (a : Option Addr) : Arg w a [] := fun k hk => by simp at hk
theorem Arg.grown {w w' : World} {a : Option Addr} {l : List R} {row : Option Nat} (h : Arg w a l) (hg : w.grownBy w' row) (hn : ∀ x : Addr, a = some x → some x.block ≠ row) : Arg w' a l := by
  intro k hk
  obtain ⟨x, e, hb, h1, h2, h3⟩ := h k hk
  have hne : some (x.add (k * 3)).block ≠ row := by rw [block_add]; exact hn x e
  refine ⟨x, e, Nat.lt_of_lt_of_le hb hg.size, ?_, ?_, ?_⟩
  · rw [← h1]; exact World.cell?_of_block (hg.block _ (by rw [block_add]; omega) hne)
  · rw [← h2]; exact World.cell?_of_block (hg.block _ (by show (x.add (k * 3)).block < _; rw [block_add]; omega) hne)
  · rw [← h3]; exact World.cell?_of_block (hg.block _ (by show (x.add (k * 3)).block < _; rw [block_add]; omega) hne)
theorem Arg.kept {w w' : World} {a : Option Addr} {l : List R} (h : Arg w a l) (hg : w.grownBy w' none) : Arg w' a l := h.grown hg (fun x e => by simp)
theorem add0 (g m : Nat) : (⟨g, 0, none⟩ : Addr).add m = ⟨g, m, none⟩ := by unfold Addr.add; split <;> simp_all
/-- A row of one's own that holds them. -/
theorem arg_of_row {w : World} {base m cap : Nat} {a : Option Addr} {l : List R} (h : w.ownsRow base 42 3 (.slice a m cap) l.length (rowR l)) : Arg w a l := by
  intro k hk
  rcases h.2 with ⟨_, hn⟩ | ⟨g, cap', cur, hv, _, hc, _⟩
  · omega
  · injection hv with hv1 hv2 hv3
    subst hv1
    have hrow := h
    obtain ⟨h0, h1, h2⟩ := rowR_at l k hk
    rw [hv2] at hrow
    refine ⟨_, rfl, Has.lt hc, ?_, ?_, ?_⟩
    · rw [add0, hrow.cellAt (k * 3) (by omega)]; exact h0
    · rw [add0]; show w.cell? ⟨g, k * 3 + 1, none⟩ = _; rw [hrow.cellAt (k * 3 + 1) (by omega)]; exact h1
    · rw [add0]; show w.cell? ⟨g, k * 3 + 2, none⟩ = _; rw [hrow.cellAt (k * 3 + 2) (by omega)]; exact h2
/-- The block of a slice, where there is one. -/
def blk (a : Option Addr) : Option Nat := a.map Addr.block
/-- The readings lie in a block of their own that is known whole, or there are none. -/
def OwnR (w : World) (a : Option Addr) (l : List R) : Prop :=
  (a = none ∧ l = []) ∨ ∃ (g : Nat) (cs : Array Value), a = some ⟨g, 0, none⟩ ∧ Has w g 42 cs ∧ ∀ k, k < l.length → cs[k * 3]? = some (.int .i64 (rx l k)) ∧ cs[k * 3 + 1]? = some (.int .i64 (ra l k)) ∧ cs[k * 3 + 2]? = some (.bool (ro l k))
theorem OwnR.arg {w : World} {a : Option Addr} {l : List R} (h : OwnR w a l) : Arg w a l := by
  rcases h with ⟨rfl, rfl⟩ | ⟨g, cs, rfl, hc, hj⟩
  · exact Arg.nil _ _
  · intro k hk
    obtain ⟨h0, h1, h2⟩ := hj k hk
    refine ⟨_, rfl, hc.lt, ?_, ?_, ?_⟩
    · rw [add0, hc.cell]; exact h0
    · rw [add0]; show w.cell? ⟨g, k * 3 + 1, none⟩ = _; rw [hc.cell]; exact h1
    · rw [add0]; show w.cell? ⟨g, k * 3 + 2, none⟩ = _; rw [hc.cell]; exact h2
theorem OwnR.grown {w w' : World} {a : Option Addr} {l : List R} {row : Option Nat} (h : OwnR w a l) (hg : w.grownBy w' row) (hn : ∀ x : Addr, a = some x → some x.block ≠ row) : OwnR w' a l := by
  rcases h with h | ⟨g, cs, rfl, hc, hj⟩
  · exact Or.inl h
  · exact Or.inr ⟨g, cs, rfl, hc.grown hg (hn _ rfl), hj⟩
theorem OwnR.kept {w w' : World} {a : Option Addr} {l : List R} (h : OwnR w a l) (hg : w.grownBy w' none) : OwnR w' a l := h.grown hg (fun x e => by simp)
theorem OwnR.lt {w : World} {a : Option Addr} {l : List R} (h : OwnR w a l) {x : Addr} (e : a = some x) : x.block < w.heap.size := by
  rcases h with ⟨h, _⟩ | ⟨g, cs, h, hc, hj⟩
  · rw [h] at e; cases e
  · rw [h] at e; injection e with e; subst e; exact hc.lt

theorem infoReading : (Tryz.prog.info? 42).map (fun i => (i.zero, i.size, i.bytes)) = some (some (.agg #[.int .i64 0, .int .i64 0, .bool false]), 3, 24) := by kernel_rfl

/-- A list of its own comes back: of what was there nothing is another. -/
def RetO (l : List R) (w : World) (e : Ending) (w' : World) : Prop := ∃ a cap, e = .returned (.slice a l.length cap) ∧ w.grownBy w' none ∧ OwnR w' a l ∧ ∀ x : Addr, a = some x → w.heap.size ≤ x.block
theorem set3at {A : Array Value} {n k : Nat} {u v s : Value} (hs : n * 3 ≤ A.size) (hk : k < n) :
    let B := ((A.setIfInBounds (k * 3) u).setIfInBounds (k * 3 + 1) v).setIfInBounds (k * 3 + 2) s
    B[k * 3]? = some u ∧ B[k * 3 + 1]? = some v ∧ B[k * 3 + 2]? = some s ∧ B.size = A.size ∧ ∀ j, j ≠ k → B[j * 3]? = A[j * 3]? ∧ B[j * 3 + 1]? = A[j * 3 + 1]? ∧ B[j * 3 + 2]? = A[j * 3 + 2]? := by
  intro B
  refine ⟨?_, ?_, ?_, by simp [B], fun j hj => ⟨?_, ?_, ?_⟩⟩
  · simp [B, Array.getElem?_setIfInBounds]; omega
  · simp [B, Array.getElem?_setIfInBounds]; omega
  · simp [B, Array.getElem?_setIfInBounds]; omega
  all_goals
    simp only [B]
    rw [Array.getElem?_setIfInBounds_ne (by omega), Array.getElem?_setIfInBounds_ne (by omega), Array.getElem?_setIfInBounds_ne (by omega)]

/-- So far k of them are laid. -/
def Laid (A : Array Value) (l : List R) (k : Nat) : Prop := ∀ j, j < k → A[j * 3]? = some (.int .i64 (rx l j)) ∧ A[j * 3 + 1]? = some (.int .i64 (ra l j)) ∧ A[j * 3 + 2]? = some (.bool (ro l j))
theorem Laid.next {A : Array Value} {l : List R} {n k : Nat} {r : R} (h : Laid A l k) (hs : n * 3 ≤ A.size) (hk : k < n) (hr : l.getD k zR = r) :
    Laid (((A.setIfInBounds (k * 3) (.int .i64 r.1)).setIfInBounds (k * 3 + 1) (.int .i64 r.2.1)).setIfInBounds (k * 3 + 2) (.bool r.2.2)) l (k + 1) := by
  obtain ⟨h0, h1, h2, _, h4⟩ := set3at (u := .int .i64 r.1) (v := .int .i64 r.2.1) (s := .bool r.2.2) hs hk
  intro j hj
  by_cases e : j = k
  · subst e; subst hr; exact ⟨h0, h1, h2⟩
  · obtain ⟨e0, e1, e2⟩ := h4 j e
    obtain ⟨f0, f1, f2⟩ := h j (by omega)
    exact ⟨e0.trans f0, e1.trans f1, e2.trans f2⟩

end Go.Proofs.YtdikhdfpcipdbaaGreatDoor.rd
