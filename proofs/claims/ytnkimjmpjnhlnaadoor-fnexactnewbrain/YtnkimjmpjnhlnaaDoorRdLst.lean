/- Lists of readings in memory: read, grown, copied, compared, marked. -/
import Derived.Test.YtnkimjmpjnhlnaaDoorRdArg
import Derived.Deep.AppendLies
namespace Go.Proofs.YtnkimjmpjnhlnaaDoor.rd
open Go.ChangeShapes Go.WideShapes Go.ChangeAt Go.RowKit
open Go.Proofs.YtnkimjmpjnhlnaaDoor.nums Go.Proofs.YtnkimjmpjnhlnaaDoor.mem
open Go.Proofs.YtnkimjmpjnhlnaaDoor.tab (Ret quiet_w wpList_make_has add_off)
set_option linter.unusedVariables false

def rx (l : List R) (k : Nat) : Int := (l.getD k zR).1
def ra (l : List R) (k : Nat) : Int := (l.getD k zR).2.1
def ro (l : List R) (k : Nat) : Bool := (l.getD k zR).2.2
theorem rr (l : List R) (k : Nat) : l.getD k zR = (rx l k, ra l k, ro l k) := rfl
theorem getD_lt {l : List R} {k : Nat} (h : k < l.length) : l.getD k zR = l[k] := by simp [List.getD, h]
theorem rx_map {f : R → R} {l : List R} {k : Nat} (h : k < l.length) : (l.map f).getD k zR = f (rx l k, ra l k, ro l k) := by
  rw [← rr, getD_lt (by simpa using h), getD_lt h, List.getElem_map]
/-- The cells of a list of readings. -/
def rowR : List R → List Value
  | [] => []
  | r :: l => .int .i64 r.1 :: .int .i64 r.2.1 :: .bool r.2.2 :: rowR l
theorem rowR_snoc (l : List R) (r : R) : rowR (l ++ [r]) = rowR l ++ [.int .i64 r.1, .int .i64 r.2.1, .bool r.2.2] := by
  induction l with
  | nil => rfl
  | cons x l ih => simp only [List.cons_append, rowR, ih]
theorem rowR_at : ∀ (l : List R) (k : Nat), k < l.length → (rowR l)[k * 3]? = some (.int .i64 (rx l k)) ∧ (rowR l)[k * 3 + 1]? = some (.int .i64 (ra l k)) ∧ (rowR l)[k * 3 + 2]? = some (.bool (ro l k)) := by
  intro l
  induction l with
  | nil => intro k h; simp at h
  | cons x l ih =>
    intro k hk
    cases k with
    | zero => exact ⟨rfl, rfl, rfl⟩
    | succ k =>
      obtain ⟨h0, h1, h2⟩ := ih k (by simpa using hk)
      rw [show (k + 1) * 3 = k * 3 + 1 + 1 + 1 by omega]
      refine ⟨?_, ?_, ?_⟩
      · simp only [rowR, List.getElem?_cons_succ]; exact h0
      · simp only [rowR, List.getElem?_cons_succ]; exact h1
      · simp only [rowR, List.getElem?_cons_succ]; exact h2

/-- The slice holds these readings, each in three cells, in a block of the world. -/
def Arg (w : World) (a : Option Addr) (l : List R) : Prop :=
  ∀ k, k < l.length → ∃ x : Addr, a = some x ∧ x.block < w.heap.size ∧ w.cell? (x.add (k * 3)) = some (.int .i64 (rx l k)) ∧ w.cell? ⟨(x.add (k * 3)).block, (x.add (k * 3)).off + 1, none⟩ = some (.int .i64 (ra l k)) ∧ w.cell? ⟨(x.add (k * 3)).block, (x.add (k * 3)).off + 2, none⟩ = some (.bool (ro l k))
theorem Arg.nil (w : World) (a : Option Addr) : Arg w a [] := fun k hk => by simp at hk
theorem Arg.grown {w w' : World} {a : Option Addr} {l : List R} {row : Option Nat} (h : Arg w a l) (hg : w.grownBy w' row) (hn : ∀ x : Addr, a = some x → some x.block ≠ row) : Arg w' a l := by
  intro k hk
  obtain ⟨x, e, hb, h1, h2, h3⟩ := h k hk
  have hne : some (x.add (k * 3)).block ≠ row := by rw [block_add]; exact hn x e
  refine ⟨x, e, Nat.lt_of_lt_of_le hb hg.size, ?_, ?_, ?_⟩
  · rw [← h1]; exact World.cell?_of_block (hg.block _ (by rw [block_add]; omega) hne)
  · rw [← h2]; exact World.cell?_of_block (hg.block _ (by show (x.add (k * 3)).block < _; rw [block_add]; omega) hne)
  · rw [← h3]; exact World.cell?_of_block (hg.block _ (by show (x.add (k * 3)).block < _; rw [block_add]; omega) hne)
theorem Arg.kept {w w' : World} {a : Option Addr} {l : List R} (h : Arg w a l) (hg : w.grownBy w' none) : Arg w' a l := h.grown hg (fun x e => by simp)
theorem add0 (g m : Nat) : (⟨g, 0, none⟩ : Addr).add m = ⟨g, m, none⟩ := by unfold Addr.add; split <;> simp_all
/-- A row of one's own that holds them. -/
theorem arg_of_row {w : World} {base m cap : Nat} {a : Option Addr} {l : List R} (h : w.ownsRow base 88 3 (.slice a m cap) l.length (rowR l)) : Arg w a l := by
  intro k hk
  rcases h.2 with ⟨_, hn⟩ | ⟨g, cap', cur, hv, _, hc, _⟩
  · omega
  · injection hv with hv1 hv2 hv3
    subst hv1
    have hrow := h
    obtain ⟨h0, h1, h2⟩ := rowR_at l k hk
    rw [hv2] at hrow
    refine ⟨_, rfl, Has.lt hc, ?_, ?_, ?_⟩
    · rw [add0, hrow.cellAt (k * 3) (by omega)]; exact h0
    · rw [add0]; show w.cell? ⟨g, k * 3 + 1, none⟩ = _; rw [hrow.cellAt (k * 3 + 1) (by omega)]; exact h1
    · rw [add0]; show w.cell? ⟨g, k * 3 + 2, none⟩ = _; rw [hrow.cellAt (k * 3 + 2) (by omega)]; exact h2
/-- The block of a slice, where there is one. -/
def blk (a : Option Addr) : Option Nat := a.map Addr.block
/-- The readings lie in a block of their own that is known whole, or there are none. -/
def OwnR (w : World) (a : Option Addr) (l : List R) : Prop :=
  (a = none ∧ l = []) ∨ ∃ (g : Nat) (cs : Array Value), a = some ⟨g, 0, none⟩ ∧ Has w g 88 cs ∧ ∀ k, k < l.length → cs[k * 3]? = some (.int .i64 (rx l k)) ∧ cs[k * 3 + 1]? = some (.int .i64 (ra l k)) ∧ cs[k * 3 + 2]? = some (.bool (ro l k))
theorem OwnR.arg {w : World} {a : Option Addr} {l : List R} (h : OwnR w a l) : Arg w a l := by
  rcases h with ⟨rfl, rfl⟩ | ⟨g, cs, rfl, hc, hj⟩
  · exact Arg.nil _ _
  · intro k hk
    obtain ⟨h0, h1, h2⟩ := hj k hk
    refine ⟨_, rfl, hc.lt, ?_, ?_, ?_⟩
    · rw [add0, hc.cell]; exact h0
    · rw [add0]; show w.cell? ⟨g, k * 3 + 1, none⟩ = _; rw [hc.cell]; exact h1
    · rw [add0]; show w.cell? ⟨g, k * 3 + 2, none⟩ = _; rw [hc.cell]; exact h2
theorem OwnR.grown {w w' : World} {a : Option Addr} {l : List R} {row : Option Nat} (h : OwnR w a l) (hg : w.grownBy w' row) (hn : ∀ x : Addr, a = some x → some x.block ≠ row) : OwnR w' a l := by
  rcases h with h | ⟨g, cs, rfl, hc, hj⟩
  · exact Or.inl h
  · exact Or.inr ⟨g, cs, rfl, hc.grown hg (hn _ rfl), hj⟩
theorem OwnR.kept {w w' : World} {a : Option Addr} {l : List R} (h : OwnR w a l) (hg : w.grownBy w' none) : OwnR w' a l := h.grown hg (fun x e => by simp)
theorem OwnR.lt {w : World} {a : Option Addr} {l : List R} (h : OwnR w a l) {x : Addr} (e : a = some x) : x.block < w.heap.size := by
  rcases h with ⟨h, _⟩ | ⟨g, cs, h, hc, hj⟩
  · rw [h] at e; cases e
  · rw [h] at e; injection e with e; subst e; exact hc.lt

set_option maxRecDepth 100000 in
theorem open_readings {H : Type} {enc : TypeId × Value → H} {w : World} {base : Nat} {held : Bool} {a : Option Addr} {len cap : Nat} {d : DataW H} {p : List MemPlace}
    (h : DataW.Trod enc Tryd.prog w base (fun _ => true) held 25 (.slice a len cap) d p) : ∃ l : List R, l.length = len ∧ l.length ≤ maxLen ∧ Arg w a l := by
  obtain ⟨fuel, hf⟩ := h
  rcases Go.Deep.open_slice Tryd.underlying25 hf with ⟨hcs, _⟩ | ⟨x, l, c, m, n, D, Pq, hcs, hb, hl, hm, hmm, _, hx⟩
  · simp [Value.cells] at hcs
    obtain ⟨rfl, rfl, rfl⟩ := hcs
    exact ⟨[], rfl, Nat.zero_le _, Arg.nil _ _⟩
  · simp [Value.cells] at hcs
    obtain ⟨rfl, rfl, rfl⟩ := hcs
    have hlm : len ≤ m := by rw [hmm]; split <;> omega
    have ce : Tryd.prog.cellsOf 91 = 3 := by kernel_rfl
    have c1 : Tryd.prog.cellsOf 2 = 1 := by kernel_rfl
    have c2 : Tryd.prog.cellsOf 4 = 1 := by kernel_rfl
    have key : ∀ k, k < len → ∃ q : R, x.block < w.heap.size ∧ w.cell? (x.add (k * 3)) = some (.int .i64 q.1) ∧ w.cell? ⟨(x.add (k * 3)).block, (x.add (k * 3)).off + 1, none⟩ = some (.int .i64 q.2.1) ∧ w.cell? ⟨(x.add (k * 3)).block, (x.add (k * 3)).off + 2, none⟩ = some (.bool q.2.2) := by
      intro k hk
      obtain ⟨cs', h1, h2⟩ := hx k (by omega)
      rw [ce] at h1
      obtain ⟨_, hlen, hcell⟩ := World.cells?_some h1
      obtain ⟨y0, y1, y2, n', _, hl3, t0, t1, t2⟩ := Go.Deep.trod_struct3 Tryd.underlying91 h2
      obtain ⟨z0, e0, _, hw0⟩ := DataW.trod_int Tryd.underlying2 t0
      obtain ⟨z1, e1, _, hw1⟩ := DataW.trod_int Tryd.underlying2 t1
      obtain ⟨o, e2, _⟩ := DataW.trod_bool Tryd.underlying4 t2
      match cs', hlen with
      | [v0, v1, v2], _ =>
        simp [c1, c2] at e0 e1 e2
        have d0 := hcell 0 (by omega)
        have d1 := hcell 1 (by omega)
        have d2 := hcell 2 (by omega)
        rw [Go.Deep.add_add] at d0 d1 d2
        have d0' : w.cell? (x.add (k * 3)) = some (.int .i64 z0) := by simpa [e0] using d0
        have d1' : w.cell? (x.add (k * 3 + (0 + 1))) = some (.int .i64 z1) := by simpa [e1] using d1
        have d2' : w.cell? (x.add (k * 3 + (1 + 1))) = some (.bool o) := by simpa [e2] using d2
        rw [add_off] at d1' d2'
        refine ⟨(z0, z1, o), ?_, d0', d1', d2'⟩
        by_cases hbk : x.block < w.heap.size
        · exact hbk
        · have hn : w.heap[(x.add (k * 3)).block]? = none := by rw [block_add]; exact Array.getElem?_eq_none (by omega)
          simp [World.cell?, hn] at d0'
    have key2 : ∀ k : Nat, ∃ q : R, k < len → (x.block < w.heap.size ∧ w.cell? (x.add (k * 3)) = some (.int .i64 q.1) ∧ w.cell? ⟨(x.add (k * 3)).block, (x.add (k * 3)).off + 1, none⟩ = some (.int .i64 q.2.1) ∧ w.cell? ⟨(x.add (k * 3)).block, (x.add (k * 3)).off + 2, none⟩ = some (.bool q.2.2)) := fun k => by
      by_cases hk : k < len
      · obtain ⟨q, hq⟩ := key k hk; exact ⟨q, fun _ => hq⟩
      · exact ⟨zR, fun h => absurd h hk⟩
    obtain ⟨F, hF⟩ := Classical.skolem.1 key2
    refine ⟨(List.range len).map F, by simp, by simp; omega, fun k hk => ?_⟩
    have hk' : k < len := by simpa using hk
    have g : ((List.range len).map F).getD k zR = F k := by simp [List.getD, hk']
    obtain ⟨h1, h2, h3, h4⟩ := hF k hk'
    exact ⟨x, rfl, h1, by unfold rx; rw [g]; exact h2, by unfold ra; rw [g]; exact h3, by unfold ro; rw [g]; exact h4⟩

/-- The bulk: what is left of it. -/
theorem szReadings (a : Option Addr) (len cap : Nat) (w : World) (hl : len ≤ maxLen) :
    Calls Tryd.prog 42 #[.slice a len cap, .int .i64 1048576] w fun e w' => e = .returned (.int .i64 (if len ≤ 1048576 then 1048576 - (len : Int) else -1)) ∧ w = w' := by
  unfold maxLen at hl
  by_cases h : len ≤ 1048576
  · rw [if_pos h]
    go_enter Tryd.func42, Tryd.ntmps42
    go_wp2
    go_ret
    exact ⟨rfl, rfl⟩
  · rw [if_neg h]
    go_enter Tryd.func42, Tryd.ntmps42
    go_wp2
    go_ret
    exact ⟨rfl, rfl⟩

theorem infoReading : (Tryd.prog.info? 88).map (fun i => (i.zero, i.size, i.bytes)) = some (some (.agg #[.int .i64 0, .int .i64 0, .bool false]), 3, 24) := by kernel_rfl

/-- A list of its own comes back: of what was there nothing is another. -/
def RetO (l : List R) (w : World) (e : Ending) (w' : World) : Prop := ∃ a cap, e = .returned (.slice a l.length cap) ∧ w.grownBy w' none ∧ OwnR w' a l ∧ ∀ x : Addr, a = some x → w.heap.size ≤ x.block
theorem set3at {A : Array Value} {n k : Nat} {u v s : Value} (hs : n * 3 ≤ A.size) (hk : k < n) :
    let B := ((A.setIfInBounds (k * 3) u).setIfInBounds (k * 3 + 1) v).setIfInBounds (k * 3 + 2) s
    B[k * 3]? = some u ∧ B[k * 3 + 1]? = some v ∧ B[k * 3 + 2]? = some s ∧ B.size = A.size ∧ ∀ j, j ≠ k → B[j * 3]? = A[j * 3]? ∧ B[j * 3 + 1]? = A[j * 3 + 1]? ∧ B[j * 3 + 2]? = A[j * 3 + 2]? := by
  intro B
  refine ⟨?_, ?_, ?_, by simp [B], fun j hj => ⟨?_, ?_, ?_⟩⟩
  · simp [B, Array.getElem?_setIfInBounds]; omega
  · simp [B, Array.getElem?_setIfInBounds]; omega
  · simp [B, Array.getElem?_setIfInBounds]; omega
  all_goals
    simp only [B]
    rw [Array.getElem?_setIfInBounds_ne (by omega), Array.getElem?_setIfInBounds_ne (by omega), Array.getElem?_setIfInBounds_ne (by omega)]

/-- So far k of them are laid. -/
def Laid (A : Array Value) (l : List R) (k : Nat) : Prop := ∀ j, j < k → A[j * 3]? = some (.int .i64 (rx l j)) ∧ A[j * 3 + 1]? = some (.int .i64 (ra l j)) ∧ A[j * 3 + 2]? = some (.bool (ro l j))
theorem Laid.next {A : Array Value} {l : List R} {n k : Nat} {r : R} (h : Laid A l k) (hs : n * 3 ≤ A.size) (hk : k < n) (hr : l.getD k zR = r) :
    Laid (((A.setIfInBounds (k * 3) (.int .i64 r.1)).setIfInBounds (k * 3 + 1) (.int .i64 r.2.1)).setIfInBounds (k * 3 + 2) (.bool r.2.2)) l (k + 1) := by
  obtain ⟨h0, h1, h2, _, h4⟩ := set3at (u := .int .i64 r.1) (v := .int .i64 r.2.1) (s := .bool r.2.2) hs hk
  intro j hj
  by_cases e : j = k
  · subst e; subst hr; exact ⟨h0, h1, h2⟩
  · obtain ⟨e0, e1, e2⟩ := h4 j e
    obtain ⟨f0, f1, f2⟩ := h j (by omega)
    exact ⟨e0.trans f0, e1.trans f1, e2.trans f2⟩

set_option maxHeartbeats 2000000 in
theorem toReadings (a : Option Addr) (cap : Nat) (l : List R) (w : World) (h : Arg w a l) (hl : l.length ≤ 1048576) : Calls Tryd.prog 47 #[.slice a l.length cap] w (RetO l w) := by
  obtain ⟨i0, hi, hz0, hz1, hz2⟩ := info_parts infoReading
  go_enter Tryd.func47, Tryd.ntmps47
  go_wp2_with (at_make; refine wpList_make_has _ rfl _ _ _ rfl 88 i0 _ 3 Tryd.underlying35 hi hz0 hz1 .i64 .i64 _ _ l.length rfl rfl rfl rfl (by rw [hz2]; omega) (by unfold maxLen; omega) ?_)
  have hA0 := Has.fresh w 88 (madeCells (Value.cells (.agg #[.int .i64 0, .int .i64 0, .bool false])) (l.length * 3))
  go_loopw [4] (fun i wr => ∃ (k : Nat) (A : Array Value), k ≤ l.length ∧ i = .int .i64 k ∧ Has wr w.heap.size 88 A ∧ Hid (A.size = l.length * 3) ∧ Hid (Laid A l k) ∧ w.grownBy wr none) (fun i _ => l.length - (intOf i).toNat)
  case atStart => exact ⟨0, _, Nat.zero_le _, rfl, hA0, Lib.hid (size_madeCells _ _), Lib.hid (fun j hj => by omega), World.grownBy_alloc _ _ _⟩
  case round =>
    obtain ⟨k, A, hk, rfl, hA, hs, hr, hg⟩ := hrel
    by_cases hlt : k < l.length
    · obtain ⟨x, rfl, hb, cx, cy, cz⟩ := (h.kept hg) k hlt
      go_wp2_with fail
      refine (toReading _ _ _ _).mono ?_
      rintro e w1 ⟨rfl, hg1⟩
      have hA1 := hA.grown hg1 (by simp)
      obtain ⟨v0, e0⟩ : ∃ v, A[k * 3]? = some v := ⟨_, Array.getElem?_eq_getElem (by have := hs.out; omega)⟩
      obtain ⟨v1, e1⟩ : ∃ v, A[k * 3 + 1]? = some v := ⟨_, Array.getElem?_eq_getElem (by have := hs.out; omega)⟩
      obtain ⟨v2, e2⟩ : ∃ v, A[k * 3 + 2]? = some v := ⟨_, Array.getElem?_eq_getElem (by have := hs.out; omega)⟩
      have d0 := (hA1.cell (k * 3)).trans e0
      have d1 := (hA1.cell (k * 3 + 1)).trans e1
      have d2 := (hA1.cell (k * 3 + 2)).trans e2
      have g0 := hA1.frozen (k * 3)
      have g1 := hA1.frozen (k * 3 + 1)
      have g2 := hA1.frozen (k * 3 + 2)
      clear e0 e1 e2
      go_wp2_with fail
      go_roundw
      case rel => exact ⟨k + 1, _, by omega, by go_num, ((hA1.set _ _).set _ _).set _ _, Lib.hid (by simpa using hs.out), Lib.hid (hr.out.next (Nat.le_of_eq hs.out.symm) hlt (rr l k)), gr_new (gr_new (gr_new (gr_trans hg hg1) (Nat.le_refl _) _ _) (Nat.le_refl _) _ _) (Nat.le_refl _) _ _⟩
      case measure => simp [intOf]; omega
    · obtain rfl : k = l.length := by omega
      go_wp2_with fail
      go_ret
      exact ⟨_, _, rfl, hg, Or.inr ⟨_, A, rfl, hA, fun j hj => hr.out j hj⟩, fun x e => by injection e with e; subst e; exact Nat.le_refl _⟩

set_option maxRecDepth 100000 in
set_option maxHeartbeats 2000000 in
theorem eqReadings (a a' : Option Addr) (cap cap' : Nat) (l : List R) (w : World) (h : Arg w a l) (h' : Arg w a' l) (hl : l.length ≤ 1048576) :
    Calls Tryd.prog 57 #[.slice a l.length cap, .slice a' l.length cap'] w (Ret (.bool true) w) := by
  go_enter Tryd.func57, Tryd.ntmps57
  go_wp2
  go_loopw [5] (fun i wr => ∃ k : Nat, k ≤ l.length ∧ i = .int .i64 k ∧ w.grownBy wr none) (fun i _ => l.length - (intOf i).toNat)
  case atStart => exact ⟨0, Nat.zero_le _, rfl, gr_refl _ _⟩
  case round =>
    obtain ⟨k, hk, rfl, hg⟩ := hrel
    by_cases hlt : k < l.length
    · obtain ⟨x, rfl, hb, cx, cy, cz⟩ := (h.kept hg) k hlt
      obtain ⟨x', rfl, hb', cx', cy', cz'⟩ := (h'.kept hg) k hlt
      go_wp2_with fail
      go_still_tail 8, (by kernel_rfl)
      change wpList _ _ _ _ _ wr.drew
      go_wp2_with fail
      refine (eqReading _ _ _ _).mono ?_
      rintro e w1 ⟨rfl, hg1⟩
      go_wp2_with fail
      go_roundw
      case rel => exact ⟨k + 1, by omega, by go_num, gr_trans (gr_drewN hg 1) hg1⟩
      case measure => simp [intOf]; omega
    · obtain rfl : k = l.length := by omega
      go_wp2_with fail
      go_ret
      exact ⟨rfl, hg⟩
end Go.Proofs.YtnkimjmpjnhlnaaDoor.rd
