/- Lists of readings in memory: read, grown, copied, compared, marked. AgedAll, the model's and the program's. -/
import Derived.Test.YtjbgcgblamijdaaGreatDoorG5
import Derived.Deep.AppendLies
/- Lists of readings in memory: read, grown, copied, compared, marked. -/
namespace Go.Proofs.YtjbgcgblamijdaaGreatDoor.rd
open Go.ChangeShapes Go.WideShapes Go.ChangeAt Go.RowKit
open Go.Proofs.YtjbgcgblamijdaaGreatDoor.nums Go.Proofs.YtjbgcgblamijdaaGreatDoor.mem
open Go.Proofs.YtjbgcgblamijdaaGreatDoor.tab (Ret quiet_w wpList_make_has add_off)
set_option linter.unusedVariables false

def rx (l : List R) (k : Nat) : Int := (l.getD k zR).1
def ra (l : List R) (k : Nat) : Int := (l.getD k zR).2.1
def ro (l : List R) (k : Nat) : Bool := (l.getD k zR).2.2
theorem rr (l : List R) (k : Nat) : l.getD k zR = (rx l k, ra l k, ro l k) := rfl
theorem getD_lt {l : List R} {k : Nat} (h : k < l.length) : l.getD k zR = l[k] := by simp [List.getD, h]
theorem rx_map {f : R → R} {l : List R} {k : Nat} (h : k < l.length) : (l.map f).getD k zR = f (rx l k, ra l k, ro l k) := by
  rw [← rr, getD_lt (by simpa using h), getD_lt h, List.getElem_map]
/-- The cells of a list of readings. -/
def rowR : List R → List Value
  | [] => []
  | r :: l => .int .i64 r.1 :: .int .i64 r.2.1 :: .bool r.2.2 :: rowR l
theorem rowR_snoc (l : List R) (r : R) : rowR (l ++ [r]) = rowR l ++ [.int .i64 r.1, .int .i64 r.2.1, .bool r.2.2] := by
  induction l with
  | nil => rfl
  | cons x l ih => simp only [List.cons_append, rowR, ih]
theorem rowR_at : ∀ (l : List R) (k : Nat), k < l.length → (rowR l)[k * 3]? = some (.int .i64 (rx l k)) ∧ (rowR l)[k * 3 + 1]? = some (.int .i64 (ra l k)) ∧ (rowR l)[k * 3 + 2]? = some (.bool (ro l k)) := by
  intro l
  induction l with
  | nil => intro k h; simp at h
  | cons x l ih =>
    intro k hk
    cases k with
    | zero => exact ⟨rfl, rfl, rfl⟩
    | succ k =>
      obtain ⟨h0, h1, h2⟩ := ih k (by simpa using hk)
      rw [show (k + 1) * 3 = k * 3 + 1 + 1 + 1 by omega]
      refine ⟨?_, ?_, ?_⟩
      · simp only [rowR, List.getElem?_cons_succ]; exact h0
      · simp only [rowR, List.getElem?_cons_succ]; exact h1
      · simp only [rowR, List.getElem?_cons_succ]; exact h2

/-- The slice holds these readings, each in three cells, in a block of the world. -/
def Arg (w : World) (a : Option Addr) (l : List R) : Prop :=
  ∀ k, k < l.length → ∃ x : Addr, a = some x ∧ x.block < w.heap.size ∧ w.cell? (x.add (k * 3)) = some (.int .i64 (rx l k)) ∧ w.cell? ⟨(x.add (k * 3)).block, (x.add (k * 3)).off + 1, none⟩ = some (.int .i64 (ra l k)) ∧ w.cell? ⟨(x.add (k * 3)).block, (x.add (k * 3)).off + 2, none⟩ = some (.bool (ro l k))
theorem Arg.nil (w : World) (a : Option Addr) : Arg w a [] := fun k hk => by simp at hk
theorem Arg.grown {w w' : World} {a : Option Addr} {l : List R} {row : Option Nat} (h : Arg w a l) (hg : w.grownBy w' row) (hn : ∀ x : Addr, a = some x → some x.block ≠ row) : Arg w' a l := by
  intro k hk
  obtain ⟨x, e, hb, h1, h2, h3⟩ := h k hk
  have hne : some (x.add (k * 3)).block ≠ row := by rw [block_add]; exact hn x e
  refine ⟨x, e, Nat.lt_of_lt_of_le hb hg.size, ?_, ?_, ?_⟩
  · rw [← h1]; exact World.cell?_of_block (hg.block _ (by rw [block_add]; omega) hne)
  · rw [← h2]; exact World.cell?_of_block (hg.block _ (by show (x.add (k * 3)).block < _; rw [block_add]; omega) hne)
  · rw [← h3]; exact World.cell?_of_block (hg.block _ (by show (x.add (k * 3)).block < _; rw [block_add]; omega) hne)
theorem Arg.kept {w w' : World} {a : Option Addr} {l : List R} (h : Arg w a l) (hg : w.grownBy w' none) : Arg w' a l := h.grown hg (fun x e => by simp)
theorem add0 (g m : Nat) : (⟨g, 0, none⟩ : Addr).add m = ⟨g, m, none⟩ := by unfold Addr.add; split <;> simp_all
/-- A row of one's own that holds them. -/
theorem arg_of_row {w : World} {base m cap : Nat} {a : Option Addr} {l : List R} (h : w.ownsRow base 42 3 (.slice a m cap) l.length (rowR l)) : Arg w a l := by
  intro k hk
  rcases h.2 with ⟨_, hn⟩ | ⟨g, cap', cur, hv, _, hc, _⟩
  · omega
  · injection hv with hv1 hv2 hv3
    subst hv1
    have hrow := h
    obtain ⟨h0, h1, h2⟩ := rowR_at l k hk
    rw [hv2] at hrow
    refine ⟨_, rfl, Has.lt hc, ?_, ?_, ?_⟩
    · rw [add0, hrow.cellAt (k * 3) (by omega)]; exact h0
    · rw [add0]; show w.cell? ⟨g, k * 3 + 1, none⟩ = _; rw [hrow.cellAt (k * 3 + 1) (by omega)]; exact h1
    · rw [add0]; show w.cell? ⟨g, k * 3 + 2, none⟩ = _; rw [hrow.cellAt (k * 3 + 2) (by omega)]; exact h2
/-- The block of a slice, where there is one. -/
def blk (a : Option Addr) : Option Nat := a.map Addr.block
/-- The readings lie in a block of their own that is known whole, or there are none. -/
def OwnR (w : World) (a : Option Addr) (l : List R) : Prop :=
  (a = none ∧ l = []) ∨ ∃ (g : Nat) (cs : Array Value), a = some ⟨g, 0, none⟩ ∧ Has w g 42 cs ∧ ∀ k, k < l.length → cs[k * 3]? = some (.int .i64 (rx l k)) ∧ cs[k * 3 + 1]? = some (.int .i64 (ra l k)) ∧ cs[k * 3 + 2]? = some (.bool (ro l k))
theorem OwnR.arg {w : World} {a : Option Addr} {l : List R} (h : OwnR w a l) : Arg w a l := by
  rcases h with ⟨rfl, rfl⟩ | ⟨g, cs, rfl, hc, hj⟩
  · exact Arg.nil _ _
  · intro k hk
    obtain ⟨h0, h1, h2⟩ := hj k hk
    refine ⟨_, rfl, hc.lt, ?_, ?_, ?_⟩
    · rw [add0, hc.cell]; exact h0
    · rw [add0]; show w.cell? ⟨g, k * 3 + 1, none⟩ = _; rw [hc.cell]; exact h1
    · rw [add0]; show w.cell? ⟨g, k * 3 + 2, none⟩ = _; rw [hc.cell]; exact h2
theorem OwnR.grown {w w' : World} {a : Option Addr} {l : List R} {row : Option Nat} (h : OwnR w a l) (hg : w.grownBy w' row) (hn : ∀ x : Addr, a = some x → some x.block ≠ row) : OwnR w' a l := by
  rcases h with h | ⟨g, cs, rfl, hc, hj⟩
  · exact Or.inl h
  · exact Or.inr ⟨g, cs, rfl, hc.grown hg (hn _ rfl), hj⟩
theorem OwnR.kept {w w' : World} {a : Option Addr} {l : List R} (h : OwnR w a l) (hg : w.grownBy w' none) : OwnR w' a l := h.grown hg (fun x e => by simp)
theorem OwnR.lt {w : World} {a : Option Addr} {l : List R} (h : OwnR w a l) {x : Addr} (e : a = some x) : x.block < w.heap.size := by
  rcases h with ⟨h, _⟩ | ⟨g, cs, h, hc, hj⟩
  · rw [h] at e; cases e
  · rw [h] at e; injection e with e; subst e; exact hc.lt

set_option maxRecDepth 100000 in
theorem open_readings {H : Type} {enc : TypeId × Value → H} {w : World} {base : Nat} {held : Bool} {a : Option Addr} {len cap : Nat} {d : DataW H} {p : List MemPlace}
    (h : DataW.Trod enc Tryz.prog w base (fun _ => true) held 45 (.slice a len cap) d p) : ∃ l : List R, l.length = len ∧ l.length ≤ maxLen ∧ Arg w a l := by
  obtain ⟨fuel, hf⟩ := h
  rcases Go.Deep.open_slice Tryz.underlying45 hf with ⟨hcs, _⟩ | ⟨x, l, c, m, n, D, Pq, hcs, hb, hl, hm, hmm, _, hx⟩
  · simp [Value.cells] at hcs
    obtain ⟨rfl, rfl, rfl⟩ := hcs
    exact ⟨[], rfl, Nat.zero_le _, Arg.nil _ _⟩
  · simp [Value.cells] at hcs
    obtain ⟨rfl, rfl, rfl⟩ := hcs
    have hlm : len ≤ m := by rw [hmm]; split <;> omega
    have ce : Tryz.prog.cellsOf 135 = 3 := by kernel_rfl
    have c1 : Tryz.prog.cellsOf 2 = 1 := by kernel_rfl
    have c2 : Tryz.prog.cellsOf 4 = 1 := by kernel_rfl
    have key : ∀ k, k < len → ∃ q : R, x.block < w.heap.size ∧ w.cell? (x.add (k * 3)) = some (.int .i64 q.1) ∧ w.cell? ⟨(x.add (k * 3)).block, (x.add (k * 3)).off + 1, none⟩ = some (.int .i64 q.2.1) ∧ w.cell? ⟨(x.add (k * 3)).block, (x.add (k * 3)).off + 2, none⟩ = some (.bool q.2.2) := by
      intro k hk
      obtain ⟨cs', h1, h2⟩ := hx k (by omega)
      rw [ce] at h1
      obtain ⟨_, hlen, hcell⟩ := World.cells?_some h1
      obtain ⟨y0, y1, y2, n', _, hl3, t0, t1, t2⟩ := Go.Deep.trod_struct3 Tryz.underlying135 h2
      obtain ⟨z0, e0, _, hw0⟩ := DataW.trod_int Tryz.underlying2 t0
      obtain ⟨z1, e1, _, hw1⟩ := DataW.trod_int Tryz.underlying2 t1
      obtain ⟨o, e2, _⟩ := DataW.trod_bool Tryz.underlying4 t2
      match cs', hlen with
      | [v0, v1, v2], _ =>
        simp [c1, c2] at e0 e1 e2
        have d0 := hcell 0 (by omega)
        have d1 := hcell 1 (by omega)
        have d2 := hcell 2 (by omega)
        rw [Go.Deep.add_add] at d0 d1 d2
        have d0' : w.cell? (x.add (k * 3)) = some (.int .i64 z0) := by simpa [e0] using d0
        have d1' : w.cell? (x.add (k * 3 + (0 + 1))) = some (.int .i64 z1) := by simpa [e1] using d1
        have d2' : w.cell? (x.add (k * 3 + (1 + 1))) = some (.bool o) := by simpa [e2] using d2
        rw [add_off] at d1' d2'
        refine ⟨(z0, z1, o), ?_, d0', d1', d2'⟩
        by_cases hbk : x.block < w.heap.size
        · exact hbk
        · have hn : w.heap[(x.add (k * 3)).block]? = none := by rw [block_add]; exact Array.getElem?_eq_none (by omega)
          simp [World.cell?, hn] at d0'
    have key2 : ∀ k : Nat, ∃ q : R, k < len → (x.block < w.heap.size ∧ w.cell? (x.add (k * 3)) = some (.int .i64 q.1) ∧ w.cell? ⟨(x.add (k * 3)).block, (x.add (k * 3)).off + 1, none⟩ = some (.int .i64 q.2.1) ∧ w.cell? ⟨(x.add (k * 3)).block, (x.add (k * 3)).off + 2, none⟩ = some (.bool q.2.2)) := fun k => by
      by_cases hk : k < len
      · obtain ⟨q, hq⟩ := key k hk; exact ⟨q, fun _ => hq⟩
      · exact ⟨zR, fun h => absurd h hk⟩
    obtain ⟨F, hF⟩ := Classical.skolem.1 key2
    refine ⟨(List.range len).map F, by simp, by simp; omega, fun k hk => ?_⟩
    have hk' : k < len := by simpa using hk
    have g : ((List.range len).map F).getD k zR = F k := by simp [List.getD, hk']
    obtain ⟨h1, h2, h3, h4⟩ := hF k hk'
    exact ⟨x, rfl, h1, by unfold rx; rw [g]; exact h2, by unfold ra; rw [g]; exact h3, by unfold ro; rw [g]; exact h4⟩

/-- The bulk: what is left of it. -/
theorem szReadings (a : Option Addr) (len cap : Nat) (w : World) (hl : len ≤ maxLen) :
    Calls Tryz.prog 69 #[.slice a len cap, .int .i64 1048576] w fun e w' => e = .returned (.int .i64 (if len ≤ 1048576 then 1048576 - (len : Int) else -1)) ∧ w = w' := by
  unfold maxLen at hl
  by_cases h : len ≤ 1048576
  · rw [if_pos h]
    go_enter Tryz.func69, Tryz.ntmps69
    go_wp2
    go_ret
    exact ⟨rfl, rfl⟩
  · rw [if_neg h]
    go_enter Tryz.func69, Tryz.ntmps69
    go_wp2
    go_ret
    exact ⟨rfl, rfl⟩

theorem infoReading : (Tryz.prog.info? 42).map (fun i => (i.zero, i.size, i.bytes)) = some (some (.agg #[.int .i64 0, .int .i64 0, .bool false]), 3, 24) := by kernel_rfl

/-- A list of its own comes back: of what was there nothing is another. -/
def RetO (l : List R) (w : World) (e : Ending) (w' : World) : Prop := ∃ a cap, e = .returned (.slice a l.length cap) ∧ w.grownBy w' none ∧ OwnR w' a l ∧ ∀ x : Addr, a = some x → w.heap.size ≤ x.block
theorem set3at {A : Array Value} {n k : Nat} {u v s : Value} (hs : n * 3 ≤ A.size) (hk : k < n) :
    let B := ((A.setIfInBounds (k * 3) u).setIfInBounds (k * 3 + 1) v).setIfInBounds (k * 3 + 2) s
    B[k * 3]? = some u ∧ B[k * 3 + 1]? = some v ∧ B[k * 3 + 2]? = some s ∧ B.size = A.size ∧ ∀ j, j ≠ k → B[j * 3]? = A[j * 3]? ∧ B[j * 3 + 1]? = A[j * 3 + 1]? ∧ B[j * 3 + 2]? = A[j * 3 + 2]? := by
  intro B
  refine ⟨?_, ?_, ?_, by simp [B], fun j hj => ⟨?_, ?_, ?_⟩⟩
  · simp [B, Array.getElem?_setIfInBounds]; omega
  · simp [B, Array.getElem?_setIfInBounds]; omega
  · simp [B, Array.getElem?_setIfInBounds]; omega
  all_goals
    simp only [B]
    rw [Array.getElem?_setIfInBounds_ne (by omega), Array.getElem?_setIfInBounds_ne (by omega), Array.getElem?_setIfInBounds_ne (by omega)]

/-- So far k of them are laid. -/
def Laid (A : Array Value) (l : List R) (k : Nat) : Prop := ∀ j, j < k → A[j * 3]? = some (.int .i64 (rx l j)) ∧ A[j * 3 + 1]? = some (.int .i64 (ra l j)) ∧ A[j * 3 + 2]? = some (.bool (ro l j))
theorem Laid.next {A : Array Value} {l : List R} {n k : Nat} {r : R} (h : Laid A l k) (hs : n * 3 ≤ A.size) (hk : k < n) (hr : l.getD k zR = r) :
    Laid (((A.setIfInBounds (k * 3) (.int .i64 r.1)).setIfInBounds (k * 3 + 1) (.int .i64 r.2.1)).setIfInBounds (k * 3 + 2) (.bool r.2.2)) l (k + 1) := by
  obtain ⟨h0, h1, h2, _, h4⟩ := set3at (u := .int .i64 r.1) (v := .int .i64 r.2.1) (s := .bool r.2.2) hs hk
  intro j hj
  by_cases e : j = k
  · subst e; subst hr; exact ⟨h0, h1, h2⟩
  · obtain ⟨e0, e1, e2⟩ := h4 j e
    obtain ⟨f0, f1, f2⟩ := h j (by omega)
    exact ⟨e0.trans f0, e1.trans f1, e2.trans f2⟩

set_option maxHeartbeats 2000000 in
theorem toReadings (a : Option Addr) (cap : Nat) (l : List R) (w : World) (h : Arg w a l) (hl : l.length ≤ 1048576) : Calls Tryz.prog 72 #[.slice a l.length cap] w (RetO l w) := by
  obtain ⟨i0, hi, hz0, hz1, hz2⟩ := info_parts infoReading
  go_enter Tryz.func72, Tryz.ntmps72
  go_wp2_with (at_make; refine wpList_make_has _ rfl _ _ _ rfl 42 i0 _ 3 Tryz.underlying24 hi hz0 hz1 .i64 .i64 _ _ l.length rfl rfl rfl rfl (by rw [hz2]; omega) (by unfold maxLen; omega) ?_)
  have hA0 := Has.fresh w 42 (madeCells (Value.cells (.agg #[.int .i64 0, .int .i64 0, .bool false])) (l.length * 3))
  go_loopw [4] (fun i wr => ∃ (k : Nat) (A : Array Value), k ≤ l.length ∧ i = .int .i64 k ∧ Has wr w.heap.size 42 A ∧ Hid (A.size = l.length * 3) ∧ Hid (Laid A l k) ∧ w.grownBy wr none) (fun i _ => l.length - (intOf i).toNat)
  case atStart => exact ⟨0, _, Nat.zero_le _, rfl, hA0, Lib.hid (size_madeCells _ _), Lib.hid (fun j hj => by omega), World.grownBy_alloc _ _ _⟩
  case round =>
    obtain ⟨k, A, hk, rfl, hA, hs, hr, hg⟩ := hrel
    by_cases hlt : k < l.length
    · obtain ⟨x, rfl, hb, cx, cy, cz⟩ := (h.kept hg) k hlt
      go_wp2_with fail
      refine (toReading _ _ _ _).mono ?_
      rintro e w1 ⟨rfl, hg1⟩
      have hA1 := hA.grown hg1 (by simp)
      obtain ⟨v0, e0⟩ : ∃ v, A[k * 3]? = some v := ⟨_, Array.getElem?_eq_getElem (by have := hs.out; omega)⟩
      obtain ⟨v1, e1⟩ : ∃ v, A[k * 3 + 1]? = some v := ⟨_, Array.getElem?_eq_getElem (by have := hs.out; omega)⟩
      obtain ⟨v2, e2⟩ : ∃ v, A[k * 3 + 2]? = some v := ⟨_, Array.getElem?_eq_getElem (by have := hs.out; omega)⟩
      have d0 := (hA1.cell (k * 3)).trans e0
      have d1 := (hA1.cell (k * 3 + 1)).trans e1
      have d2 := (hA1.cell (k * 3 + 2)).trans e2
      have g0 := hA1.frozen (k * 3)
      have g1 := hA1.frozen (k * 3 + 1)
      have g2 := hA1.frozen (k * 3 + 2)
      clear e0 e1 e2
      go_wp2_with fail
      go_roundw
      case rel => exact ⟨k + 1, _, by omega, by go_num, ((hA1.set _ _).set _ _).set _ _, Lib.hid (by simpa using hs.out), Lib.hid (hr.out.next (Nat.le_of_eq hs.out.symm) hlt (rr l k)), gr_new (gr_new (gr_new (gr_trans hg hg1) (Nat.le_refl _) _ _) (Nat.le_refl _) _ _) (Nat.le_refl _) _ _⟩
      case measure => simp [intOf]; omega
    · obtain rfl : k = l.length := by omega
      go_wp2_with fail
      go_ret
      exact ⟨_, _, rfl, hg, Or.inr ⟨_, A, rfl, hA, fun j hj => hr.out j hj⟩, fun x e => by injection e with e; subst e; exact Nat.le_refl _⟩

set_option maxRecDepth 100000 in
set_option maxHeartbeats 2000000 in
theorem eqReadings (a a' : Option Addr) (cap cap' : Nat) (l : List R) (w : World) (h : Arg w a l) (h' : Arg w a' l) (hl : l.length ≤ 1048576) :
    Calls Tryz.prog 75 #[.slice a l.length cap, .slice a' l.length cap'] w (Ret (.bool true) w) := by
  go_enter Tryz.func75, Tryz.ntmps75
  go_wp2
  go_loopw [5] (fun i wr => ∃ k : Nat, k ≤ l.length ∧ i = .int .i64 k ∧ w.grownBy wr none) (fun i _ => l.length - (intOf i).toNat)
  case atStart => exact ⟨0, Nat.zero_le _, rfl, gr_refl _ _⟩
  case round =>
    obtain ⟨k, hk, rfl, hg⟩ := hrel
    by_cases hlt : k < l.length
    · obtain ⟨x, rfl, hb, cx, cy, cz⟩ := (h.kept hg) k hlt
      obtain ⟨x', rfl, hb', cx', cy', cz'⟩ := (h'.kept hg) k hlt
      go_wp2_with fail
      go_still_tail 8, (by kernel_rfl)
      change wpList _ _ _ _ _ wr.drew
      go_wp2_with fail
      refine (eqReading _ _ _ _).mono ?_
      rintro e w1 ⟨rfl, hg1⟩
      go_wp2_with fail
      go_roundw
      case rel => exact ⟨k + 1, by omega, by go_num, gr_trans (gr_drewN hg 1) hg1⟩
      case measure => simp [intOf]; omega
    · obtain rfl : k = l.length := by omega
      go_wp2_with fail
      go_ret
      exact ⟨rfl, hg⟩
end Go.Proofs.YtjbgcgblamijdaaGreatDoor.rd

/- AgedAll, the model's and the program's. -/
namespace Go.Proofs.YtjbgcgblamijdaaGreatDoor.rd
open Go.ChangeShapes Go.WideShapes Go.ChangeAt Go.RowKit
open Go.Proofs.YtjbgcgblamijdaaGreatDoor.nums Go.Proofs.YtjbgcgblamijdaaGreatDoor.mem
open Go.Proofs.YtjbgcgblamijdaaGreatDoor.tab (Ret quiet_w wpList_make_has add_off)
set_option linter.unusedVariables false

def agedAll (l : List R) : List R := if l.all okR = true then l.map ageR else []
theorem agedAll_ok {l : List R} (h : l.all okR = true) : agedAll l = l.map ageR := if_pos h
theorem agedAll_no {l : List R} (h : l.all okR = false) : agedAll l = [] := if_neg (by rw [h]; simp)
theorem all_at {l : List R} (h : l.all okR = true) {k : Nat} (hk : k < l.length) : okR (rx l k, ra l k, ro l k) = true := by
  rw [← rr, getD_lt hk]
  exact List.all_eq_true.1 h _ (List.getElem_mem _)
theorem all_no {l : List R} {k : Nat} (hk : k < l.length) (h : okR (rx l k, ra l k, ro l k) = false) : l.all okR = false := by
  cases ha : l.all okR with
  | false => rfl
  | true => rw [all_at ha hk] at h; cases h
theorem all_yes {l : List R} (h : ∀ k, k < l.length → okR (rx l k, ra l k, ro l k) = true) : l.all okR = true := by
  rw [List.all_eq_true]
  intro r hr
  obtain ⟨k, hk, rfl⟩ := List.getElem_of_mem hr
  have := h k hk
  rwa [← rr, getD_lt hk] at this

theorem specRight (a : Option Addr) (cap : Nat) (l : List R) (w : World) (h : Arg w a l) (hl : l.length ≤ 1048576) : Calls Tryz.prog 62 #[.slice a l.length cap] w (Ret (.bool (l.all okR)) w) := by
  go_enter Tryz.func62, Tryz.ntmps62
  go_wp2_with fail
  go_loopw [3] (fun i wr => ∃ k : Nat, k ≤ l.length ∧ i = .int .i64 k ∧ Hid (∀ j, j < k → okR (rx l j, ra l j, ro l j) = true) ∧ w.grownBy wr none) (fun i _ => l.length - (intOf i).toNat)
  case atStart => exact ⟨0, Nat.zero_le _, rfl, Lib.hid (fun j hj => by omega), gr_refl _ _⟩
  case round =>
    obtain ⟨k, hk, rfl, hr, hg⟩ := hrel
    by_cases hlt : k < l.length
    · obtain ⟨x, rfl, hb, cx, cy, cz⟩ := (h.kept hg) k hlt
      by_cases ho : okR (rx l k, ra l k, ro l k) = true
      · go_wp2_with fail
        refine (specReadingOk _ _ _ _).mono ?_
        rintro e w1 ⟨rfl, hg1⟩
        have HO := Lib.hid ho
        go_wp2_with fail
        go_roundw
        case rel => exact ⟨k + 1, by omega, by go_num, Lib.hid (fun j hj => by
          by_cases e : j = k
          · subst e; exact HO.out
          · exact hr.out j (by omega)), gr_trans hg hg1⟩
        case measure => simp [intOf]; omega
      · have ho' : okR (rx l k, ra l k, ro l k) = false := by simpa using ho
        clear ho
        have HA := Lib.hid (all_no hlt ho')
        go_wp2_with fail
        refine (specReadingOk _ _ _ _).mono ?_
        rintro e w1 ⟨rfl, hg1⟩
        go_wp2_with fail
        go_ret
        exact ⟨fix.ret_bool HA.out.symm, gr_trans hg hg1⟩
    · obtain rfl : k = l.length := by omega
      have HA := Lib.hid (all_yes hr.out)
      go_wp2_with fail
      go_ret
      exact ⟨fix.ret_bool HA.out.symm, hg⟩

/-- A list comes back that can be read: of what was there nothing is another. -/
def RetL (l : List R) (w : World) (e : Ending) (w' : World) : Prop := ∃ a cap, e = .returned (.slice a l.length cap) ∧ w.grownBy w' none ∧ Arg w' a l

theorem map_take_snoc {l : List R} {k : Nat} (h : k < l.length) : (l.map ageR).take (k + 1) = (l.map ageR).take k ++ [ageR (rx l k, ra l k, ro l k)] := by
  have hk : k < (l.map ageR).length := by simpa using h
  rw [List.take_succ_eq_append_getElem hk, List.getElem_map, ← rr, getD_lt h]

set_option maxRecDepth 100000 in
set_option maxHeartbeats 4000000 in
theorem specAgedAll (a : Option Addr) (cap : Nat) (l : List R) (w : World) (h : Arg w a l) (hl : l.length ≤ 1048576) : Calls Tryz.prog 52 #[.slice a l.length cap] w (RetL (agedAll l) w) := by
  obtain ⟨i0, hi, hz0, hz1, hz2⟩ := info_parts infoReading
  have g0 : w.grownBy (w.alloc (Obj.cells #[] 42)) none := World.grownBy_alloc _ _ _
  have o0 := World.ownsRow_made (base := w.heap.size) (e := 42) (size := 3) w #[] 0 (Nat.le_refl _) (Nat.zero_le _) rfl
  by_cases ha : l.all okR = true
  · rw [agedAll_ok ha]
    have HA := Lib.hid ha
    go_enter Tryz.func52, Tryz.ntmps52
    go_wp2_with fail
    go_loopw [3, 4] (fun t i wr => ∃ (k g c : Nat), k ≤ l.length ∧ i = .int .i64 k ∧ t = .slice (some ⟨g, 0, none⟩) k c ∧ w.heap.size ≤ g ∧ wr.ownsRow w.heap.size 42 3 (.slice (some ⟨g, 0, none⟩) k c) k (rowR ((l.map ageR).take k)) ∧ w.grownBy wr none) (fun _ i _ => l.length - (intOf i).toNat)
    case atStart => exact ⟨0, _, _, Nat.zero_le _, rfl, rfl, Nat.le_refl _, o0, g0⟩
    case round =>
      clear o0 g0
      obtain ⟨k, g, c, hk, rfl, rfl, hge, hown, hg⟩ := hrel
      by_cases hlt : k < l.length
      · have hA := h.kept hg
        obtain ⟨x, rfl, hb, cx, cy, cz⟩ := hA k hlt
        obtain ⟨_, q0, q1⟩ := okR_iff.1 (all_at ha hlt)
        go_wp2_with fail
        refine (specRight _ _ _ _ hA hl).mono ?_
        rintro e w1 ⟨rfl, hg1⟩
        have hg01 := gr_trans hg hg1
        have hsz := hg01.size
        have hown1 := hown.kept hg1 (Or.inr (by simp [Value.ownBlock]))
        obtain ⟨x', e', hb', cx', cy', cz'⟩ := (h.kept hg01) k hlt
        injection e' with e'
        subst e'
        clear cx cy cz hg1 hown
        go_wp2_with fail
        refine (specAge _ _ _ _ q0 q1).mono ?_
        rintro e w2 ⟨rfl, hg2⟩
        have hg02 := gr_trans hg01 hg2
        have hsz2 := hg02.size
        have hown2 := hown1.kept hg2 (Or.inr (by simp [Value.ownBlock]))
        clear cx' cy' cz' hg2 hown1 hg01
        go_wp2_with (at_builtin; refine wpList_append_lies _ rfl _ _ _ rfl w.heap.size 42 i0 _ 3 24 Tryz.underlying24 hi hz0 hz1 hz2 rfl (by omega) (.slice (some ⟨g, 0, none⟩) k c) k _ rfl (hown2.alloc _) ⟨w2.heap.size, 0, none⟩ 1 1 [.int .i64 (rx l k), .int .i64 (min 1000 (ra l k + 1)), .bool (ro l k)] rfl rfl (World.news_of_block (cs := #[.int .i64 (rx l k), .int .i64 (min 1000 (ra l k + 1)), .bool (ro l k)]) (t := 42) (fr := (0, 0)) (heap_alloc_new w2 _)) (by simp [Value.oneCell']) (by omega) (by unfold maxLen; omega) (by omega) (by simp; omega) (w2.heap.size + 1) (by simp) ?_; intro gg cap1 w3 hown3 hgrow hat hlt3)
        have hgw : w2.grownBy w3 (some g) := gr_trans (World.grownBy_alloc _ _ _) hgrow
        have hg03 := gr_past hg02 hgw hge
        go_wp2_with fail
        go_roundw
        case rel => exact ⟨k + 1, gg, cap1, by omega, by go_num, rfl, by
          rcases hat with hat | hat
          · simp [Value.ownBlock] at hat; omega
          · omega, by rw [map_take_snoc hlt, rowR_snoc]; exact hown3, hg03⟩
        case measure => simp [intOf]; omega
      · obtain rfl : k = l.length := by omega
        go_wp2_with fail
        go_ret
        have ht : (l.map ageR).take l.length = l.map ageR := by rw [List.take_of_length_le (by simp)]
        rw [ht] at hown
        exact ⟨some ⟨g, 0, none⟩, c, by simp, hg, arg_of_row (base := w.heap.size) (m := l.length) (cap := c) (by simpa using hown)⟩
  · have ha' : l.all okR = false := Bool.eq_false_iff.2 ha
    clear ha
    rw [agedAll_no ha']
    go_enter Tryz.func52, Tryz.ntmps52
    go_wp2_with fail
    go_loopw [3, 4] (fun t i wr => i = .int .i64 0 ∧ t = .slice (some ⟨w.heap.size, 0, none⟩) 0 0 ∧ w.grownBy wr none) (fun _ i _ => 0)
    case atStart => exact ⟨rfl, rfl, g0⟩
    case round =>
      clear o0 g0
      obtain ⟨rfl, rfl, hg⟩ := hrel
      have hne : 0 < l.length := by
        cases l with
        | nil => simp at ha'
        | cons _ _ => simp
      go_wp2_with fail
      refine (specRight _ _ _ _ (h.kept hg) hl).mono ?_
      rintro e w1 ⟨rfl, hg1⟩
      go_wp2_with fail
      go_ret
      exact ⟨_, _, rfl, gr_trans hg hg1, Arg.nil _ _⟩

theorem map_age {l : List R} {k : Nat} (h : k < l.length) : (l.map ageR).getD k zR = (rx l k, min 1000 (ra l k + 1), ro l k) := by rw [rx_map h, ageR]

set_option maxRecDepth 100000 in
set_option maxHeartbeats 4000000 in
theorem implAgedAll (a : Option Addr) (cap : Nat) (l : List R) (w : World) (h : Arg w a l) (hl : l.length ≤ 1048576) : Calls Tryz.prog 86 #[.slice a l.length cap] w (RetO (agedAll l) w) := by
  obtain ⟨i0, hi, hz0, hz1, hz2⟩ := info_parts infoReading
  go_enter Tryz.func86, Tryz.ntmps86
  go_wp2_with (at_make; refine wpList_make_has _ rfl _ _ _ rfl 42 i0 _ 3 Tryz.underlying24 hi hz0 hz1 .i64 .i64 _ _ l.length rfl rfl rfl rfl (by rw [hz2]; omega) (by unfold maxLen; omega) ?_)
  have hA0 := Has.fresh w 42 (madeCells (Value.cells (.agg #[.int .i64 0, .int .i64 0, .bool false])) (l.length * 3))
  go_loopw [11] (fun i wr => ∃ (k : Nat) (A : Array Value), k ≤ l.length ∧ i = .int .i64 k ∧ Has wr w.heap.size 42 A ∧ Hid (A.size = l.length * 3) ∧ Hid (Laid A (l.map ageR) k) ∧ Hid (∀ j, j < k → okR (rx l j, ra l j, ro l j) = true) ∧ w.grownBy wr none) (fun i _ => l.length - (intOf i).toNat)
  case atStart => exact ⟨0, _, Nat.zero_le _, rfl, hA0, Lib.hid (size_madeCells _ _), Lib.hid (fun j hj => by omega), Lib.hid (fun j hj => by omega), World.grownBy_alloc _ _ _⟩
  case round =>
    clear hA0
    obtain ⟨k, A, hk, rfl, hA, hs, hr, hok, hg⟩ := hrel
    by_cases hlt : k < l.length
    · obtain ⟨x, rfl, hb, cx, cy, cz⟩ := (h.kept hg) k hlt
      have hsz := hA.lt
      have hB := Has.fresh wr 42 #[.int .i64 (rx l k), .int .i64 (ra l k), .bool (ro l k)]
      replace hA := hA.alloc (Obj.cells #[.int .i64 (rx l k), .int .i64 (ra l k), .bool (ro l k)] 42)
      have hg0 := gr_alloc hg (Obj.cells #[.int .i64 (rx l k), .int .i64 (ra l k), .bool (ro l k)] 42)
      by_cases ho : okR (rx l k, ra l k, ro l k) = true
      · go_wp2_with fail
        refine (implReadingOk _ _ _ _).mono ?_
        rintro e w1 ⟨rfl, hg1⟩
        replace hA := hA.grown hg1 (by simp)
        replace hB := hB.grown hg1 (by simp)
        replace hg0 := gr_trans hg0 hg1
        obtain ⟨c0, c1, c2, _, _, _⟩ := three hB
        clear hg1
        go_wp2_with fail
        refine (implAged _ _ _ _).mono ?_
        rintro e w2 ⟨rfl, hg2⟩
        rw [aged_ok ho]
        have HO := Lib.hid ho
        clear ho
        replace hA := hA.grown hg2 (by simp)
        replace hg0 := gr_trans hg0 hg2
        obtain ⟨v0, e0⟩ : ∃ v, A[k * 3]? = some v := ⟨_, Array.getElem?_eq_getElem (by have := hs.out; omega)⟩
        obtain ⟨v1, e1⟩ : ∃ v, A[k * 3 + 1]? = some v := ⟨_, Array.getElem?_eq_getElem (by have := hs.out; omega)⟩
        obtain ⟨v2, e2⟩ : ∃ v, A[k * 3 + 2]? = some v := ⟨_, Array.getElem?_eq_getElem (by have := hs.out; omega)⟩
        have d0 := (hA.cell (k * 3)).trans e0
        have d1 := (hA.cell (k * 3 + 1)).trans e1
        have d2 := (hA.cell (k * 3 + 2)).trans e2
        have g0 := hA.frozen (k * 3)
        have g1 := hA.frozen (k * 3 + 1)
        have g2 := hA.frozen (k * 3 + 2)
        clear e0 e1 e2 c0 c1 c2 hB hg2 cx cy cz
        go_wp2_with fail
        go_roundw
        case rel => exact ⟨k + 1, _, by omega, by go_num, ((hA.set _ _).set _ _).set _ _, Lib.hid (by simpa using hs.out), Lib.hid (hr.out.next (r := (rx l k, min 1000 (ra l k + 1), ro l k)) (Nat.le_of_eq hs.out.symm) hlt (map_age hlt)), Lib.hid (fun j hj => by
          by_cases e : j = k
          · subst e; exact HO.out
          · exact hok.out j (by omega)), gr_new (gr_new (gr_new hg0 (Nat.le_refl _) _ _) (Nat.le_refl _) _ _) (Nat.le_refl _) _ _⟩
        case measure => simp [intOf]; omega
      · have ho' : okR (rx l k, ra l k, ro l k) = false := Bool.eq_false_iff.2 ho
        clear ho
        have HA := Lib.hid (agedAll_no (all_no hlt ho'))
        go_wp2_with fail
        refine (implReadingOk _ _ _ _).mono ?_
        rintro e w1 ⟨rfl, hg1⟩
        go_wp2_with fail
        go_ret
        rw [HA.out]
        exact ⟨none, 0, rfl, gr_trans hg0 hg1, Or.inl ⟨rfl, rfl⟩, fun x e => by cases e⟩
    · obtain rfl : k = l.length := by omega
      have HA := Lib.hid (agedAll_ok (all_yes hok.out))
      go_wp2_with fail
      go_ret
      rw [HA.out]
      exact ⟨_, l.length, by rw [List.length_map]; rfl, hg, Or.inr ⟨_, A, rfl, hA, fun j hj => hr.out j (by simpa using hj)⟩, fun x e => by injection e with e; subst e; exact Nat.le_refl _⟩

end Go.Proofs.YtjbgcgblamijdaaGreatDoor.rd

