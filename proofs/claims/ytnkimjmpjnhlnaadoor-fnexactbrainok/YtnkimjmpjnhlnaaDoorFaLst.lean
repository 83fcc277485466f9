/- What came in: a fan, a list of fans; read, copied into new memory, compared, marked. -/
import Derived.Test.YtnkimjmpjnhlnaaDoorFa
import Derived.Test.YtnkimjmpjnhlnaaDoorBncArg
import Derived.ChangeSame
import Derived.Deep.Strs
import Derived.Deep.AppendLies
import Derived.StillTailTactics
namespace Go.Proofs.YtnkimjmpjnhlnaaDoor.fan
open Go.ChangeShapes Go.WideShapes Go.ChangeAt Go.RowKit
open Go.Proofs.YtnkimjmpjnhlnaaDoor.nums Go.Proofs.YtnkimjmpjnhlnaaDoor.mem
open Go.Proofs.YtnkimjmpjnhlnaaDoor.rd (three set3 fresh1)
open Go.Proofs.YtnkimjmpjnhlnaaDoor.bnc (RetB)
open Go.Proofs.YtnkimjmpjnhlnaaDoor.tab (Ret quiet_w wpList_make_has add_off)
set_option linter.unusedVariables false

set_option maxRecDepth 100000 in
/-- A fan's cells, read again. -/
theorem fan_of_trod {H : Type} {enc : TypeId × Value → H} {w : World} {base : Nat} {spare : Nat → Bool} {held : Bool} {fuel : Nat} {cs : List Value} {y : DataW H × List MemPlace}
    (hf : DataW.trod enc Tryd.prog w base spare held fuel 77 cs = some y) : ∃ (N : Int) (on out : Bool), cs = [.int .i64 N, .bool on, .bool out] ∧ (Lit.int .i64 N).wf = true := by
  have h2 : Tryd.prog.cellsOf 77 = 3 := by kernel_rfl
  have c0 : Tryd.prog.cellsOf 75 = 2 := by kernel_rfl
  have c1 : Tryd.prog.cellsOf 2 = 1 := by kernel_rfl
  have c2 : Tryd.prog.cellsOf 4 = 1 := by kernel_rfl
  obtain ⟨y0, y1, n, _, hl, t0, t1⟩ := trod_struct2 Tryd.underlying77 hf
  obtain ⟨x0, x1, n2, _, hl2, s0, s1⟩ := trod_struct2 Tryd.underlying75 t0
  obtain ⟨z, e0, _, hw⟩ := DataW.trod_int Tryd.underlying2 s0
  obtain ⟨o, e1, _⟩ := DataW.trod_bool Tryd.underlying4 s1
  obtain ⟨u, e2, _⟩ := DataW.trod_bool Tryd.underlying4 t1
  rw [h2] at hl
  match cs, hl with
  | [x, y, v], _ =>
    simp [c0, c1, c2] at e0 e1 e2
    exact ⟨z, o, u, by rw [e0, e1, e2], hw⟩
set_option maxRecDepth 100000 in
theorem open_fan {H : Type} {enc : TypeId × Value → H} {w : World} {r : Reach} {b0 base : Nat} {spare : Nat → Bool} {held : Bool} {v : Value} {d : DataW H} {p : List MemPlace}
    (hval : Value.okWide Tryd.prog w r b0 77 v) (h : DataW.Trod enc Tryd.prog w base spare held 77 v d p) : ∃ (N : Int) (on out : Bool), v = .agg #[.int .i64 N, .bool on, .bool out] ∧ (Lit.int .i64 N).wf = true := by
  obtain ⟨cs, rfl, hs⟩ := okWide_struct Tryd.underlying77 hval
  obtain ⟨fuel, hf⟩ := h
  obtain ⟨N, on, out, e, hw⟩ := fan_of_trod hf
  refine ⟨N, on, out, ?_, hw⟩
  obtain ⟨l⟩ := cs
  simp [Value.cells] at e
  rw [e]

set_option maxHeartbeats 1000000 in
theorem toFan (N : Int) (on out : Bool) (w : World) : Calls Tryd.prog 46 #[.agg #[.int .i64 N, .bool on, .bool out]] w (RetF (N, on, out) w) := by
  have a1 := ((fresh1 w (Obj.cells #[.int .i64 N, .bool on, .bool out] 77) 53 #[.int .i64 0, .bool false, .bool false]).alloc (Obj.cells #[.int .i64 0, .bool false, .bool false] 53))
  have a2 := fresh1 (w.alloc (Obj.cells #[.int .i64 N, .bool on, .bool out] 77)) (Obj.cells #[.int .i64 0, .bool false, .bool false] 53) 53 #[.int .i64 0, .bool false, .bool false]
  have a0 := ((Has.fresh w 77 #[.int .i64 N, .bool on, .bool out]).alloc (Obj.cells #[.int .i64 0, .bool false, .bool false] 53)).alloc (Obj.cells #[.int .i64 0, .bool false, .bool false] 53)
  have g0 := gr_alloc (gr_alloc (World.grownBy_alloc w (Obj.cells #[.int .i64 N, .bool on, .bool out] 77) none) (Obj.cells #[.int .i64 0, .bool false, .bool false] 53)) (Obj.cells #[.int .i64 0, .bool false, .bool false] 53)
  go_enter Tryd.func46, Tryd.ntmps46
  go_wp2_with fail
  refine (bnc.toBounce _ _ _).mono ?_
  rintro e w1 ⟨rfl, hg⟩
  replace a0 := a0.grown hg (by simp)
  replace a1 := a1.grown hg (by simp)
  replace a2 := a2.grown hg (by simp)
  replace g0 := gr_trans g0 hg
  simp at a2
  obtain ⟨b0, b1, b2, _, _, _⟩ := three a0
  obtain ⟨c0, c1, c2, f0, f1, f2⟩ := three a1
  obtain ⟨d0, d1, d2, p0, p1, p2⟩ := three a2
  go_wp2_with fail
  have b1 := set3 (((a1.set_other (g' := w.heap.size + 1 + 1) (by omega) 0 (.int .i64 N)).set_other (g' := w.heap.size + 1 + 1) (by omega) 1 (.bool on)).set_other (g' := w.heap.size + 1 + 1) (by omega) 2 (.bool out)) (.int .i64 N) (.bool on) (.bool out)
  obtain ⟨k0, k1, k2, _, _, _⟩ := three b1
  exact bodyPost_ret (v := .agg #[.int .i64 N, .bool on, .bool out]) (by simp [results, Tryd.results46, go_sem, k0, k1, k2]) rfl ⟨rfl, gr_new (gr_new (gr_new (gr_new (gr_new (gr_new g0 (by omega) _ _) (by omega) _ _) (by omega) _ _) (by omega) _ _) (by omega) _ _) (by omega) _ _⟩

theorem eqFan (N : Int) (on out : Bool) (w : World) : Calls Tryd.prog 56 #[.agg #[.int .i64 N, .bool on, .bool out], .agg #[.int .i64 N, .bool on, .bool out]] w (Ret (.bool true) w) := by
  have a0 := (Has.fresh w 53 #[.int .i64 N, .bool on, .bool out]).alloc (Obj.cells #[.int .i64 N, .bool on, .bool out] 53)
  have a1 := fresh1 w (Obj.cells #[.int .i64 N, .bool on, .bool out] 53) 53 #[.int .i64 N, .bool on, .bool out]
  have g0 := gr_alloc (World.grownBy_alloc w (Obj.cells #[.int .i64 N, .bool on, .bool out] 53) none) (Obj.cells #[.int .i64 N, .bool on, .bool out] 53)
  go_enter Tryd.func56, Tryd.ntmps56
  go_wp2_with fail
  refine (bnc.eqBounce _ _ _).mono ?_
  rintro e w1 ⟨rfl, hg⟩
  obtain ⟨c0, c1, c2, _, _, _⟩ := three (a0.grown hg (by simp))
  obtain ⟨d0, d1, d2, _, _, _⟩ := three (a1.grown hg (by simp))
  go_wp2_with fail
  go_ret
  exact ⟨rfl, gr_trans g0 hg⟩

def fN (l : List F) (k : Nat) : Int := (l.getD k zF).1
def fO (l : List F) (k : Nat) : Bool := (l.getD k zF).2.1
def fT (l : List F) (k : Nat) : Bool := (l.getD k zF).2.2
theorem ff (l : List F) (k : Nat) : l.getD k zF = (fN l k, fO l k, fT l k) := rfl
theorem getD_lt {l : List F} {k : Nat} (h : k < l.length) : l.getD k zF = l[k] := by simp [List.getD, h]
theorem ff_map {f : F → F} {l : List F} {k : Nat} (h : k < l.length) : (l.map f).getD k zF = f (fN l k, fO l k, fT l k) := by
  rw [← ff, getD_lt (by simpa using h), getD_lt h, List.getElem_map]
/-- The cells of a list of fans. -/
def rowF : List F → List Value
  | [] => []
  | r :: l => .int .i64 r.1 :: .bool r.2.1 :: .bool r.2.2 :: rowF l
theorem rowF_snoc (l : List F) (r : F) : rowF (l ++ [r]) = rowF l ++ [.int .i64 r.1, .bool r.2.1, .bool r.2.2] := by
  induction l with
  | nil => rfl
  | cons x l ih => simp only [List.cons_append, rowF, ih]
theorem rowF_at : ∀ (l : List F) (k : Nat), k < l.length → (rowF l)[k * 3]? = some (.int .i64 (fN l k)) ∧ (rowF l)[k * 3 + 1]? = some (.bool (fO l k)) ∧ (rowF l)[k * 3 + 2]? = some (.bool (fT l k)) := by
  intro l
  induction l with
  | nil => intro k h; simp at h
  | cons x l ih =>
    intro k hk
    cases k with
    | zero => exact ⟨rfl, rfl, rfl⟩
    | succ k =>
      obtain ⟨h0, h1, h2⟩ := ih k (by simpa using hk)
      rw [show (k + 1) * 3 = k * 3 + 1 + 1 + 1 by omega]
      refine ⟨?_, ?_, ?_⟩
      · simp only [rowF, List.getElem?_cons_succ]; exact h0
      · simp only [rowF, List.getElem?_cons_succ]; exact h1
      · simp only [rowF, List.getElem?_cons_succ]; exact h2

/-- The slice holds these fans, each in three cells, in a block of the world. -/
def Arg (w : World) (a : Option Addr) (l : List F) : Prop :=
  ∀ k, k < l.length → ∃ x : Addr, a = some x ∧ x.block < w.heap.size ∧ w.cell? (x.add (k * 3)) = some (.int .i64 (fN l k)) ∧ w.cell? ⟨(x.add (k * 3)).block, (x.add (k * 3)).off + 1, none⟩ = some (.bool (fO l k)) ∧ w.cell? ⟨(x.add (k * 3)).block, (x.add (k * 3)).off + 2, none⟩ = some (.bool (fT l k))
theorem Arg.nil (w : World) (a : Option Addr) : Arg w a [] := fun k hk => by simp at hk
theorem Arg.grown {w w' : World} {a : Option Addr} {l : List F} {row : Option Nat} (h : Arg w a l) (hg : w.grownBy w' row) (hn : ∀ x : Addr, a = some x → some x.block ≠ row) : Arg w' a l := by
  intro k hk
  obtain ⟨x, e, hb, h1, h2, h3⟩ := h k hk
  have hne : some (x.add (k * 3)).block ≠ row := by rw [block_add]; exact hn x e
  refine ⟨x, e, Nat.lt_of_lt_of_le hb hg.size, ?_, ?_, ?_⟩
  · rw [← h1]; exact World.cell?_of_block (hg.block _ (by rw [block_add]; omega) hne)
  · rw [← h2]; exact World.cell?_of_block (hg.block _ (by show (x.add (k * 3)).block < _; rw [block_add]; omega) hne)
  · rw [← h3]; exact World.cell?_of_block (hg.block _ (by show (x.add (k * 3)).block < _; rw [block_add]; omega) hne)
theorem Arg.kept {w w' : World} {a : Option Addr} {l : List F} (h : Arg w a l) (hg : w.grownBy w' none) : Arg w' a l := h.grown hg (fun x e => by simp)
theorem add0 (g m : Nat) : (⟨g, 0, none⟩ : Addr).add m = ⟨g, m, none⟩ := by unfold Addr.add; split <;> simp_all
/-- A row of one's own that holds them. -/
theorem arg_of_row {w : World} {base m cap : Nat} {a : Option Addr} {l : List F} (h : w.ownsRow base 53 3 (.slice a m cap) l.length (rowF l)) : Arg w a l := by
  intro k hk
  rcases h.2 with ⟨_, hn⟩ | ⟨g, cap', cur, hv, _, hc, _⟩
  · omega
  · injection hv with hv1 hv2 hv3
    subst hv1
    have hrow := h
    obtain ⟨h0, h1, h2⟩ := rowF_at l k hk
    rw [hv2] at hrow
    refine ⟨_, rfl, Has.lt hc, ?_, ?_, ?_⟩
    · rw [add0, hrow.cellAt (k * 3) (by omega)]; exact h0
    · rw [add0]; show w.cell? ⟨g, k * 3 + 1, none⟩ = _; rw [hrow.cellAt (k * 3 + 1) (by omega)]; exact h1
    · rw [add0]; show w.cell? ⟨g, k * 3 + 2, none⟩ = _; rw [hrow.cellAt (k * 3 + 2) (by omega)]; exact h2
/-- The block of a slice, where there is one. -/
def blk (a : Option Addr) : Option Nat := a.map Addr.block
/-- The fans lie in a block of their own that is known whole, or there are none. -/
def OwnF (w : World) (a : Option Addr) (l : List F) : Prop :=
  (a = none ∧ l = []) ∨ ∃ (g : Nat) (cs : Array Value), a = some ⟨g, 0, none⟩ ∧ Has w g 53 cs ∧ ∀ k, k < l.length → cs[k * 3]? = some (.int .i64 (fN l k)) ∧ cs[k * 3 + 1]? = some (.bool (fO l k)) ∧ cs[k * 3 + 2]? = some (.bool (fT l k))
theorem OwnF.arg {w : World} {a : Option Addr} {l : List F} (h : OwnF w a l) : Arg w a l := by
  rcases h with ⟨rfl, rfl⟩ | ⟨g, cs, rfl, hc, hj⟩
  · exact Arg.nil _ _
  · intro k hk
    obtain ⟨h0, h1, h2⟩ := hj k hk
    refine ⟨_, rfl, hc.lt, ?_, ?_, ?_⟩
    · rw [add0, hc.cell]; exact h0
    · rw [add0]; show w.cell? ⟨g, k * 3 + 1, none⟩ = _; rw [hc.cell]; exact h1
    · rw [add0]; show w.cell? ⟨g, k * 3 + 2, none⟩ = _; rw [hc.cell]; exact h2
theorem OwnF.grown {w w' : World} {a : Option Addr} {l : List F} {row : Option Nat} (h : OwnF w a l) (hg : w.grownBy w' row) (hn : ∀ x : Addr, a = some x → some x.block ≠ row) : OwnF w' a l := by
  rcases h with h | ⟨g, cs, rfl, hc, hj⟩
  · exact Or.inl h
  · exact Or.inr ⟨g, cs, rfl, hc.grown hg (hn _ rfl), hj⟩
theorem OwnF.kept {w w' : World} {a : Option Addr} {l : List F} (h : OwnF w a l) (hg : w.grownBy w' none) : OwnF w' a l := h.grown hg (fun x e => by simp)
theorem OwnF.lt {w : World} {a : Option Addr} {l : List F} (h : OwnF w a l) {x : Addr} (e : a = some x) : x.block < w.heap.size := by
  rcases h with ⟨h, _⟩ | ⟨g, cs, h, hc, hj⟩
  · rw [h] at e; cases e
  · rw [h] at e; injection e with e; subst e; exact hc.lt

set_option maxRecDepth 100000 in
theorem open_fans {H : Type} {enc : TypeId × Value → H} {w : World} {base : Nat} {held : Bool} {a : Option Addr} {len cap : Nat} {d : DataW H} {p : List MemPlace}
    (h : DataW.Trod enc Tryd.prog w base (fun _ => true) held 22 (.slice a len cap) d p) : ∃ l : List F, l.length = len ∧ l.length ≤ maxLen ∧ Arg w a l := by
  obtain ⟨fuel, hf⟩ := h
  rcases Go.Deep.open_slice Tryd.underlying22 hf with ⟨hcs, _⟩ | ⟨x, l, c, m, n, D, Pq, hcs, hb, hl, hm, hmm, _, hx⟩
  · simp [Value.cells] at hcs
    obtain ⟨rfl, rfl, rfl⟩ := hcs
    exact ⟨[], rfl, Nat.zero_le _, Arg.nil _ _⟩
  · simp [Value.cells] at hcs
    obtain ⟨rfl, rfl, rfl⟩ := hcs
    have hlm : len ≤ m := by rw [hmm]; split <;> omega
    have ce : Tryd.prog.cellsOf 77 = 3 := by kernel_rfl
    have key : ∀ k, k < len → ∃ q : F, x.block < w.heap.size ∧ w.cell? (x.add (k * 3)) = some (.int .i64 q.1) ∧ w.cell? ⟨(x.add (k * 3)).block, (x.add (k * 3)).off + 1, none⟩ = some (.bool q.2.1) ∧ w.cell? ⟨(x.add (k * 3)).block, (x.add (k * 3)).off + 2, none⟩ = some (.bool q.2.2) := by
      intro k hk
      obtain ⟨cs', h1, h2⟩ := hx k (by omega)
      rw [ce] at h1
      obtain ⟨_, hlen, hcell⟩ := World.cells?_some h1
      obtain ⟨z0, o1, o2, rfl, hw0⟩ := fan_of_trod h2
      have d0 := hcell 0 (by omega)
      have d1 := hcell 1 (by omega)
      have d2 := hcell 2 (by omega)
      rw [Go.Deep.add_add] at d0 d1 d2
      have d0' : w.cell? (x.add (k * 3)) = some (.int .i64 z0) := by simpa using d0
      have d1' : w.cell? (x.add (k * 3 + (0 + 1))) = some (.bool o1) := by simpa using d1
      have d2' : w.cell? (x.add (k * 3 + (1 + 1))) = some (.bool o2) := by simpa using d2
      rw [add_off] at d1' d2'
      refine ⟨(z0, o1, o2), ?_, d0', d1', d2'⟩
      by_cases hbk : x.block < w.heap.size
      · exact hbk
      · have hn : w.heap[(x.add (k * 3)).block]? = none := by rw [block_add]; exact Array.getElem?_eq_none (by omega)
        simp [World.cell?, hn] at d0'
    have key2 : ∀ k : Nat, ∃ q : F, k < len → (x.block < w.heap.size ∧ w.cell? (x.add (k * 3)) = some (.int .i64 q.1) ∧ w.cell? ⟨(x.add (k * 3)).block, (x.add (k * 3)).off + 1, none⟩ = some (.bool q.2.1) ∧ w.cell? ⟨(x.add (k * 3)).block, (x.add (k * 3)).off + 2, none⟩ = some (.bool q.2.2)) := fun k => by
      by_cases hk : k < len
      · obtain ⟨q, hq⟩ := key k hk; exact ⟨q, fun _ => hq⟩
      · exact ⟨zF, fun h => absurd h hk⟩
    obtain ⟨G, hG⟩ := Classical.skolem.1 key2
    refine ⟨(List.range len).map G, by simp, by simp; omega, fun k hk => ?_⟩
    have hk' : k < len := by simpa using hk
    have g : ((List.range len).map G).getD k zF = G k := by simp [List.getD, hk']
    obtain ⟨h1, h2, h3, h4⟩ := hG k hk'
    exact ⟨x, rfl, h1, by unfold fN; rw [g]; exact h2, by unfold fO; rw [g]; exact h3, by unfold fT; rw [g]; exact h4⟩

/-- The bulk: what is left of it. -/
theorem szFans (a : Option Addr) (len cap : Nat) (w : World) (hl : len ≤ maxLen) :
    Calls Tryd.prog 14 #[.slice a len cap, .int .i64 1048576] w fun e w' => e = .returned (.int .i64 (if len ≤ 1048576 then 1048576 - (len : Int) else -1)) ∧ w = w' := by
  unfold maxLen at hl
  by_cases h : len ≤ 1048576
  · rw [if_pos h]
    go_enter Tryd.func14, Tryd.ntmps14
    go_wp2
    go_ret
    exact ⟨rfl, rfl⟩
  · rw [if_neg h]
    go_enter Tryd.func14, Tryd.ntmps14
    go_wp2
    go_ret
    exact ⟨rfl, rfl⟩

theorem infoFan : (Tryd.prog.info? 53).map (fun i => (i.zero, i.size, i.bytes)) = some (some (.agg #[.int .i64 0, .bool false, .bool false]), 3, 24) := by kernel_rfl

/-- A list of its own comes back: of what was there nothing is another. -/
def RetO (l : List F) (w : World) (e : Ending) (w' : World) : Prop := ∃ a cap, e = .returned (.slice a l.length cap) ∧ w.grownBy w' none ∧ OwnF w' a l ∧ ∀ x : Addr, a = some x → w.heap.size ≤ x.block
theorem set3at {A : Array Value} {n k : Nat} {u v s : Value} (hs : n * 3 ≤ A.size) (hk : k < n) :
    let B := ((A.setIfInBounds (k * 3) u).setIfInBounds (k * 3 + 1) v).setIfInBounds (k * 3 + 2) s
    B[k * 3]? = some u ∧ B[k * 3 + 1]? = some v ∧ B[k * 3 + 2]? = some s ∧ B.size = A.size ∧ ∀ j, j ≠ k → B[j * 3]? = A[j * 3]? ∧ B[j * 3 + 1]? = A[j * 3 + 1]? ∧ B[j * 3 + 2]? = A[j * 3 + 2]? := by
  intro B
  refine ⟨?_, ?_, ?_, by simp [B], fun j hj => ⟨?_, ?_, ?_⟩⟩
  · simp [B, Array.getElem?_setIfInBounds]; omega
  · simp [B, Array.getElem?_setIfInBounds]; omega
  · simp [B, Array.getElem?_setIfInBounds]; omega
  all_goals
    simp only [B]
    rw [Array.getElem?_setIfInBounds_ne (by omega), Array.getElem?_setIfInBounds_ne (by omega), Array.getElem?_setIfInBounds_ne (by omega)]

/-- So far k of them are laid. -/
def Laid (A : Array Value) (l : List F) (k : Nat) : Prop := ∀ j, j < k → A[j * 3]? = some (.int .i64 (fN l j)) ∧ A[j * 3 + 1]? = some (.bool (fO l j)) ∧ A[j * 3 + 2]? = some (.bool (fT l j))
theorem Laid.next {A : Array Value} {l : List F} {n k : Nat} {r : F} (h : Laid A l k) (hs : n * 3 ≤ A.size) (hk : k < n) (hr : l.getD k zF = r) :
    Laid (((A.setIfInBounds (k * 3) (.int .i64 r.1)).setIfInBounds (k * 3 + 1) (.bool r.2.1)).setIfInBounds (k * 3 + 2) (.bool r.2.2)) l (k + 1) := by
  obtain ⟨h0, h1, h2, _, h4⟩ := set3at (u := .int .i64 r.1) (v := .bool r.2.1) (s := .bool r.2.2) hs hk
  intro j hj
  by_cases e : j = k
  · subst e; subst hr; exact ⟨h0, h1, h2⟩
  · obtain ⟨e0, e1, e2⟩ := h4 j e
    obtain ⟨f0, f1, f2⟩ := h j (by omega)
    exact ⟨e0.trans f0, e1.trans f1, e2.trans f2⟩

set_option maxHeartbeats 2000000 in
theorem toFans (a : Option Addr) (cap : Nat) (l : List F) (w : World) (h : Arg w a l) (hl : l.length ≤ 1048576) : Calls Tryd.prog 23 #[.slice a l.length cap] w (RetO l w) := by
  obtain ⟨i0, hi, hz0, hz1, hz2⟩ := info_parts infoFan
  go_enter Tryd.func23, Tryd.ntmps23
  go_wp2_with (at_make; refine wpList_make_has _ rfl _ _ _ rfl 53 i0 _ 3 Tryd.underlying33 hi hz0 hz1 .i64 .i64 _ _ l.length rfl rfl rfl rfl (by rw [hz2]; omega) (by unfold maxLen; omega) ?_)
  have hA0 := Has.fresh w 53 (madeCells (Value.cells (.agg #[.int .i64 0, .bool false, .bool false])) (l.length * 3))
  go_loopw [4] (fun i wr => ∃ (k : Nat) (A : Array Value), k ≤ l.length ∧ i = .int .i64 k ∧ Has wr w.heap.size 53 A ∧ Hid (A.size = l.length * 3) ∧ Hid (Laid A l k) ∧ w.grownBy wr none) (fun i _ => l.length - (intOf i).toNat)
  case atStart => exact ⟨0, _, Nat.zero_le _, rfl, hA0, Lib.hid (size_madeCells _ _), Lib.hid (fun j hj => by omega), World.grownBy_alloc _ _ _⟩
  case round =>
    obtain ⟨k, A, hk, rfl, hA, hs, hr, hg⟩ := hrel
    by_cases hlt : k < l.length
    · obtain ⟨x, rfl, hb, cx, cy, cz⟩ := (h.kept hg) k hlt
      go_wp2_with fail
      refine (toFan _ _ _ _).mono ?_
      rintro e w1 ⟨rfl, hg1⟩
      have hA1 := hA.grown hg1 (by simp)
      obtain ⟨v0, e0⟩ : ∃ v, A[k * 3]? = some v := ⟨_, Array.getElem?_eq_getElem (by have := hs.out; omega)⟩
      obtain ⟨v1, e1⟩ : ∃ v, A[k * 3 + 1]? = some v := ⟨_, Array.getElem?_eq_getElem (by have := hs.out; omega)⟩
      obtain ⟨v2, e2⟩ : ∃ v, A[k * 3 + 2]? = some v := ⟨_, Array.getElem?_eq_getElem (by have := hs.out; omega)⟩
      have d0 := (hA1.cell (k * 3)).trans e0
      have d1 := (hA1.cell (k * 3 + 1)).trans e1
      have d2 := (hA1.cell (k * 3 + 2)).trans e2
      have g0 := hA1.frozen (k * 3)
      have g1 := hA1.frozen (k * 3 + 1)
      have g2 := hA1.frozen (k * 3 + 2)
      clear e0 e1 e2
      go_wp2_with fail
      go_roundw
      case rel => exact ⟨k + 1, _, by omega, by go_num, ((hA1.set _ _).set _ _).set _ _, Lib.hid (by simpa using hs.out), Lib.hid (hr.out.next (Nat.le_of_eq hs.out.symm) hlt (ff l k)), gr_new (gr_new (gr_new (gr_trans hg hg1) (Nat.le_refl _) _ _) (Nat.le_refl _) _ _) (Nat.le_refl _) _ _⟩
      case measure => simp [intOf]; omega
    · obtain rfl : k = l.length := by omega
      go_wp2_with fail
      go_ret
      exact ⟨_, _, rfl, hg, Or.inr ⟨_, A, rfl, hA, fun j hj => hr.out j hj⟩, fun x e => by injection e with e; subst e; exact Nat.le_refl _⟩

set_option maxRecDepth 100000 in
set_option maxHeartbeats 2000000 in
theorem eqFans (a a' : Option Addr) (cap cap' : Nat) (l : List F) (w : World) (h : Arg w a l) (h' : Arg w a' l) (hl : l.length ≤ 1048576) :
    Calls Tryd.prog 30 #[.slice a l.length cap, .slice a' l.length cap'] w (Ret (.bool true) w) := by
  go_enter Tryd.func30, Tryd.ntmps30
  go_wp2
  go_loopw [5] (fun i wr => ∃ k : Nat, k ≤ l.length ∧ i = .int .i64 k ∧ w.grownBy wr none) (fun i _ => l.length - (intOf i).toNat)
  case atStart => exact ⟨0, Nat.zero_le _, rfl, gr_refl _ _⟩
  case round =>
    obtain ⟨k, hk, rfl, hg⟩ := hrel
    by_cases hlt : k < l.length
    · obtain ⟨x, rfl, hb, cx, cy, cz⟩ := (h.kept hg) k hlt
      obtain ⟨x', rfl, hb', cx', cy', cz'⟩ := (h'.kept hg) k hlt
      go_wp2_with fail
      go_still_tail 8, (by kernel_rfl)
      change wpList _ _ _ _ _ wr.drew
      go_wp2_with fail
      refine (eqFan _ _ _ _).mono ?_
      rintro e w1 ⟨rfl, hg1⟩
      go_wp2_with fail
      go_roundw
      case rel => exact ⟨k + 1, by omega, by go_num, gr_trans (gr_drewN hg 1) hg1⟩
      case measure => simp [intOf]; omega
    · obtain rfl : k = l.length := by omega
      go_wp2_with fail
      go_ret
      exact ⟨rfl, hg⟩
end Go.Proofs.YtnkimjmpjnhlnaaDoor.fan
