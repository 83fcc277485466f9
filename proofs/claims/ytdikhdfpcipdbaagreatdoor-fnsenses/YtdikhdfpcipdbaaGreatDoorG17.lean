/- Chapter 9 on plain triples; a fan in memory; the small functions of both sides. What came in: a bounce, a list of signs; read, copied into new memory, compared. What came in: a fan, a list of fans; read, copied into new memory, compared, marked. Chapter 13: are the facts right; the ways out of a mode. -/
import Derived.Test.YtdikhdfpcipdbaaGreatDoorG3
import Derived.Test.YtdikhdfpcipdbaaGreatDoorG16
import Derived.Test.YtdikhdfpcipdbaaGreatDoorG2
import Derived.ChangeSame
import Derived.Deep.Grids
import Derived.Deep.Strs
import Derived.Deep.AppendLies
import Derived.StillTailTactics
import Derived.Test.YtdikhdfpcipdbaaGreatDoorG14
/- Chapter 9 on plain triples; a fan in memory; the small functions of both sides. -/
namespace Go.Proofs.YtdikhdfpcipdbaaGreatDoor.fan
open Go.ChangeShapes Go.WideShapes Go.ChangeAt Go.RowKit
open Go.Proofs.YtdikhdfpcipdbaaGreatDoor.nums Go.Proofs.YtdikhdfpcipdbaaGreatDoor.mem
open Go.Proofs.YtdikhdfpcipdbaaGreatDoor.rd (R okR fresh three set3 fresh1 okR_iff)
open Go.Proofs.YtdikhdfpcipdbaaGreatDoor.bnc (feel inb_iff inb_no)
open Go.Proofs.YtdikhdfpcipdbaaGreatDoor.tab (Ret quiet_w wpList_make_has)
set_option linter.unusedVariables false

/-- A fan: its bounce's number, whether it is on, whether it is given up. -/
abbrev F := Int × Bool × Bool
def zF : F := (0, false, false)
def okF (f : F) : Bool := inb f.1 0 100
def lowB (wn : Int) (r : R) : Bool := !fresh r 3 || decide (2 * r.1 < wn)
/-- What one sign does. -/
def felt (f : F) (s : Bool) : F := ((feel 5 5 (f.1, f.2.1) s).1, (feel 5 5 (f.1, f.2.1) s).2, f.2.2)
def outed (f : F) : F := (f.1, f.2.1, f.2.2 || f.2.1)
def right (f : F) (wn : Int) (r : R) : Bool := okF f && (inb wn 0 1000 && okR r)
def watched (f : F) (wn : Int) (r : R) : F :=
  if right f wn r = true then (if 100 ≤ wn then outed (felt f (lowB wn r)) else outed f) else zF
theorem right_iff {f : F} {wn : Int} {r : R} : right f wn r = true ↔ (0 ≤ f.1 ∧ f.1 ≤ 100) ∧ (0 ≤ wn ∧ wn ≤ 1000) ∧ okR r = true := by
  unfold right okF; simp [inb_iff]
theorem watched_no {f : F} {wn : Int} {r : R} (h : right f wn r = false) : watched f wn r = (0, false, false) := if_neg (by rw [h]; simp)
theorem watched_low {f : F} {wn : Int} {r : R} (h : right f wn r = true) (hw : wn < 100) : watched f wn r = outed f := by
  unfold watched; rw [if_pos h, if_neg (by omega)]
theorem watched_hi {f : F} {wn : Int} {r : R} (h : right f wn r = true) (hw : 100 ≤ wn) : watched f wn r = outed (felt f (lowB wn r)) := by
  unfold watched; rw [if_pos h, if_pos hw]
theorem felt_rng {N : Int} {on out : Bool} (s : Bool) (h0 : 0 ≤ N) (h1 : N ≤ 100) : 0 ≤ (felt (N, on, out) s).1 ∧ (felt (N, on, out) s).1 ≤ 100 :=
  bnc.feel_rng (b := (N, on)) s ⟨by omega, by omega⟩ ⟨by omega, by omega⟩ h0 h1

/-- It returns this fan; of what was there nothing is another. -/
def RetF (f : F) (w : World) (e : Ending) (w' : World) : Prop := e = .returned (.agg #[.int .i64 f.1, .bool f.2.1, .bool f.2.2]) ∧ w.grownBy w' none

theorem specFanOk (N : Int) (on out : Bool) (w : World) : Calls Tryz.prog 143 #[.agg #[.int .i64 N, .bool on, .bool out]] w (Ret (.bool (inb N 0 100)) w) := by
  go_enter Tryz.func143, Tryz.ntmps143
  go_wp2_with fail
  refine (bnc.specBounceOk _ _ _).mono ?_
  rintro e w' ⟨rfl, hg⟩
  go_wp2_with fail
  go_ret
  exact ⟨rfl, gr_trans (World.grownBy_alloc _ _ _) hg⟩

end Go.Proofs.YtdikhdfpcipdbaaGreatDoor.fan

/- What came in: a bounce, a list of signs; read, copied into new memory, compared. -/
namespace Go.Proofs.YtdikhdfpcipdbaaGreatDoor.bnc
open Go.ChangeShapes Go.WideShapes Go.ChangeAt Go.RowKit
open Go.Proofs.YtdikhdfpcipdbaaGreatDoor.nums Go.Proofs.YtdikhdfpcipdbaaGreatDoor.mem
open Go.Proofs.YtdikhdfpcipdbaaGreatDoor.tab (Ret quiet_w wpList_make_has)
set_option linter.unusedVariables false

/-- The slice that came in holds these signs, each in a cell, in a block of the world. -/
def Arg (w : World) (a : Option Addr) (l : List Bool) : Prop :=
  ∀ k, k < l.length → ∃ x : Addr, a = some x ∧ x.block < w.heap.size ∧ w.cell? (x.add k) = some (.bool (l.getD k false))
theorem Arg.kept {w w' : World} {a : Option Addr} {l : List Bool} (h : Arg w a l) (hg : w.grownBy w' none) : Arg w' a l := by
  intro k hk
  obtain ⟨x, e, hb, h1⟩ := h k hk
  refine ⟨x, e, Nat.lt_of_lt_of_le hb hg.size, ?_⟩
  rw [← h1]; exact World.cell?_of_block (hg.block _ (by rw [block_add]; omega) (by simp))

/-- A copy: a new block that holds the signs; of what was there nothing is another. -/
def Copied (l : List Bool) (w : World) (e : Ending) (w' : World) : Prop := ∃ g, e = .returned (.slice (some ⟨g, 0, none⟩) l.length l.length) ∧ w.heap.size ≤ g ∧ w.grownBy w' none ∧ Bs w' g l

end Go.Proofs.YtdikhdfpcipdbaaGreatDoor.bnc

/- What came in: a fan, a list of fans; read, copied into new memory, compared, marked. -/
namespace Go.Proofs.YtdikhdfpcipdbaaGreatDoor.fan
open Go.ChangeShapes Go.WideShapes Go.ChangeAt Go.RowKit
open Go.Proofs.YtdikhdfpcipdbaaGreatDoor.nums Go.Proofs.YtdikhdfpcipdbaaGreatDoor.mem
open Go.Proofs.YtdikhdfpcipdbaaGreatDoor.rd (three set3 fresh1)
open Go.Proofs.YtdikhdfpcipdbaaGreatDoor.bnc (RetB)
open Go.Proofs.YtdikhdfpcipdbaaGreatDoor.tab (Ret quiet_w wpList_make_has add_off)
set_option linter.unusedVariables false

def fN (l : List F) (k : Nat) : Int := (l.getD k zF).1
def fO (l : List F) (k : Nat) : Bool := (l.getD k zF).2.1
def fT (l : List F) (k : Nat) : Bool := (l.getD k zF).2.2
theorem getD_lt {l : List F} {k : Nat} (h : k < l.length) : l.getD k zF = l[k] := by simp [List.getD, h]
/-- The cells of a list of fans. -/
def rowF : List F → List Value
  | [] => []
  | r :: l => .int .i64 r.1 :: .bool r.2.1 :: .bool r.2.2 :: rowF l
theorem rowF_snoc (l : List F) (r : F) : rowF (l ++ [r]) = rowF l ++ [.int .i64 r.1, .bool r.2.1, .bool r.2.2] := by
  induction l with
  | nil => rfl
  | cons x l ih => simp only [List.cons_append, rowF, ih]
theorem rowF_at : ∀ (l : List F) (k : Nat), k < l.length → (rowF l)[k * 3]? = some (.int .i64 (fN l k)) ∧ (rowF l)[k * 3 + 1]? = some (.bool (fO l k)) ∧ (rowF l)[k * 3 + 2]? = some (.bool (fT l k)) := by
  intro l
  induction l with
  | nil => intro k h; simp at h
  | cons x l ih =>
    intro k hk
    cases k with
    | zero => exact ⟨rfl, rfl, rfl⟩
    | succ k =>
      obtain ⟨h0, h1, h2⟩ := ih k (by simpa using hk)
      rw [show (k + 1) * 3 = k * 3 + 1 + 1 + 1 by omega]
      refine ⟨?_, ?_, ?_⟩
      · simp only [rowF, List.getElem?_cons_succ]; exact h0
      · simp only [rowF, List.getElem?_cons_succ]; exact h1
      · simp only [rowF, List.getElem?_cons_succ]; exact h2

/-- The slice holds these fans, each in three cells, in a block of the world. -/
def Arg (w : World) (a : Option Addr) (l : List F) : Prop :=
  ∀ k, k < l.length → ∃ x : Addr, a = some x ∧ x.block < w.heap.size ∧ w.cell? (x.add (k * 3)) = some (.int .i64 (fN l k)) ∧ w.cell? ⟨(x.add (k * 3)).block, (x.add (k * 3)).off + 1, none⟩ = some (.bool (fO l k)) ∧ w.cell? ⟨(x.add (k * 3)).block, (x.add (k * 3)).off + 2, none⟩ = some (.bool (fT l k))
theorem Arg.nil (w : World) (a : Option Addr) : Arg w a [] := fun k hk => by simp at hk
theorem Arg.grown {w w' : World} {a : Option Addr} {l : List F} {row : Option Nat} (h : Arg w a l) (hg : w.grownBy w' row) (hn : ∀ x : Addr, a = some x → some x.block ≠ row) : Arg w' a l := by
  intro k hk
  obtain ⟨x, e, hb, h1, h2, h3⟩ := h k hk
  have hne : some (x.add (k * 3)).block ≠ row := by rw [block_add]; exact hn x e
  refine ⟨x, e, Nat.lt_of_lt_of_le hb hg.size, ?_, ?_, ?_⟩
  · rw [← h1]; exact World.cell?_of_block (hg.block _ (by rw [block_add]; omega) hne)
  · rw [← h2]; exact World.cell?_of_block (hg.block _ (by show (x.add (k * 3)).block < _; rw [block_add]; omega) hne)
  · rw [← h3]; exact World.cell?_of_block (hg.block _ (by show (x.add (k * 3)).block < _; rw [block_add]; omega) hne)
theorem Arg.kept {w w' : World} {a : Option Addr} {l : List F} (h : Arg w a l) (hg : w.grownBy w' none) : Arg w' a l := h.grown hg (fun x e => by simp)
theorem add0 (g m : Nat) : (⟨g, 0, none⟩ : Addr).add m = ⟨g, m, none⟩ := by unfold Addr.add; split <;> simp_all
/-- A row of one's own that holds them. -/
theorem arg_of_row {w : World} {base m cap : Nat} {a : Option Addr} {l : List F} (h : w.ownsRow base 189 3 (.slice a m cap) l.length (rowF l)) : Arg w a l := by
  intro k hk
  rcases h.2 with ⟨_, hn⟩ | ⟨g, cap', cur, hv, _, hc, _⟩
  · omega
  · injection hv with hv1 hv2 hv3
    subst hv1
    have hrow := h
    obtain ⟨h0, h1, h2⟩ := rowF_at l k hk
    rw [hv2] at hrow
    refine ⟨_, rfl, Has.lt hc, ?_, ?_, ?_⟩
    · rw [add0, hrow.cellAt (k * 3) (by omega)]; exact h0
    · rw [add0]; show w.cell? ⟨g, k * 3 + 1, none⟩ = _; rw [hrow.cellAt (k * 3 + 1) (by omega)]; exact h1
    · rw [add0]; show w.cell? ⟨g, k * 3 + 2, none⟩ = _; rw [hrow.cellAt (k * 3 + 2) (by omega)]; exact h2
/-- The block of a slice, where there is one. -/
def blk (a : Option Addr) : Option Nat := a.map Addr.block
/-- The fans lie in a block of their own that is known whole, or there are none. -/
def OwnF (w : World) (a : Option Addr) (l : List F) : Prop :=
  (a = none ∧ l = []) ∨ ∃ (g : Nat) (cs : Array Value), a = some ⟨g, 0, none⟩ ∧ Has w g 189 cs ∧ ∀ k, k < l.length → cs[k * 3]? = some (.int .i64 (fN l k)) ∧ cs[k * 3 + 1]? = some (.bool (fO l k)) ∧ cs[k * 3 + 2]? = some (.bool (fT l k))
theorem OwnF.arg {w : World} {a : Option Addr} {l : List F} (h : OwnF w a l) : Arg w a l := by
  rcases h with ⟨rfl, rfl⟩ | ⟨g, cs, rfl, hc, hj⟩
  · exact Arg.nil _ _
  · intro k hk
    obtain ⟨h0, h1, h2⟩ := hj k hk
    refine ⟨_, rfl, hc.lt, ?_, ?_, ?_⟩
    · rw [add0, hc.cell]; exact h0
    · rw [add0]; show w.cell? ⟨g, k * 3 + 1, none⟩ = _; rw [hc.cell]; exact h1
    · rw [add0]; show w.cell? ⟨g, k * 3 + 2, none⟩ = _; rw [hc.cell]; exact h2
theorem OwnF.grown {w w' : World} {a : Option Addr} {l : List F} {row : Option Nat} (h : OwnF w a l) (hg : w.grownBy w' row) (hn : ∀ x : Addr, a = some x → some x.block ≠ row) : OwnF w' a l := by
  rcases h with h | ⟨g, cs, rfl, hc, hj⟩
  · exact Or.inl h
  · exact Or.inr ⟨g, cs, rfl, hc.grown hg (hn _ rfl), hj⟩
theorem OwnF.kept {w w' : World} {a : Option Addr} {l : List F} (h : OwnF w a l) (hg : w.grownBy w' none) : OwnF w' a l := h.grown hg (fun x e => by simp)
theorem OwnF.lt {w : World} {a : Option Addr} {l : List F} (h : OwnF w a l) {x : Addr} (e : a = some x) : x.block < w.heap.size := by
  rcases h with ⟨h, _⟩ | ⟨g, cs, h, hc, hj⟩
  · rw [h] at e; cases e
  · rw [h] at e; injection e with e; subst e; exact hc.lt

theorem infoFan : (Tryz.prog.info? 189).map (fun i => (i.zero, i.size, i.bytes)) = some (some (.agg #[.int .i64 0, .bool false, .bool false]), 3, 24) := by kernel_rfl

/-- A list of its own comes back: of what was there nothing is another. -/
def RetO (l : List F) (w : World) (e : Ending) (w' : World) : Prop := ∃ a cap, e = .returned (.slice a l.length cap) ∧ w.grownBy w' none ∧ OwnF w' a l ∧ ∀ x : Addr, a = some x → w.heap.size ≤ x.block
theorem set3at {A : Array Value} {n k : Nat} {u v s : Value} (hs : n * 3 ≤ A.size) (hk : k < n) :
    let B := ((A.setIfInBounds (k * 3) u).setIfInBounds (k * 3 + 1) v).setIfInBounds (k * 3 + 2) s
    B[k * 3]? = some u ∧ B[k * 3 + 1]? = some v ∧ B[k * 3 + 2]? = some s ∧ B.size = A.size ∧ ∀ j, j ≠ k → B[j * 3]? = A[j * 3]? ∧ B[j * 3 + 1]? = A[j * 3 + 1]? ∧ B[j * 3 + 2]? = A[j * 3 + 2]? := by
  intro B
  refine ⟨?_, ?_, ?_, by simp [B], fun j hj => ⟨?_, ?_, ?_⟩⟩
  · simp [B, Array.getElem?_setIfInBounds]; omega
  · simp [B, Array.getElem?_setIfInBounds]; omega
  · simp [B, Array.getElem?_setIfInBounds]; omega
  all_goals
    simp only [B]
    rw [Array.getElem?_setIfInBounds_ne (by omega), Array.getElem?_setIfInBounds_ne (by omega), Array.getElem?_setIfInBounds_ne (by omega)]

/-- So far k of them are laid. -/
def Laid (A : Array Value) (l : List F) (k : Nat) : Prop := ∀ j, j < k → A[j * 3]? = some (.int .i64 (fN l j)) ∧ A[j * 3 + 1]? = some (.bool (fO l j)) ∧ A[j * 3 + 2]? = some (.bool (fT l j))
theorem Laid.next {A : Array Value} {l : List F} {n k : Nat} {r : F} (h : Laid A l k) (hs : n * 3 ≤ A.size) (hk : k < n) (hr : l.getD k zF = r) :
    Laid (((A.setIfInBounds (k * 3) (.int .i64 r.1)).setIfInBounds (k * 3 + 1) (.bool r.2.1)).setIfInBounds (k * 3 + 2) (.bool r.2.2)) l (k + 1) := by
  obtain ⟨h0, h1, h2, _, h4⟩ := set3at (u := .int .i64 r.1) (v := .bool r.2.1) (s := .bool r.2.2) hs hk
  intro j hj
  by_cases e : j = k
  · subst e; subst hr; exact ⟨h0, h1, h2⟩
  · obtain ⟨e0, e1, e2⟩ := h4 j e
    obtain ⟨f0, f1, f2⟩ := h j (by omega)
    exact ⟨e0.trans f0, e1.trans f1, e2.trans f2⟩

end Go.Proofs.YtdikhdfpcipdbaaGreatDoor.fan

/- Chapter 13: are the facts right; the ways out of a mode. -/
namespace Go.Proofs.YtdikhdfpcipdbaaGreatDoor.md
open Go.ChangeShapes Go.WideShapes Go.ChangeAt Go.RowKit
open Go.Proofs.YtdikhdfpcipdbaaGreatDoor.nums Go.Proofs.YtdikhdfpcipdbaaGreatDoor.mem
open Go.Proofs.YtdikhdfpcipdbaaGreatDoor.fix (ret_int ret_bool)
open Go.Proofs.YtdikhdfpcipdbaaGreatDoor.tab (Ret quiet_w)
open Go.Proofs.YtdikhdfpcipdbaaGreatDoor.cas (caseOk)
set_option linter.unusedVariables false

theorem eight {w : World} {g : Nat} {t : TypeId} {a b c d e f h i : Value} (k : Has w g t #[a, b, c, d, e, f, h, i]) :
    w.cell? ⟨g, 0, none⟩ = some a ∧ w.cell? ⟨g, 1, none⟩ = some b ∧ w.cell? ⟨g, 2, none⟩ = some c ∧ w.cell? ⟨g, 3, none⟩ = some d ∧ w.cell? ⟨g, 4, none⟩ = some e ∧ w.cell? ⟨g, 5, none⟩ = some f ∧ w.cell? ⟨g, 6, none⟩ = some h ∧ w.cell? ⟨g, 7, none⟩ = some i :=
  ⟨k.cell 0, k.cell 1, k.cell 2, k.cell 3, k.cell 4, k.cell 5, k.cell 6, k.cell 7⟩
theorem free8 {w : World} {g : Nat} {t : TypeId} {a b c d e f h i : Value} (k : Has w g t #[a, b, c, d, e, f, h, i]) :
    w.frozen? ⟨g, 0, none⟩ = false ∧ w.frozen? ⟨g, 1, none⟩ = false ∧ w.frozen? ⟨g, 2, none⟩ = false ∧ w.frozen? ⟨g, 3, none⟩ = false ∧ w.frozen? ⟨g, 4, none⟩ = false ∧ w.frozen? ⟨g, 5, none⟩ = false ∧ w.frozen? ⟨g, 6, none⟩ = false ∧ w.frozen? ⟨g, 7, none⟩ = false :=
  ⟨k.frozen 0, k.frozen 1, k.frozen 2, k.frozen 3, k.frozen 4, k.frozen 5, k.frozen 6, k.frozen 7⟩

/-- The five questions, one behind the other: of the first that says no the rest are not asked. -/
theorem implFactsOk (f : Fx) (w : World) : Calls Tryz.prog 17 #[fac f] w (Ret (.bool (factsOk f)) w) := by
  have g0 := World.grownBy_alloc w (Obj.cells (cs8 f) 35) none
  have d0 := fix.implSizeOk f.sp
  have d1 := fix.implSizeOk f.h
  have d2 := cas.implCaseOk f.c
  have d3 := implWantOk f.wn
  have d4 := implTimerOk f.tm
  unfold factsOk
  generalize inb f.sp (-1000000) 1000000 = b0 at *
  generalize inb f.h (-1000000) 1000000 = b1 at *
  generalize caseOk f.c = b2 at *
  generalize inb f.wn 0 2 = b3 at *
  generalize inb f.tm 0 1000 = b4 at *
  cases b0 <;> cases b1 <;> cases b2 <;> cases b3
  all_goals go_enter Tryz.func17, Tryz.ntmps17
  all_goals go_wp2_with fail
  all_goals refine (d0 _).mono ?_
  all_goals rintro e w' ⟨rfl, rfl⟩
  all_goals go_wp2_with (first | (go_at_call 55; refine (d1 _).mono ?_; rintro e w' ⟨rfl, rfl⟩) | (go_at_call 33; refine (d2 _).mono ?_; rintro e w' ⟨rfl, rfl⟩) | (go_at_call 50; refine (d3 _).mono ?_; rintro e w' ⟨rfl, rfl⟩) | (go_at_call 56; refine (d4 _).mono ?_; rintro e w' ⟨rfl, rfl⟩))
  all_goals go_ret
  all_goals exact ⟨rfl, g0⟩
theorem specFactsOk (f : Fx) (w : World) : Calls Tryz.prog 174 #[fac f] w (Ret (.bool (factsOk f)) w) := by
  have g0 := World.grownBy_alloc w (Obj.cells (cs8 f) 35) none
  have d0 := fix.specSizeOk f.sp
  have d1 := fix.specSizeOk f.h
  have d2 := cas.specCaseOk f.c
  have d3 := specWant f.wn
  have d4 := fix.specIn f.tm 0 1000
  unfold factsOk
  generalize inb f.sp (-1000000) 1000000 = b0 at *
  generalize inb f.h (-1000000) 1000000 = b1 at *
  generalize caseOk f.c = b2 at *
  generalize inb f.wn 0 2 = b3 at *
  generalize inb f.tm 0 1000 = b4 at *
  cases b0 <;> cases b1 <;> cases b2 <;> cases b3
  all_goals go_enter Tryz.func174, Tryz.ntmps174
  all_goals go_wp2_with fail
  all_goals refine (d0 _).mono ?_
  all_goals rintro e w' ⟨rfl, rfl⟩
  all_goals go_wp2_with (first | (go_at_call 78; refine (d1 _).mono ?_; rintro e w' ⟨rfl, rfl⟩) | (go_at_call 46; refine (d2 _).mono ?_; rintro e w' ⟨rfl, rfl⟩) | (go_at_call 45; refine (d3 _).mono ?_; rintro e w' ⟨rfl, rfl⟩) | (go_at_call 24; refine (d4 _).mono ?_; rintro e w' ⟨rfl, rfl⟩))
  all_goals go_ret
  all_goals exact ⟨rfl, g0⟩

end Go.Proofs.YtdikhdfpcipdbaaGreatDoor.md

