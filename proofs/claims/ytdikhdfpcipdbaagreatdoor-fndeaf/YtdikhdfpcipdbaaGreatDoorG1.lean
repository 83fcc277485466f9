/- Plain integers: what the small sums of chapter 1 come to. Nothing here names the program. Contracts of chapter 1's small sums, of the program's functions and of the model's: each returns what one plain function on integers gives, and leaves the world. Contracts of chapter 1, continued: Plus, Part, Toward, Apart of the program and of the model. Words for memory that the walks over draws use: a block known whole, and what is kept of it. -/
import Derived.WalkKit
import Derived.Test.YtdikhdfpcipdbaaGreatDoorRows
import Derived.ProofKit
import Derived.OpenShut
import Derived.IntWalk
import Derived.Lib.Hide
import Derived.Below
import Derived.Laws.OwnMore
import Derived.Deep.Draws
import Derived.Laws.Rows
/- Plain integers: what the small sums of chapter 1 come to. Nothing here names the program. -/
namespace Go.Proofs.YtdikhdfpcipdbaaGreatDoor.nums

def btw (x l h : Int) : Int := min (max x l) h
def fit (x : Int) : Int := btw x (-1000000) 1000000
def inb (x l h : Int) : Bool := decide (l ≤ x) && decide (x ≤ h)
def kPlus (a b : Int) : Int := fit (fit a + fit b)
def kPart (a b c : Int) : Int := if c = 0 ∨ c < -1000000 ∨ 1000000 < c then 0 else fit ((fit a * fit b).tdiv c)
def kToward (x to step : Int) : Int := fit x + btw (fit to - fit x) (-(max 0 step)) (max 0 step)
def kApart (a b : Int) : Int := min 1000000 (max (fit a - fit b) (-(fit a - fit b)))

theorem fit_ge (x : Int) : -1000000 ≤ fit x := by unfold fit btw; omega
theorem fit_le (x : Int) : fit x ≤ 1000000 := by unfold fit btw; omega
theorem fit_same (x : Int) (h1 : -1000000 ≤ x) (h2 : x ≤ 1000000) : fit x = x := by unfold fit btw; omega
theorem mul_bd {a b m n : Int} (ha1 : -m ≤ a) (ha2 : a ≤ m) (hb1 : -n ≤ b) (hb2 : b ≤ n) : -(m * n) ≤ a * b ∧ a * b ≤ m * n := by
  have hm : 0 ≤ m := by omega
  have hn : 0 ≤ n := by omega
  have h1 : a.natAbs ≤ m.natAbs := by omega
  have h2 : b.natAbs ≤ n.natAbs := by omega
  have h3 : (a * b).natAbs ≤ m.natAbs * n.natAbs := by rw [Int.natAbs_mul]; exact Nat.mul_le_mul h1 h2
  have h4 : ((m.natAbs * n.natAbs : Nat) : Int) = m * n := by
    rw [Int.natCast_mul, Int.natAbs_of_nonneg hm, Int.natAbs_of_nonneg hn]
  omega
theorem fit_mul (a b : Int) : -1000000000000 ≤ fit a * fit b ∧ fit a * fit b ≤ 1000000000000 := by
  have := mul_bd (fit_ge a) (fit_le a) (fit_ge b) (fit_le b)
  simpa using this
end Go.Proofs.YtdikhdfpcipdbaaGreatDoor.nums

/- Contracts of chapter 1's small sums, of the program's functions and of the model's: each returns what one plain function on integers gives, and leaves the world. -/
namespace Go.Proofs.YtdikhdfpcipdbaaGreatDoor.fix
open Go.ChangeShapes Go.WideShapes Go.ChangeAt Go.RowKit
open Go.Proofs.YtdikhdfpcipdbaaGreatDoor.nums
set_option linter.unusedVariables false

theorem ret_int {k : IntKind} {a b : Int} (h : a = b) : Ending.returned (.int k a) = .returned (.int k b) := by rw [h]
theorem ret_bool {a b : Bool} (h : a = b) : Ending.returned (.bool a) = .returned (.bool b) := by rw [h]

theorem implBetween (x l h : Int) (w : World) :
    Calls Tryz.prog 34 #[.int .i64 x, .int .i64 l, .int .i64 h] w fun e w' => e = .returned (.int .i64 (btw x l h)) ∧ w = w' := by
  go_enter Tryz.func34, Tryz.ntmps34
  go_wp2
  all_goals go_ret
  all_goals exact ⟨ret_int (by unfold btw; omega), rfl⟩

theorem specMin (a b : Int) (w : World) :
    Calls Tryz.prog 79 #[.int .i64 a, .int .i64 b] w fun e w' => e = .returned (.int .i64 (min a b)) ∧ w = w' := by
  go_enter Tryz.func79, Tryz.ntmps79
  go_wp2
  all_goals go_ret
  all_goals exact ⟨ret_int (by omega), rfl⟩

theorem specMax (a b : Int) (w : World) :
    Calls Tryz.prog 26 #[.int .i64 a, .int .i64 b] w fun e w' => e = .returned (.int .i64 (max a b)) ∧ w = w' := by
  go_enter Tryz.func26, Tryz.ntmps26
  go_wp2
  all_goals go_ret
  all_goals exact ⟨ret_int (by omega), rfl⟩

theorem specBetween (x l h : Int) (w : World) :
    Calls Tryz.prog 44 #[.int .i64 x, .int .i64 l, .int .i64 h] w fun e w' => e = .returned (.int .i64 (btw x l h)) ∧ w = w' := by
  go_enter Tryz.func44, Tryz.ntmps44
  go_wp2_with fail
  refine (specMax x l _).mono ?_
  rintro e w' ⟨rfl, rfl⟩
  go_wp2_with fail
  refine (specMin _ h _).mono ?_
  rintro e w' ⟨rfl, rfl⟩
  go_wp2_with fail
  all_goals go_ret
  all_goals exact ⟨rfl, rfl⟩

theorem specFit (x : Int) (w : World) :
    Calls Tryz.prog 104 #[.int .i64 x] w fun e w' => e = .returned (.int .i64 (fit x)) ∧ w = w' := by
  go_enter Tryz.func104, Tryz.ntmps104
  go_wp2_with fail
  refine (specBetween x _ _ _).mono ?_
  rintro e w' ⟨rfl, rfl⟩
  go_wp2_with fail
  all_goals go_ret
  all_goals exact ⟨rfl, rfl⟩

theorem implSized (x : Int) (w : World) :
    Calls Tryz.prog 99 #[.int .i64 x] w fun e w' => e = .returned (.int .i64 (fit x)) ∧ w = w' := by
  go_enter Tryz.func99, Tryz.ntmps99
  go_wp2_with fail
  refine (implBetween x _ _ _).mono ?_
  rintro e w' ⟨rfl, rfl⟩
  go_wp2_with fail
  all_goals go_ret
  all_goals exact ⟨rfl, rfl⟩

theorem specIn (x l h : Int) (w : World) :
    Calls Tryz.prog 24 #[.int .i64 x, .int .i64 l, .int .i64 h] w fun e w' => e = .returned (.bool (inb x l h)) ∧ w = w' := by
  go_enter Tryz.func24, Tryz.ntmps24
  go_wp2
  all_goals go_ret
  all_goals exact ⟨ret_bool (by unfold inb; simp <;> omega), rfl⟩

theorem specSizeOk (x : Int) (w : World) :
    Calls Tryz.prog 78 #[.int .i64 x] w fun e w' => e = .returned (.bool (inb x (-1000000) 1000000)) ∧ w = w' := by
  go_enter Tryz.func78, Tryz.ntmps78
  go_wp2_with fail
  refine (specIn x _ _ _).mono ?_
  rintro e w' ⟨rfl, rfl⟩
  go_wp2_with fail
  all_goals go_ret
  all_goals exact ⟨rfl, rfl⟩

theorem implSizeOk (x : Int) (w : World) :
    Calls Tryz.prog 55 #[.int .i64 x] w fun e w' => e = .returned (.bool (inb x (-1000000) 1000000)) ∧ w = w' := by
  go_enter Tryz.func55, Tryz.ntmps55
  go_wp2
  all_goals go_ret
  all_goals exact ⟨ret_bool (by unfold inb; simp <;> omega), rfl⟩

end Go.Proofs.YtdikhdfpcipdbaaGreatDoor.fix

/- Contracts of chapter 1, continued: Plus, Part, Toward, Apart of the program and of the model. -/
namespace Go.Proofs.YtdikhdfpcipdbaaGreatDoor.fix
open Go.ChangeShapes Go.WideShapes Go.ChangeAt Go.RowKit
open Go.Proofs.YtdikhdfpcipdbaaGreatDoor.nums
set_option linter.unusedVariables false

theorem specPlus (a b : Int) (w : World) :
    Calls Tryz.prog 190 #[.int .i64 a, .int .i64 b] w fun e w' => e = .returned (.int .i64 (kPlus a b)) ∧ w = w' := by
  have a1 := fit_ge a; have a2 := fit_le a; have b1 := fit_ge b; have b2 := fit_le b
  go_enter Tryz.func190, Tryz.ntmps190
  go_wp2_with ((go_at_call 104; refine (specFit _ _).mono ?_; rintro e w' ⟨rfl, rfl⟩))
  go_ret
  exact ⟨rfl, rfl⟩

theorem specToward (a b c : Int) (w : World) (hc1 : -9223372036854775808 ≤ c) (hc2 : c ≤ 9223372036854775807) :
    Calls Tryz.prog 170 #[.int .i64 a, .int .i64 b, .int .i64 c] w fun e w' => e = .returned (.int .i64 (kToward a b c)) ∧ w = w' := by
  have a1 := fit_ge a; have a2 := fit_le a; have b1 := fit_ge b; have b2 := fit_le b
  have d1 : -2000000 ≤ btw (fit b - fit a) (-(max 0 c)) (max 0 c) := by unfold btw; omega
  have d2 : btw (fit b - fit a) (-(max 0 c)) (max 0 c) ≤ 2000000 := by unfold btw; omega
  go_enter Tryz.func170, Tryz.ntmps170
  go_wp2_with (first | (go_at_call 104; refine (specFit _ _).mono ?_; rintro e w' ⟨rfl, rfl⟩) | (go_at_call 26; refine (specMax _ _ _).mono ?_; rintro e w' ⟨rfl, rfl⟩) | (go_at_call 44; refine (specBetween _ _ _ _).mono ?_; rintro e w' ⟨rfl, rfl⟩))
  go_ret
  exact ⟨rfl, rfl⟩

theorem specApart (a b : Int) (w : World) :
    Calls Tryz.prog 82 #[.int .i64 a, .int .i64 b] w fun e w' => e = .returned (.int .i64 (kApart a b)) ∧ w = w' := by
  have a1 := fit_ge a; have a2 := fit_le a; have b1 := fit_ge b; have b2 := fit_le b
  go_enter Tryz.func82, Tryz.ntmps82
  go_wp2_with (first | (go_at_call 104; refine (specFit _ _).mono ?_; rintro e w' ⟨rfl, rfl⟩) | (go_at_call 26; refine (specMax _ _ _).mono ?_; rintro e w' ⟨rfl, rfl⟩) | (go_at_call 79; refine (specMin _ _ _).mono ?_; rintro e w' ⟨rfl, rfl⟩))
  go_ret
  exact ⟨rfl, rfl⟩

def gap (s o : Int) : Int := fit (max s o - min s o)
theorem implSizeApart (a b : Int) (w : World) (ha1 : -1000000 ≤ a) (ha2 : a ≤ 1000000) (hb1 : -1000000 ≤ b) (hb2 : b ≤ 1000000) :
    Calls Tryz.prog 100 #[.int .i64 a, .int .i64 b] w fun e w' => e = .returned (.int .i64 (gap a b)) ∧ w = w' := by
  go_enter Tryz.func100, Tryz.ntmps100
  go_wp2_with (go_at_call 99; refine (implSized _ _).mono ?_; rintro e w' ⟨rfl, rfl⟩)
  all_goals go_ret
  all_goals exact ⟨ret_int (by unfold gap; congr 1; omega), rfl⟩

theorem implWithApart (s n : Int) (w : World) (h1 : -1000000 ≤ s) (h2 : s ≤ 1000000) :
    Calls Tryz.prog 98 #[.func (Fn.func 100) #[.int .i64 s] #[], .int .i64 n] w fun e w' => e = .returned (.int .i64 (gap s (fit n))) ∧ w = w' := by
  have b1 := fit_ge n; have b2 := fit_le n
  go_enter Tryz.func98, Tryz.ntmps98
  go_wp2_with (first
    | (go_at_call 99; refine (implSized _ _).mono ?_; rintro e w' ⟨rfl, rfl⟩)
    | (go_at_call 100; refine (implSizeApart _ _ _ h1 h2 b1 b2).mono ?_; rintro e w' ⟨rfl, rfl⟩))
  go_ret
  exact ⟨rfl, rfl⟩

theorem gap_eq (a b : Int) : gap (fit a) (fit b) = kApart a b := by
  have a1 := fit_ge a; have a2 := fit_le a; have b1 := fit_ge b; have b2 := fit_le b
  unfold gap kApart
  generalize fit a = x at *
  generalize fit b = y at *
  unfold fit btw; omega

theorem implApart (a b : Int) (w : World) :
    Calls Tryz.prog 73 #[.int .i64 a, .int .i64 b] w fun e w' => e = .returned (.int .i64 (kApart a b)) ∧ w = w' := by
  have a1 := fit_ge a; have a2 := fit_le a; have b1 := fit_ge b; have b2 := fit_le b
  go_enter Tryz.func73, Tryz.ntmps73
  go_wp2_with (first
    | (go_at_call 99; refine (implSized _ _).mono ?_; rintro e w' ⟨rfl, rfl⟩)
    | (go_at_call 98; refine (implWithApart _ _ _ a1 a2).mono ?_; rintro e w' ⟨rfl, rfl⟩))
  go_ret
  exact ⟨ret_int (gap_eq a b), rfl⟩

theorem part_zero {a b c : Int} (h : c = 0 ∨ c < -1000000 ∨ 1000000 < c) : kPart a b c = 0 := if_pos h
theorem part_else {a b c : Int} (h : ¬ (c = 0 ∨ c < -1000000 ∨ 1000000 < c)) : kPart a b c = fit ((fit a * fit b).tdiv c) := if_neg h
theorem tdiv_bd (m c : Int) (h1 : -1000000000000 ≤ m) (h2 : m ≤ 1000000000000) : -1000000000000 ≤ m.tdiv c ∧ m.tdiv c ≤ 1000000000000 := by
  have := Int.natAbs_tdiv_le_natAbs m c
  omega

theorem specPart (a b c : Int) (w : World) :
    Calls Tryz.prog 169 #[.int .i64 a, .int .i64 b, .int .i64 c] w fun e w' => e = .returned (.int .i64 (kPart a b c)) ∧ w = w' := by
  have m := fit_mul a b; obtain ⟨m1, m2⟩ := m
  have t := tdiv_bd _ c m1 m2; obtain ⟨t1, t2⟩ := t
  by_cases h0 : c = 0
  · have hp : kPart a b c = 0 := part_zero (Or.inl h0)
    have Hp := Lib.hid hp; clear hp
    have hb : (c == 0) = true := by simpa using h0
    clear h0
    go_enter Tryz.func169, Tryz.ntmps169
    go_wp2_with fail
    go_ret
    exact ⟨ret_int Hp.out.symm, rfl⟩
  · by_cases hs : c < -1000000 ∨ 1000000 < c
    · have hp : kPart a b c = 0 := part_zero (Or.inr hs)
      have Hp := Lib.hid hp; clear hp
      have hb : (c == 0) = false := by simpa using h0
      have hi : inb c (-1000000) 1000000 = false := by unfold inb; simp; omega
      clear h0 hs
      go_enter Tryz.func169, Tryz.ntmps169
      go_wp2_with (go_at_call 78; refine (specSizeOk _ _).mono ?_; rintro e w' ⟨rfl, rfl⟩)
      go_ret
      exact ⟨ret_int Hp.out.symm, rfl⟩
    · have hp : kPart a b c = fit ((fit a * fit b).tdiv c) := part_else (by omega)
      have Hp := Lib.hid hp; clear hp
      have hb : (c == 0) = false := by simpa using h0
      have hi : inb c (-1000000) 1000000 = true := by unfold inb; simp; omega
      clear hs
      go_enter Tryz.func169, Tryz.ntmps169
      go_wp2_with (first
        | (go_at_call 78; refine (specSizeOk _ _).mono ?_; rintro e w' ⟨rfl, rfl⟩)
        | (go_at_call 104; refine (specFit _ _).mono ?_; rintro e w' ⟨rfl, rfl⟩))
      go_ret
      exact ⟨ret_int Hp.out.symm, rfl⟩
end Go.Proofs.YtdikhdfpcipdbaaGreatDoor.fix

/- Words for memory that the walks over draws use: a block known whole, and what is kept of it. -/
namespace Go.Proofs.YtdikhdfpcipdbaaGreatDoor.mem
open Go.RowKit

/-- Block g holds just these cells, none of them fixed. -/
def Has (w : World) (g : Nat) (t : TypeId) (cs : Array Value) : Prop := w.heap[g]? = some (.cells cs t (0, 0))

theorem Has.lt {w : World} {g : Nat} {t : TypeId} {cs : Array Value} (h : Has w g t cs) : g < w.heap.size := by
  by_cases hg : g < w.heap.size
  · exact hg
  · have hn : w.heap[g]? = none := Array.getElem?_eq_none (by omega)
    unfold Has at h; rw [hn] at h; cases h
theorem Has.cell {w : World} {g : Nat} {t : TypeId} {cs : Array Value} (h : Has w g t cs) (i : Nat) : w.cell? ⟨g, i, none⟩ = cs[i]? := by
  unfold Has at h; simp [World.cell?, h]
theorem Has.frozen {w : World} {g : Nat} {t : TypeId} {cs : Array Value} (h : Has w g t cs) (i : Nat) : w.frozen? ⟨g, i, none⟩ = false := by
  unfold Has at h; simp [World.frozen?, h]
theorem Has.same {w w' : World} {g : Nat} {t : TypeId} {cs : Array Value} (h : Has w g t cs) (e : w'.heap[g]? = w.heap[g]?) : Has w' g t cs := e.trans h
theorem Has.fresh (w : World) (t : TypeId) (cs : Array Value) : Has (w.alloc (.cells cs t)) w.heap.size t cs := by
  unfold Has; show (w.heap.push _)[w.heap.size]? = _; simp
theorem Has.set {w : World} {g : Nat} {t : TypeId} {cs : Array Value} (h : Has w g t cs) (i : Nat) (u : Value) : Has (w.setCell ⟨g, i, none⟩ u) g t (cs.setIfInBounds i u) := by
  unfold Has at h ⊢
  simp [World.setCell, Array.getElem?_modify, h]
theorem Has.put {w : World} {g : Nat} {t : TypeId} {cs cs' : Array Value} (h : Has w g t cs) (i : Nat) (u : Value) (e : cs.setIfInBounds i u = cs') : Has (w.setCell ⟨g, i, none⟩ u) g t cs' := e ▸ h.set i u
theorem Has.drewN {w : World} {g : Nat} {t : TypeId} {cs : Array Value} (h : Has w g t cs) (n : Nat) : Has (w.drewN n) g t cs := h
theorem Has.grown {w w' : World} {g : Nat} {t : TypeId} {cs : Array Value} {row : Option Nat} (h : Has w g t cs) (hb : w.grownBy w' row) (hn : some g ≠ row) : Has w' g t cs := h.same (hb.block g h.lt hn)
theorem Has.alloc {w : World} {g : Nat} {t : TypeId} {cs : Array Value} (h : Has w g t cs) (o : Obj) : Has (w.alloc o) g t cs := h.same (Below.heap_alloc w o g h.lt)

theorem Has.set_other {w : World} {g g' : Nat} {t : TypeId} {cs : Array Value} (h : Has w g t cs) (hn : g ≠ g') (i : Nat) (u : Value) : Has (w.setCell ⟨g', i, none⟩ u) g t cs := h.same (Below.heap_setCell _ _ _ _ hn)

theorem gr_refl (w : World) (row : Option Nat) : w.grownBy w row := ⟨rfl, rfl, rfl, Nat.le_refl _, fun _ _ _ => rfl⟩
theorem gr_trans {a b c : World} {row : Option Nat} (h : a.grownBy b row) (k : b.grownBy c row) : a.grownBy c row :=
  ⟨k.os.trans h.os, k.tape.trans h.tape, k.output.trans h.output, Nat.le_trans h.size k.size, fun i hi hn => (k.block i (Nat.lt_of_lt_of_le hi h.size) hn).trans (h.block i hi hn)⟩
theorem gr_drewN {a w : World} {row : Option Nat} (h : a.grownBy w row) (n : Nat) : a.grownBy (w.drewN n) row := ⟨h.os, h.tape, h.output, h.size, h.block⟩
theorem gr_alloc {a w : World} {row : Option Nat} (h : a.grownBy w row) (o : Obj) : a.grownBy (w.alloc o) row := gr_trans h (World.grownBy_alloc w o row)
theorem gr_set {a w : World} {g : Nat} (h : a.grownBy w (some g)) (i : Nat) (u : Value) : a.grownBy (w.setCell ⟨g, i, none⟩ u) (some g) :=
  gr_trans h ⟨rfl, rfl, rfl, by simp [World.setCell], fun k hk hn => Below.heap_setCell _ _ _ _ (fun e => hn (by rw [e]))⟩
theorem gr_new {a w : World} {row : Option Nat} (h : a.grownBy w row) {g : Nat} (hg : a.heap.size ≤ g) (i : Nat) (u : Value) : a.grownBy (w.setCell ⟨g, i, none⟩ u) row :=
  ⟨h.os, h.tape, h.output, by simpa [World.setCell] using h.size, fun k hk hn => (Below.heap_setCell w ⟨g, i, none⟩ u k (by show k ≠ g; omega)).trans (h.block k hk hn)⟩
theorem gr_none {a w : World} (h : a.grownBy w none) (row : Option Nat) : a.grownBy w row := ⟨h.os, h.tape, h.output, h.size, fun k hk _ => h.block k hk (by simp)⟩
theorem gr_past {a b c : World} {q : Nat} {row : Option Nat} (h : a.grownBy b row) (k : b.grownBy c (some q)) (hq : a.heap.size ≤ q) : a.grownBy c row :=
  ⟨k.os.trans h.os, k.tape.trans h.tape, k.output.trans h.output, Nat.le_trans h.size k.size, fun i hi hn => (k.block i (Nat.lt_of_lt_of_le hi h.size) (fun e => by injection e with e; omega)).trans (h.block i hi hn)⟩
theorem gr_of_below {a w : World} (h : Below a.heap.size a w) (row : Option Nat) : a.grownBy w row := ⟨h.os, h.tape, h.output, h.size, fun k hk _ => h.block k hk⟩
theorem below_of_none {a w : World} (h : a.grownBy w none) : Below a.heap.size a w := ⟨h.os, h.tape, h.output, h.size, fun k hk => h.block k hk (by simp)⟩
end Go.Proofs.YtdikhdfpcipdbaaGreatDoor.mem

