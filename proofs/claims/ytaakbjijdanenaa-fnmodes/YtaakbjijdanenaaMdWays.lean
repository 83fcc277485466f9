/- Chapter 13: the ways out of each mode, as the program's table has them; what the first one that applies leads to. -/
import Derived.Test.YtaakbjijdanenaaMd2
import Derived.Laws.EntriesVeiled
import Derived.Shelf.Abstract
import Derived.Deep.DeepCutAuto
namespace Go.Proofs.Ytaakbjijdanenaa.md
open Go.ChangeShapes Go.WideShapes Go.ChangeAt Go.RowKit
open Go.Proofs.Ytaakbjijdanenaa.nums Go.Proofs.Ytaakbjijdanenaa.mem
open Go.Proofs.Ytaakbjijdanenaa.fix (ret_int ret_bool)
open Go.Proofs.Ytaakbjijdanenaa.tab (Ret quiet_w)
open Go.Proofs.Ytaakbjijdanenaa.cas (caseOk)
set_option linter.unusedVariables false

/-- A way: where to, and which of the eight questions. -/
abbrev W2 := Int × Nat
def ways (m : Int) : List W2 :=
  if m = 0 then [(1, 1)] else if m = 1 then [(5, 0), (0, 2), (2, 3)] else if m = 2 then [(5, 0), (4, 4), (3, 5)] else if m = 3 then [(5, 0), (4, 6)] else if m = 4 then [(5, 0), (1, 7)] else []
def lead (l : List W2) (k : Nat) : Int := (l.getD k (0, 0)).1
def ask (l : List W2) (k : Nat) : Nat := (l.getD k (0, 0)).2
/-- The answer to the i-th question, and the number of its function. -/
def cnd (f : Fx) (i : Nat) : Bool := [many f, rise f, landed f, setOut f, giveUp f, fast f, turnBack f, back f].getD i false
def fnum (i : Nat) : Nat := [39, 40, 41, 42, 43, 44, 45, 46].getD i 0
/-- Where the first way that applies leads to; else m. -/
def first (f : Fx) (m : Int) : List W2 → Int
  | [] => m
  | x :: r => if cnd f x.2 = true then x.1 else first f m r
def nextMode (m : Int) (f : Fx) : Int := if (modeOk m && factsOk f) = true then first f m (ways m) else 0
def mayFollow (a b : Int) : Bool := modeOk a && ((ways a).any (fun x => decide (x.1 = b)) || decide (b = a))

def cells2 (l : List W2) : List Value := l.flatMap fun x => [.int .i64 x.1, .func (.func (fnum x.2)) #[] #[]]
theorem cells2_at (l : List W2) : ∀ k, k < l.length → (cells2 l)[k * 2]? = some (.int .i64 (lead l k)) ∧ (cells2 l)[k * 2 + 1]? = some (.func (.func (fnum (ask l k))) #[] #[]) := by
  induction l with
  | nil => intro k hk; simp at hk
  | cons x r ih =>
    intro k hk
    cases k with
    | zero => exact ⟨rfl, rfl⟩
    | succ k =>
      obtain ⟨h1, h2⟩ := ih k (by simpa using hk)
      have e1 : (k + 1) * 2 = k * 2 + 1 + 1 := by omega
      have e : cells2 (x :: r) = .int .i64 x.1 :: .func (.func (fnum x.2)) #[] #[] :: cells2 r := rfl
      rw [e, e1, List.getElem?_cons_succ, List.getElem?_cons_succ, List.getElem?_cons_succ, List.getElem?_cons_succ]
      exact ⟨h1, h2⟩
theorem six {m : Int} (h : modeOk m = true) : m = 0 ∨ m = 1 ∨ m = 2 ∨ m = 3 ∨ m = 4 ∨ m = 5 := by unfold modeOk inb at h; simp at h; omega
theorem ways_len {m : Int} : (ways m).length ≤ 3 := by
  unfold ways
  repeat (split; · decide)
  decide
theorem ask_lt {m : Int} : ∀ k, k < (ways m).length → ask (ways m) k < 8 := by
  unfold ways
  repeat (split; · decide)
  decide
theorem drop_at (l : List W2) {k : Nat} (h : k < l.length) : l.drop k = (lead l k, ask l k) :: l.drop (k + 1) := by
  rw [List.drop_eq_getElem_cons h]
  congr 1
  unfold lead ask
  rw [List.getD_eq_getElem?_getD, List.getElem?_eq_getElem h]
  rfl
theorem first_yes {f : Fx} {m : Int} {l : List W2} {k : Nat} (h : k < l.length) (hc : cnd f (ask l k) = true) : first f m (l.drop k) = lead l k := by
  rw [drop_at l h]; unfold first; exact if_pos hc
theorem first_no {f : Fx} {m : Int} {l : List W2} {k : Nat} (h : k < l.length) (hc : cnd f (ask l k) = false) : first f m (l.drop k) = first f m (l.drop (k + 1)) := by
  rw [drop_at l h]
  show (if cnd f (ask l k) = true then lead l k else first f m (l.drop (k + 1))) = _
  rw [hc]; rfl

/-- The i-th question: a function with a body, which answers so. -/
theorem asks (f : Fx) (i : Nat) (h : i < 8) : Enters Try.prog (fnum i) ∧ ∀ w, Calls Try.prog (fnum i) #[fac f] w (Ret (.bool (cnd f i)) w) := by
  obtain rfl | rfl | rfl | rfl | rfl | rfl | rfl | rfl : i = 0 ∨ i = 1 ∨ i = 2 ∨ i = 3 ∨ i = 4 ∨ i = 5 ∨ i = 6 ∨ i = 7 := by omega
  · exact ⟨enters_of Try.func39 (by kernel_rfl) rfl, implMany f⟩
  · exact ⟨enters_of Try.func40 (by kernel_rfl) rfl, implRise f⟩
  · exact ⟨enters_of Try.func41 (by kernel_rfl) rfl, implLanded f⟩
  · exact ⟨enters_of Try.func42 (by kernel_rfl) rfl, implSetOut f⟩
  · exact ⟨enters_of Try.func43 (by kernel_rfl) rfl, implGiveUp f⟩
  · exact ⟨enters_of Try.func44 (by kernel_rfl) rfl, implFast f⟩
  · exact ⟨enters_of Try.func45 (by kernel_rfl) rfl, implTurnBack f⟩
  · exact ⟨enters_of Try.func46 (by kernel_rfl) rfl, implBack f⟩

/-- The ways l come back, in a new block. -/
def RetWays (l : List W2) (w : World) (e : Ending) (w' : World) : Prop :=
  ∃ g : Nat, e = .returned (.slice (some ⟨g, 0, none⟩) l.length l.length) ∧ w.heap.size ≤ g ∧ Has w' g 46 (cells2 l).toArray ∧ w.grownBy w' none

theorem fresh_at {w : World} {n : Nat} (h : w.heap.size = n) (t : TypeId) (cs : Array Value) : Has (w.alloc (.cells cs t)) n t cs := h ▸ Has.fresh w t cs

set_option maxHeartbeats 1000000 in
theorem implWaysFrom (m : Int) (w : World) (h : modeOk m = true) : Calls Try.prog 25 #[.int .i64 m] w (RetWays (ways m) w) := by
  go_enter Try.func25, Try.ntmps25
  go_upto_region 3 with fail
  rcases six h with rfl | rfl | rfl | rfl | rfl | rfl
  all_goals clear h
  all_goals go_wp2_with fail
  all_goals go_ret
  · exact ⟨w.heap.size + 1, rfl, by omega, Has.alloc (Has.alloc (Has.alloc (Has.alloc (Has.alloc (Has.alloc (fresh_at (by simp) _ _) _) _) _) _) _) _, gr_alloc (gr_alloc (gr_alloc (gr_alloc (gr_alloc (gr_alloc (gr_alloc (World.grownBy_alloc w _ none) _) _) _) _) _) _) _⟩
  · exact ⟨w.heap.size + 1 + 1, rfl, by omega, Has.alloc (Has.alloc (Has.alloc (Has.alloc (Has.alloc (fresh_at (by simp) _ _) _) _) _) _) _, gr_alloc (gr_alloc (gr_alloc (gr_alloc (gr_alloc (gr_alloc (gr_alloc (World.grownBy_alloc w _ none) _) _) _) _) _) _) _⟩
  · exact ⟨w.heap.size + 1 + 1 + 1, rfl, by omega, Has.alloc (Has.alloc (Has.alloc (Has.alloc (fresh_at (by simp) _ _) _) _) _) _, gr_alloc (gr_alloc (gr_alloc (gr_alloc (gr_alloc (gr_alloc (gr_alloc (World.grownBy_alloc w _ none) _) _) _) _) _) _) _⟩
  · exact ⟨w.heap.size + 1 + 1 + 1 + 1, rfl, by omega, Has.alloc (Has.alloc (Has.alloc (fresh_at (by simp) _ _) _) _) _, gr_alloc (gr_alloc (gr_alloc (gr_alloc (gr_alloc (gr_alloc (gr_alloc (World.grownBy_alloc w _ none) _) _) _) _) _) _) _⟩
  · exact ⟨w.heap.size + 1 + 1 + 1 + 1 + 1, rfl, by omega, Has.alloc (Has.alloc (fresh_at (by simp) _ _) _) _, gr_alloc (gr_alloc (gr_alloc (gr_alloc (gr_alloc (gr_alloc (gr_alloc (World.grownBy_alloc w _ none) _) _) _) _) _) _) _⟩
  · exact ⟨w.heap.size + 1 + 1 + 1 + 1 + 1 + 1, rfl, by omega, Has.alloc (fresh_at (by simp) _ _) _, gr_alloc (gr_alloc (gr_alloc (gr_alloc (gr_alloc (gr_alloc (gr_alloc (World.grownBy_alloc w _ none) _) _) _) _) _) _) _⟩
end Go.Proofs.Ytaakbjijdanenaa.md
