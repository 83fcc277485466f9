/- Seven zeros in a block. Shared of the program. EffectOf of the program. Reached of both sides. -/
import Derived.Test.YtdikhdfpcipdbaaGreatDoorG31
import Derived.Test.YtdikhdfpcipdbaaGreatDoorG20
import Derived.Test.YtdikhdfpcipdbaaGreatDoorG13
import Derived.Deep.DeepCutAuto
/- Seven zeros in a block. -/
namespace Go.Proofs.YtdikhdfpcipdbaaGreatDoor.br
open Go.ChangeShapes Go.WideShapes Go.ChangeAt Go.RowKit
open Go.Proofs.YtdikhdfpcipdbaaGreatDoor.nums Go.Proofs.YtdikhdfpcipdbaaGreatDoor.mem
open Go.Proofs.YtdikhdfpcipdbaaGreatDoor.il (nth Ints Own)
set_option linter.unusedVariables false

theorem zero7_at {k : Nat} (h : k < 7) : (madeCells (Value.cells (.int .i64 0)) (7 * 1))[k]? = some (.int .i64 0) := by
  have hs : (madeCells (Value.cells (.int .i64 0)) (7 * 1)).size = 7 := size_madeCells _ _
  rcases (show k = 0 ∨ k = 1 ∨ k = 2 ∨ k = 3 ∨ k = 4 ∨ k = 5 ∨ k = 6 by omega) with rfl | rfl | rfl | rfl | rfl | rfl | rfl <;> simp [madeCells, Value.cells]
theorem own_zero7 {W : World} {b : Nat} (h : Has W b 2 (madeCells (Value.cells (.int .i64 0)) (7 * 1))) : il.Own W (some ⟨b, 0, none⟩) (List.replicate 7 0) :=
  Or.inr ⟨b, 0, _, rfl, h, fun k hk => by
    have hk7 : k < 7 := by simpa using hk
    rw [Nat.zero_add, zero7_at hk7]
    rcases (show k = 0 ∨ k = 1 ∨ k = 2 ∨ k = 3 ∨ k = 4 ∨ k = 5 ∨ k = 6 by omega) with rfl | rfl | rfl | rfl | rfl | rfl | rfl <;> rfl⟩
end Go.Proofs.YtdikhdfpcipdbaaGreatDoor.br

/- Shared of the program. -/
namespace Go.Proofs.YtdikhdfpcipdbaaGreatDoor.sh
open Go.ChangeShapes Go.WideShapes Go.ChangeAt Go.RowKit
open Go.Proofs.YtdikhdfpcipdbaaGreatDoor.nums Go.Proofs.YtdikhdfpcipdbaaGreatDoor.mem
open Go.Proofs.YtdikhdfpcipdbaaGreatDoor.tab (Ret quiet_w wpList_make_has)
open Go.Proofs.YtdikhdfpcipdbaaGreatDoor.qt (region_below_tail rg_ret rg_same gr_rg)
open Go.Proofs.YtdikhdfpcipdbaaGreatDoor.il (nth Own RetI blk blk_some infoInt)
set_option linter.unusedVariables false

/-- What the k-th fan has: its turn on what is left of the Lift, or nothing. -/
def has (c L r p : Int) (k : Nat) : Int := if on c k then L + turn r p k else 0
def shared6 (c l r p : Int) : List Int := (List.range 6).map (has c (cutL (on c) l (btw r (-100) 100) (btw p (-100) 100)) (btw r (-100) 100) (btw p (-100) 100))
def shared (c l r p : Int) : List Int := if (cas.caseOk c && okD l r p) = true then shared6 c l r p else []
theorem shared_yes {c l r p : Int} (h : (cas.caseOk c && okD l r p) = true) : shared c l r p = shared6 c l r p := if_pos h
theorem cutL_in {c l r p : Int} (hr : -100 ≤ r ∧ r ≤ 100) (hp : -100 ≤ p ∧ p ≤ 100) : 0 ≤ cutL (on c) l r p ∧ cutL (on c) l r p ≤ 1000 := by
  have := top_in (S := on c) (t := turn r p) (B := 400) (by omega) (fun k hk => turn_in hr hp hk)
  unfold cutL btw; omega
theorem map6 {g : Nat → Int} {j : Nat} (h : j < 6) : nth ((List.range 6).map g) j = g j := by
  rcases six h with rfl | rfl | rfl | rfl | rfl | rfl <;> rfl

end Go.Proofs.YtdikhdfpcipdbaaGreatDoor.sh

/- EffectOf of the program. -/
namespace Go.Proofs.YtdikhdfpcipdbaaGreatDoor.sh
open Go.ChangeShapes Go.WideShapes Go.ChangeAt Go.RowKit
open Go.Proofs.YtdikhdfpcipdbaaGreatDoor.nums Go.Proofs.YtdikhdfpcipdbaaGreatDoor.mem
open Go.Proofs.YtdikhdfpcipdbaaGreatDoor.tab (Ret quiet_w wpList_make_has)
open Go.Proofs.YtdikhdfpcipdbaaGreatDoor.qt (region_below_tail rg_ret rg_same gr_rg)
open Go.Proofs.YtdikhdfpcipdbaaGreatDoor.il (nth Own RetI blk blk_some infoInt)
set_option linter.unusedVariables false

def rr (k : Nat) : Int := tR k * tR k
def st (S : Nat → Bool) (g : Nat → Int) (k : Nat) : Int := if S k then g k else 0
/-- Of those in S, together. -/
def sumOn (S : Nat → Bool) (g : Nat → Int) : Int := st S g 0 + st S g 1 + st S g 2 + st S g 3 + st S g 4 + st S g 5
theorem sum_step {S L : Nat → Bool} {g : Nat → Int} {k : Nat} (hk : k < 6) (hS : S k = true) (hL : L k = true) : sumOn (done S (out L k)) g = sumOn (done S L) g + g k := by
  have e : ∀ j, st (done S (out L k)) g j = if j = k then g k else st (done S L) g j := by
    intro j
    unfold st done out
    by_cases h : j = k
    · subst h; simp [hS]
    · simp [h]
  have e0 : st (done S L) g k = 0 := by unfold st done; simp [hL]
  unfold sumOn
  rw [e 0, e 1, e 2, e 3, e 4, e 5]
  rcases six hk with rfl | rfl | rfl | rfl | rfl | rfl <;> simp <;> omega
theorem four {w : World} {g : Nat} {t : TypeId} {a b c d : Value} (h : Has w g t #[a, b, c, d]) : w.cell? ⟨g, 0, none⟩ = some a ∧ w.cell? ⟨g, 1, none⟩ = some b ∧ w.cell? ⟨g, 2, none⟩ = some c ∧ w.cell? ⟨g, 3, none⟩ = some d ∧ w.frozen? ⟨g, 0, none⟩ = false ∧ w.frozen? ⟨g, 1, none⟩ = false ∧ w.frozen? ⟨g, 2, none⟩ = false ∧ w.frozen? ⟨g, 3, none⟩ = false :=
  ⟨h.cell 0, h.cell 1, h.cell 2, h.cell 3, h.frozen 0, h.frozen 1, h.frozen 2, h.frozen 3⟩
/-- Four numbers in a block are a list. -/
theorem own4 {w : World} {g : Nat} {a b c d : Int} (h : Has w g 2 #[.int .i64 a, .int .i64 b, .int .i64 c, .int .i64 d]) : Own w (some ⟨g, 0, none⟩) [a, b, c, d] :=
  Or.inr ⟨g, 0, _, rfl, h, fun k hk => by
    have hk' : k = 0 ∨ k = 1 ∨ k = 2 ∨ k = 3 := by simp at hk; omega
    rcases hk' with rfl | rfl | rfl | rfl <;> rfl⟩

end Go.Proofs.YtdikhdfpcipdbaaGreatDoor.sh

/- Reached of both sides. -/
namespace Go.Proofs.YtdikhdfpcipdbaaGreatDoor.sh
open Go.ChangeShapes Go.WideShapes Go.ChangeAt Go.RowKit
open Go.Proofs.YtdikhdfpcipdbaaGreatDoor.nums Go.Proofs.YtdikhdfpcipdbaaGreatDoor.mem
open Go.Proofs.YtdikhdfpcipdbaaGreatDoor.tab (Ret quiet_w)
open Go.Proofs.YtdikhdfpcipdbaaGreatDoor.il (nth Ints)
open Go.Proofs.YtdikhdfpcipdbaaGreatDoor.qt (region_below_tail gr_rg)
set_option linter.unusedVariables false

/-- The first k together. -/
def psum (g : Nat → Int) : Nat → Int
  | 0 => 0
  | k + 1 => psum g k + g k
theorem psum_in {g : Nat → Int} {B : Int} : ∀ k, (∀ j, j < k → -B ≤ g j ∧ g j ≤ B) → -(k * B) ≤ psum g k ∧ psum g k ≤ k * B
  | 0, _ => by simp [psum]
  | k + 1, h => by
    have h1 := psum_in k (fun j hj => h j (by omega))
    have h2 := h k (by omega)
    have e : ((k + 1 : Nat) : Int) * B = k * B + B := by rw [Int.natCast_add, Int.add_mul]; simp
    rw [e]; unfold psum; omega
def gL (l : List Int) (k : Nat) : Int := nth l k
def okO (n : Int) : Bool := inb n 0 1000
def okL (l : List Int) : Bool := decide (l.length = 6) && l.all okO
theorem all_step (l : List Int) (k : Nat) (h : k < l.length) : (l.take (k + 1)).all okO = ((l.take k).all okO && okO (nth l k)) := by
  rw [il.nth_take h]; simp
theorem all_not (l : List Int) (k : Nat) (h : k < l.length) (hs : okO (nth l k) = false) : l.all okO = false := by
  rw [List.all_eq_false]
  exact ⟨nth l k, il.nth_mem h, by rw [hs]; simp⟩
theorem all_of {l : List Int} (h : ∀ j, j < l.length → okO (nth l j) = true) : l.all okO = true := by
  rw [List.all_eq_true]
  intro x hx
  obtain ⟨j, hj, rfl⟩ := List.getElem_of_mem hx
  rw [← il.nth_lt hj]; exact h j hj
theorem all_at {l : List Int} (h : l.all okO = true) {k : Nat} (hk : k < l.length) : okO (nth l k) = true := List.all_eq_true.1 h _ (il.nth_mem hk)
/-- A list of so many numbers, each out to 1000. -/
theorem specAll (a : Option Addr) (cap : Nat) (l : List Int) (w : World) (h : Ints w a l) (hl : l.length ≤ maxLen) :
    Calls Tryz.prog 53 #[.slice a l.length cap, .int .i64 6, .int .i64 0, .int .i64 1000] w fun e w' => e = .returned (.bool (okL l)) ∧ w = w' := by
  have hm : l.length ≤ 9223372036854775807 := by unfold maxLen at hl; exact hl
  clear hl
  go_enter Tryz.func53, Tryz.ntmps53
  go_wp2_with fail
  go_loopw [9] (fun i wr => wr = w ∧ ∃ k : Nat, k ≤ l.length ∧ i = .int .i64 k ∧ Hid (∀ j, j < k → okO (nth l j) = true)) (fun i _ => l.length - (intOf i).toNat)
  case atStart => exact ⟨rfl, 0, Nat.zero_le _, rfl, Lib.hid (fun j hj => by omega)⟩
  case round =>
    obtain ⟨rfl, k, hk, rfl, hs⟩ := hrel
    by_cases hlt : k < l.length
    · obtain ⟨x, rfl, hb, cx⟩ := h k hlt
      cases hz : okO (nth l k)
      · have hz' : inb (nth l k) 0 1000 = false := hz
        go_wp2_with fail
        refine (fix.specIn _ _ _ _).mono ?_
        rintro e w' ⟨rfl, rfl⟩
        go_wp2_with fail
        go_ret
        exact ⟨by unfold okL; rw [all_not l k hlt hz]; simp, rfl⟩
      · have hz' : inb (nth l k) 0 1000 = true := hz
        go_wp2_with fail
        refine (fix.specIn _ _ _ _).mono ?_
        rintro e w' ⟨rfl, rfl⟩
        go_wp2_with fail
        go_roundw
        case rel => exact ⟨trivial, k + 1, by omega, by go_num, Lib.hid (fun j hj => by
          by_cases e : j = k
          · subst e; exact hz
          · exact hs.out j (by omega))⟩
        case measure => simp [intOf]; omega
    · obtain rfl : k = l.length := by omega
      go_wp2_with fail
      go_ret
      refine ⟨?_, rfl⟩
      unfold okL
      rw [all_of hs.out, Bool.and_true]
      have e : decide ((l.length : Int) = 6) = decide (l.length = 6) := by simp; omega
      rw [← e]
      first | rfl | simp

end Go.Proofs.YtdikhdfpcipdbaaGreatDoor.sh

