/- Chapter 11, the small functions: the weights, a turn, what a demand may be; of the program and of the model. -/
import Derived.Test.YtdikhdfpcipdbaaGreatDoorCaIn
import Derived.Test.YtdikhdfpcipdbaaGreatDoorCur2
import Derived.Deep.RegionHeldLaw
import Derived.Deep.RegionHeld3
namespace Go.Proofs.YtdikhdfpcipdbaaGreatDoor.sh
open Go.ChangeShapes Go.WideShapes Go.ChangeAt Go.RowKit
open Go.Proofs.YtdikhdfpcipdbaaGreatDoor.nums Go.Proofs.YtdikhdfpcipdbaaGreatDoor.mem
open Go.Proofs.YtdikhdfpcipdbaaGreatDoor.fix (ret_int ret_bool)
open Go.Proofs.YtdikhdfpcipdbaaGreatDoor.tab (Ret quiet_w)
set_option linter.unusedVariables false

/-- The weights of the k-th fan, for roll and for pitch. -/
def tR (k : Nat) : Int := [2, 1, -1, -2, -1, 1].getD k 0
def tP (k : Nat) : Int := [0, 2, 2, 0, -2, -2].getD k 0
def wR (f : Int) : Int := if 0 ≤ f ∧ f ≤ 5 then tR f.toNat else 0
def wP (f : Int) : Int := if 0 ≤ f ∧ f ≤ 5 then tP f.toNat else 0
theorem six {k : Nat} (h : k < 6) : k = 0 ∨ k = 1 ∨ k = 2 ∨ k = 3 ∨ k = 4 ∨ k = 5 := by omega
theorem tR_in {k : Nat} (h : k < 6) : -2 ≤ tR k ∧ tR k ≤ 2 := by rcases six h with rfl | rfl | rfl | rfl | rfl | rfl <;> decide
theorem tP_in {k : Nat} (h : k < 6) : -2 ≤ tP k ∧ tP k ≤ 2 := by rcases six h with rfl | rfl | rfl | rfl | rfl | rfl <;> decide
theorem wR_nat {k : Nat} (h : k < 6) : wR (k : Int) = tR k := by unfold wR; rw [if_pos (by omega)]; rfl
theorem wP_nat {k : Nat} (h : k < 6) : wP (k : Int) = tP k := by unfold wP; rw [if_pos (by omega)]; rfl
theorem wR_no {f : Int} (h : f < 0 ∨ 5 < f) : wR f = 0 := by unfold wR; rw [if_neg (by omega)]
theorem wP_no {f : Int} (h : f < 0 ∨ 5 < f) : wP f = 0 := by unfold wP; rw [if_neg (by omega)]
theorem wR_in (f : Int) : -2 ≤ wR f ∧ wR f ≤ 2 := by
  by_cases h : 0 ≤ f ∧ f ≤ 5
  · obtain ⟨k, rfl⟩ := Int.eq_ofNat_of_zero_le h.1
    rw [wR_nat (by omega)]; exact tR_in (by omega)
  · rw [wR_no (by omega)]; omega
theorem wP_in (f : Int) : -2 ≤ wP f ∧ wP f ≤ 2 := by
  by_cases h : 0 ≤ f ∧ f ≤ 5
  · obtain ⟨k, rfl⟩ := Int.eq_ofNat_of_zero_le h.1
    rw [wP_nat (by omega)]; exact tP_in (by omega)
  · rw [wP_no (by omega)]; omega

theorem two {w : World} {g : Nat} {t : TypeId} {a b : Value} (h : Has w g t #[a, b]) : w.cell? ⟨g, 0, none⟩ = some a ∧ w.cell? ⟨g, 1, none⟩ = some b ∧ w.frozen? ⟨g, 0, none⟩ = false ∧ w.frozen? ⟨g, 1, none⟩ = false :=
  ⟨h.cell 0, h.cell 1, h.frozen 0, h.frozen 1⟩
theorem three {w : World} {g : Nat} {t : TypeId} {a b c : Value} (h : Has w g t #[a, b, c]) : w.cell? ⟨g, 0, none⟩ = some a ∧ w.cell? ⟨g, 1, none⟩ = some b ∧ w.cell? ⟨g, 2, none⟩ = some c ∧ w.frozen? ⟨g, 0, none⟩ = false ∧ w.frozen? ⟨g, 1, none⟩ = false ∧ w.frozen? ⟨g, 2, none⟩ = false :=
  ⟨h.cell 0, h.cell 1, h.cell 2, h.frozen 0, h.frozen 1, h.frozen 2⟩
theorem set3 {w : World} {g : Nat} {t : TypeId} {a b c : Value} (h : Has w g t #[a, b, c]) (a' b' c' : Value) : Has (((w.setCell ⟨g, 0, none⟩ a').setCell ⟨g, 1, none⟩ b').setCell ⟨g, 2, none⟩ c') g t #[a', b', c'] := ((h.put 0 a' rfl).put 1 b' rfl).put 2 c' rfl

/-- Both weights of fan f. -/
def RetW (f : Int) (w : World) (e : Ending) (w' : World) : Prop := e = .returned (.tuple #[.int .i64 (wR f), .int .i64 (wP f)]) ∧ w.grownBy w' none
abbrev dem (l r p : Int) : Value := .agg #[.int .i64 l, .int .i64 r, .int .i64 p]

def rowR : Array Value := #[.int .i64 2, .int .i64 1, .int .i64 (-1), .int .i64 (-2), .int .i64 (-1), .int .i64 1]
def rowP : Array Value := #[.int .i64 0, .int .i64 2, .int .i64 2, .int .i64 0, .int .i64 (-2), .int .i64 (-2)]
theorem rowR_at {k : Nat} (h : k < 6) : rowR[k]? = some (.int .i64 (tR k)) := by rcases six h with rfl | rfl | rfl | rfl | rfl | rfl <;> rfl
theorem rowP_at {k : Nat} (h : k < 6) : rowP[k]? = some (.int .i64 (tP k)) := by rcases six h with rfl | rfl | rfl | rfl | rfl | rfl <;> rfl

theorem listR {k : Nat} (h : k < 6) : [Value.int .i64 2, .int .i64 1, .int .i64 (-1), .int .i64 (-2), .int .i64 (-1), .int .i64 1][k]'(by simpa using h) = .int .i64 (tR k) := by rcases six h with rfl | rfl | rfl | rfl | rfl | rfl <;> rfl
theorem listP {k : Nat} (h : k < 6) : [Value.int .i64 0, .int .i64 2, .int .i64 2, .int .i64 0, .int .i64 (-2), .int .i64 (-2)][k]'(by simpa using h) = .int .i64 (tP k) := by rcases six h with rfl | rfl | rfl | rfl | rfl | rfl <;> rfl

set_option maxHeartbeats 2000000 in
theorem specWeightsOf (f : Int) (w : World) : Calls Tryz.prog 194 #[.int .i64 f] w (RetW f w) := by
  by_cases h : 0 ≤ f ∧ f ≤ 5
  · obtain ⟨k, rfl⟩ := Int.eq_ofNat_of_zero_le h.1
    have hk : k < 6 := by omega
    have k1 : inb (k : Int) 0 5 = true := by unfold inb; simp; omega
    have hk5 : (k : Int) < 6 := by omega
    unfold RetW
    rw [wR_nat hk, wP_nat hk]
    clear h
    go_enter Tryz.func194, Tryz.ntmps194
    go_wp2_with fail
    refine (fix.specIn _ _ _ _).mono ?_
    rw [k1]
    rintro e w' ⟨rfl, rfl⟩
    have eR := rowR_at hk
    have eP := rowP_at hk
    unfold rowR at eR
    unfold rowP at eP
    go_wp2_with fail
    go_region
    all_goals go_wp2_with fail
    all_goals go_ret2
    all_goals exact ⟨by rw [listR hk, listP hk]; rfl, gr_drewN (gr_alloc (World.grownBy_alloc _ _ _) _) 1⟩
  · have k1 : inb f 0 5 = false := by unfold inb; simp; omega
    unfold RetW
    rw [wR_no (by omega), wP_no (by omega)]
    go_enter Tryz.func194, Tryz.ntmps194
    go_wp2_with fail
    refine (fix.specIn _ _ _ _).mono ?_
    rw [k1]
    rintro e w' ⟨rfl, rfl⟩
    go_wp2_with fail
    go_ret2
    exact ⟨rfl, gr_refl _ _⟩

set_option maxHeartbeats 1000000 in
theorem specTurn (f l r p : Int) (w : World) (hr : -1000000 ≤ r ∧ r ≤ 1000000) (hp : -1000000 ≤ p ∧ p ≤ 1000000) :
    Calls Tryz.prog 191 #[.int .i64 f, dem l r p] w (Ret (.int .i64 (wR f * r + wP f * p)) w) := by
  obtain ⟨m1, m2⟩ := mul_bd (wR_in f).1 (wR_in f).2 hr.1 hr.2
  obtain ⟨m3, m4⟩ := mul_bd (wP_in f).1 (wP_in f).2 hp.1 hp.2
  have H0 := Has.fresh w 234 #[.int .i64 l, .int .i64 r, .int .i64 p]
  have g0 := World.grownBy_alloc w (Obj.cells #[.int .i64 l, .int .i64 r, .int .i64 p] 234) none
  go_enter Tryz.func191, Tryz.ntmps191
  go_wp2_with fail
  refine (specWeightsOf f _).mono ?_
  rintro e w1 ⟨rfl, g1⟩
  obtain ⟨c0, c1, c2, _, _, _⟩ := three (H0.grown g1 (by simp))
  generalize wR f = a at *
  generalize wP f = b at *
  go_wp2_with fail
  go_ret
  exact ⟨rfl, gr_trans g0 g1⟩

def okD (l r p : Int) : Bool := inb l (-1000000) 1000000 && (inb r (-1000000) 1000000 && inb p (-1000000) 1000000)
set_option maxHeartbeats 1000000 in
theorem specSizes (l r p : Int) (w : World) : Calls Tryz.prog 188 #[dem l r p] w (Ret (.bool (okD l r p)) w) := by
  have g0 := World.grownBy_alloc w (Obj.cells #[.int .i64 l, .int .i64 r, .int .i64 p] 234) none
  have c0 := fix.specSizeOk l
  have c1 := fix.specSizeOk r
  have c2 := fix.specSizeOk p
  unfold okD
  generalize inb l (-1000000) 1000000 = x0 at *
  generalize inb r (-1000000) 1000000 = x1 at *
  generalize inb p (-1000000) 1000000 = x2 at *
  cases x0
  · go_enter Tryz.func188, Tryz.ntmps188
    go_wp2_with fail
    refine (c0 _).mono ?_
    rintro e w' ⟨rfl, rfl⟩
    go_wp2_with fail
    go_ret
    exact ⟨rfl, g0⟩
  cases x1
  · go_enter Tryz.func188, Tryz.ntmps188
    go_wp2_with fail
    refine (c0 _).mono ?_
    rintro e w' ⟨rfl, rfl⟩
    go_wp2_with fail
    refine (c1 _).mono ?_
    rintro e w' ⟨rfl, rfl⟩
    go_wp2_with fail
    go_ret
    exact ⟨rfl, g0⟩
  · go_enter Tryz.func188, Tryz.ntmps188
    go_wp2_with fail
    refine (c0 _).mono ?_
    rintro e w' ⟨rfl, rfl⟩
    go_wp2_with fail
    refine (c1 _).mono ?_
    rintro e w' ⟨rfl, rfl⟩
    go_wp2_with fail
    refine (c2 _).mono ?_
    rintro e w' ⟨rfl, rfl⟩
    go_wp2_with fail
    go_ret
    exact ⟨rfl, g0⟩

end Go.Proofs.YtdikhdfpcipdbaaGreatDoor.sh
