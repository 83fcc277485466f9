/- The cut of a demand: the farthest turn of a set, and what the program's cut gives. -/
import Derived.Test.YtekglhikojondaaDoorShIn
namespace Go.Proofs.YtekglhikojondaaDoor.sh
open Go.ChangeShapes Go.WideShapes Go.ChangeAt Go.RowKit
open Go.Proofs.YtekglhikojondaaDoor.nums Go.Proofs.YtekglhikojondaaDoor.mem
open Go.Proofs.YtekglhikojondaaDoor.tab (Ret quiet_w)
set_option linter.unusedVariables false

def turn (r p : Int) (k : Nat) : Int := tR k * r + tP k * p
def pt (S : Nat → Bool) (t : Nat → Int) (k : Nat) : Int := if S k then max (t k) (-(t k)) else 0
/-- The greatest size of a turn of those in S. -/
def top (S : Nat → Bool) (t : Nat → Int) : Int := max (pt S t 0) (max (pt S t 1) (max (pt S t 2) (max (pt S t 3) (max (pt S t 4) (pt S t 5)))))
def done (S L : Nat → Bool) : Nat → Bool := fun j => S j && !L j
theorem pt_in {S : Nat → Bool} {t : Nat → Int} {B : Int} (hB : 0 ≤ B) {k : Nat} (h : -B ≤ t k ∧ t k ≤ B) : 0 ≤ pt S t k ∧ pt S t k ≤ B := by unfold pt; split <;> omega
theorem top_in {S : Nat → Bool} {t : Nat → Int} {B : Int} (hB : 0 ≤ B) (h : ∀ k, k < 6 → -B ≤ t k ∧ t k ≤ B) : 0 ≤ top S t ∧ top S t ≤ B := by
  have h0 := pt_in (S := S) hB (h 0 (by omega)); have h1 := pt_in (S := S) hB (h 1 (by omega)); have h2 := pt_in (S := S) hB (h 2 (by omega))
  have h3 := pt_in (S := S) hB (h 3 (by omega)); have h4 := pt_in (S := S) hB (h 4 (by omega)); have h5 := pt_in (S := S) hB (h 5 (by omega))
  unfold top; omega
theorem pt_le {S : Nat → Bool} {t : Nat → Int} {k : Nat} (hk : k < 6) : pt S t k ≤ top S t := by
  unfold top; rcases six hk with rfl | rfl | rfl | rfl | rfl | rfl <;> omega
theorem top_congr {S S' : Nat → Bool} {t : Nat → Int} (h : ∀ k, k < 6 → S k = S' k) : top S t = top S' t := by
  unfold top pt; rw [h 0 (by omega), h 1 (by omega), h 2 (by omega), h 3 (by omega), h 4 (by omega), h 5 (by omega)]
theorem top_none (t : Nat → Int) : top (fun _ => false) t = 0 := rfl
theorem top_le {S : Nat → Bool} {t : Nat → Int} {B : Int} : top S t ≤ B ↔ pt S t 0 ≤ B ∧ pt S t 1 ≤ B ∧ pt S t 2 ≤ B ∧ pt S t 3 ≤ B ∧ pt S t 4 ≤ B ∧ pt S t 5 ≤ B := by
  unfold top; simp only [Int.max_le]
theorem top_step {S L : Nat → Bool} {t : Nat → Int} {k : Nat} (hk : k < 6) (hS : S k = true) (hL : L k = true) : top (done S (out L k)) t = max (top (done S L) t) (max (t k) (-(t k))) := by
  have e : ∀ j, pt (done S (out L k)) t j = if j = k then max (t k) (-(t k)) else pt (done S L) t j := by
    intro j
    unfold pt done out
    by_cases h : j = k
    · subst h; simp [hS]
    · simp [h]
  have e0 : pt (done S L) t k = 0 := by unfold pt done; simp [hL]
  have hp : 0 ≤ max (t k) (-(t k)) := by omega
  generalize max (t k) (-(t k)) = v at *
  have h : ∀ B, top (done S (out L k)) t ≤ B ↔ max (top (done S L) t) v ≤ B := by
    intro B
    rw [Int.max_le, top_le, top_le, e 0, e 1, e 2, e 3, e 4, e 5]
    rcases six hk with rfl | rfl | rfl | rfl | rfl | rfl <;> simp <;> omega
  exact Int.le_antisymm ((h _).2 (Int.le_refl _)) ((h _).1 (Int.le_refl _))
theorem mul2 {a r : Int} (h : -2 ≤ a ∧ a ≤ 2) (hr : -100 ≤ r ∧ r ≤ 100) : -200 ≤ a * r ∧ a * r ≤ 200 := by
  have := mul_bd h.1 h.2 hr.1 hr.2; simpa using this
theorem turn_in {r p : Int} (hr : -100 ≤ r ∧ r ≤ 100) (hp : -100 ≤ p ∧ p ≤ 100) {k : Nat} (hk : k < 6) : -400 ≤ turn r p k ∧ turn r p k ≤ 400 := by
  have h1 := mul2 (tR_in hk) hr
  have h2 := mul2 (tP_in hk) hp
  unfold turn; omega
theorem btw_in {x l h : Int} (hl : l ≤ h) : l ≤ btw x l h ∧ btw x l h ≤ h := by unfold btw; omega
theorem apart0 {x : Int} (h : -400 ≤ x ∧ x ≤ 400) : kApart x 0 = max x (-x) := by unfold kApart fit btw; omega

/-- What is left of the Lift. -/
def cutL (S : Nat → Bool) (l r p : Int) : Int := btw l (top S (turn r p)) (1000 - top S (turn r p))
def RetDem (l r p : Int) (w : World) (e : Ending) (w' : World) : Prop := e = .returned (dem l r p) ∧ w.grownBy w' none

set_option maxRecDepth 100000 in
set_option maxHeartbeats 4000000 in
theorem implCut (l r p : Int) (b : Nat) (S : Nat → Bool) (w : World) (hs : IsSet w b S) :
    Calls Tryd.prog 40 #[dem l r p, .map (some b)] w (RetDem (cutL S l (btw r (-100) 100) (btw p (-100) 100)) (btw r (-100) 100) (btw p (-100) 100) w) := by
  have hr := btw_in (x := r) (l := -100) (h := 100) (by omega)
  have hp := btw_in (x := p) (l := -100) (h := 100) (by omega)
  have cR := fix.implBetween r (-100) 100
  have cP := fix.implBetween p (-100) 100
  generalize btw r (-100) 100 = r' at *
  generalize btw p (-100) 100 = p' at *
  have hb := hs.lt
  go_enter Tryd.func40, Tryd.ntmps40
  go_wp2_with fail
  refine (cR _).mono ?_
  rintro e w' ⟨rfl, rfl⟩
  go_wp2_with fail
  refine (cP _).mono ?_
  rintro e w' ⟨rfl, rfl⟩
  clear cR cP
  have H0 := (Has.fresh w 25 #[.int .i64 l, .int .i64 r', .int .i64 p']).alloc (Obj.cells #[.int .i64 0, .int .i64 0, .int .i64 0] 25)
  have H1 := Has.fresh (w.alloc (Obj.cells #[.int .i64 l, .int .i64 r', .int .i64 p'] 25)) 25 #[.int .i64 0, .int .i64 0, .int .i64 0]
  have g0 : w.grownBy ((w.alloc (Obj.cells #[.int .i64 l, .int .i64 r', .int .i64 p'] 25)).alloc (Obj.cells #[.int .i64 0, .int .i64 0, .int .i64 0] 25)) none := gr_alloc (World.grownBy_alloc _ _ _) _
  have hs0 := hs.kept g0 (by simp)
  simp only [World.size_alloc] at H1
  go_wp2_with (at_range; refine wpList_go _ rfl _ rfl b S rfl hs0 ?_; intro w1 cnt hgo g1 hs1)
  replace H0 := H0.grown g1 (by simp)
  replace H1 := H1.grown g1 (by simp)
  replace g0 := gr_trans g0 g1
  have hq : w.heap.size + 2 ≤ ((w.alloc (Obj.cells #[.int .i64 l, .int .i64 r', .int .i64 p'] 25)).alloc (Obj.cells #[.int .i64 0, .int .i64 0, .int .i64 0] 25)).heap.size := by simp
  clear hs0 g1 hs1 hs
  generalize ((w.alloc (Obj.cells #[.int .i64 l, .int .i64 r', .int .i64 p'] 25)).alloc (Obj.cells #[.int .i64 0, .int .i64 0, .int .i64 0] 25)).heap.size = q at *
  go_frame
  go_loopw [5] (fun f wr => ∃ (cnt : Nat) (L : Nat → Bool) (F : Int), f = .int .i64 F ∧ Hid (F = top (done S L) (turn r' p')) ∧ (0 ≤ F ∧ F ≤ 400) ∧ Going wr b q S L cnt ∧ Has wr w.heap.size 25 #[.int .i64 l, .int .i64 r', .int .i64 p'] ∧ Has wr (w.heap.size + 1) 25 #[.int .i64 0, .int .i64 0, .int .i64 0] ∧ w.grownBy wr none) (fun _ wr => wr.rangeLeft b q)
  case atStart =>
    exact ⟨cnt, S, 0, rfl, Lib.hid (by rw [top_congr (S' := fun _ => false) (fun k hk => by unfold done; cases S k <;> rfl)]; rfl), ⟨by omega, by omega⟩, hgo, H0, H1, g0⟩
  case round =>
    clear hgo H0 H1 g0 cnt w1
    obtain ⟨cnt, L, F, rfl, hF, hF2, hgo, H0, H1, g0⟩ := hrel
    go_wp2_with (at_next; refine wpList_step _ rfl _ rfl b q cnt S L rfl hgo ?_ ?_)
    · intro hall
      obtain ⟨c0, c1, c2, f0, f1, f2⟩ := three H0
      obtain ⟨d0, d1, d2, e0, e1, e2⟩ := three H1
      have cL := fix.implBetween l F (1000 - F)
      have hFt : F = top S (turn r' p') := by rw [hF.out]; exact top_congr (fun k hk => by unfold done; rw [hall k hk]; simp)
      have hcut : btw l F (1000 - F) = cutL S l r' p' := by unfold cutL; rw [← hFt]
      rw [hcut] at cL
      clear hF hFt hcut hall hgo
      generalize cutL S l r' p' = l' at *
      go_wp2_with fail
      refine (cL _).mono ?_
      rintro e w' ⟨rfl, rfl⟩
      go_wp2_with fail
      obtain ⟨k0, k1, k2, _, _, _⟩ := three (set3 (H1.set_other (g' := w.heap.size) (by omega) 0 (.int .i64 l')) (.int .i64 l') (.int .i64 r') (.int .i64 p'))
      exact bodyPost_ret (v := dem l' r' p') (by simp [results, Tryd.results40, go_sem, k0, k1, k2]) rfl ⟨rfl, gr_new (gr_new (gr_new (gr_new g0 (Nat.le_refl _) _ _) (by omega) _ _) (by omega) _ _) (by omega) _ _⟩
    · intro k w1 cnt1 hk hLk hS hgo1 hlt hg1 hs1 hen
      have ht := turn_in hr hp hk
      have mR := mul2 (tR_in hk) hr
      have mP := mul2 (tP_in hk) hp
      have cT := fun W => implTurn (tR k) (tP k) l r' p' W (by omega) (by omega) (by omega) (by omega)
      have cA := fix.implApart (turn r' p' k) 0
      rw [apart0 ht] at cA
      replace H0 := H0.grown hg1 (by intro e; injection e with e; omega)
      replace H1 := H1.grown hg1 (by intro e; injection e with e; omega)
      replace g0 := gr_past g0 hg1 (by omega)
      have hl0 : wr.rangeLeft b q = cnt := hgo.left
      have hst := Lib.hid (top_step (t := turn r' p') hk hS hLk)
      clear hg1 hs1 hgo
      have hb1 := hgo1.set.lt
      have hq1 := hgo1.lt
      have hB0 := H0.lt
      obtain ⟨c0, c1, c2, _, _, _⟩ := three H0
      go_wp2_with fail
      refine (cT _).mono ?_
      rintro e w2 ⟨rfl, g2⟩
      have g12 := gr_trans (World.grownBy_alloc w1 (Obj.cells #[.int .i64 (tR k), .int .i64 (tP k)] 57) none) g2
      clear c0 c1 c2 g2
      replace H0 := H0.grown g12 (by simp)
      replace H1 := H1.grown g12 (by simp)
      replace g0 := gr_trans g0 g12
      replace hgo1 := hgo1.kept g12 (by simp) (by simp)
      have eT : tR k * r' + tP k * p' = turn r' p' k := rfl
      go_wp2_with fail
      refine (cA _).mono ?_
      rintro e w' ⟨rfl, rfl⟩
      have hv : 0 ≤ max (turn r' p' k) (-turn r' p' k) ∧ max (turn r' p' k) (-turn r' p' k) ≤ 400 := by omega
      generalize max (turn r' p' k) (-turn r' p' k) = v at *
      clear cA cT eT ht mR mP hen
      go_wp2_with fail
      go_roundw
      case rel => exact ⟨cnt1, _, max F v, by congr 1; split <;> omega, Lib.hid (by rw [hst.out, ← hF.out]), ⟨by omega, by omega⟩, hgo1, H0, H1, g0⟩
      case measure => rw [hgo1.left, hl0]; exact hlt
end Go.Proofs.YtekglhikojondaaDoor.sh
