/- weightsIn of the program: the set of the fans that stay on. The cut of a demand: the farthest turn of a set, and what the program's cut gives. The model of chapter 2: contracts over a table in memory. The model of chapter 2, continued: IsRising, GreatestY, At. -/
import Derived.Test.YtdikhdfpcipdbaaGreatDoorG19
import Derived.Lib.Hide
import Derived.Test.YtdikhdfpcipdbaaGreatDoorG2
/- weightsIn of the program: the set of the fans that stay on. -/
namespace Go.Proofs.YtdikhdfpcipdbaaGreatDoor.sh
open Go.ChangeShapes Go.WideShapes Go.ChangeAt Go.RowKit
open Go.Proofs.YtdikhdfpcipdbaaGreatDoor.nums Go.Proofs.YtdikhdfpcipdbaaGreatDoor.mem
set_option linter.unusedVariables false

/-- Does the k-th fan stay on? -/
def on (c : Int) (k : Nat) : Bool := cas.staysOn c (k : Int)
end Go.Proofs.YtdikhdfpcipdbaaGreatDoor.sh

/- The cut of a demand: the farthest turn of a set, and what the program's cut gives. -/
namespace Go.Proofs.YtdikhdfpcipdbaaGreatDoor.sh
open Go.ChangeShapes Go.WideShapes Go.ChangeAt Go.RowKit
open Go.Proofs.YtdikhdfpcipdbaaGreatDoor.nums Go.Proofs.YtdikhdfpcipdbaaGreatDoor.mem
open Go.Proofs.YtdikhdfpcipdbaaGreatDoor.tab (Ret quiet_w)
set_option linter.unusedVariables false

def turn (r p : Int) (k : Nat) : Int := tR k * r + tP k * p
def pt (S : Nat → Bool) (t : Nat → Int) (k : Nat) : Int := if S k then max (t k) (-(t k)) else 0
/-- The greatest size of a turn of those in S. -/
def top (S : Nat → Bool) (t : Nat → Int) : Int := max (pt S t 0) (max (pt S t 1) (max (pt S t 2) (max (pt S t 3) (max (pt S t 4) (pt S t 5)))))
def done (S L : Nat → Bool) : Nat → Bool := fun j => S j && !L j
theorem pt_in {S : Nat → Bool} {t : Nat → Int} {B : Int} (hB : 0 ≤ B) {k : Nat} (h : -B ≤ t k ∧ t k ≤ B) : 0 ≤ pt S t k ∧ pt S t k ≤ B := by unfold pt; split <;> omega
theorem top_in {S : Nat → Bool} {t : Nat → Int} {B : Int} (hB : 0 ≤ B) (h : ∀ k, k < 6 → -B ≤ t k ∧ t k ≤ B) : 0 ≤ top S t ∧ top S t ≤ B := by
  have h0 := pt_in (S := S) hB (h 0 (by omega)); have h1 := pt_in (S := S) hB (h 1 (by omega)); have h2 := pt_in (S := S) hB (h 2 (by omega))
  have h3 := pt_in (S := S) hB (h 3 (by omega)); have h4 := pt_in (S := S) hB (h 4 (by omega)); have h5 := pt_in (S := S) hB (h 5 (by omega))
  unfold top; omega
theorem pt_le {S : Nat → Bool} {t : Nat → Int} {k : Nat} (hk : k < 6) : pt S t k ≤ top S t := by
  unfold top; rcases six hk with rfl | rfl | rfl | rfl | rfl | rfl <;> omega
theorem top_le {S : Nat → Bool} {t : Nat → Int} {B : Int} : top S t ≤ B ↔ pt S t 0 ≤ B ∧ pt S t 1 ≤ B ∧ pt S t 2 ≤ B ∧ pt S t 3 ≤ B ∧ pt S t 4 ≤ B ∧ pt S t 5 ≤ B := by
  unfold top; simp only [Int.max_le]
theorem mul2 {a r : Int} (h : -2 ≤ a ∧ a ≤ 2) (hr : -100 ≤ r ∧ r ≤ 100) : -200 ≤ a * r ∧ a * r ≤ 200 := by
  have := mul_bd h.1 h.2 hr.1 hr.2; simpa using this
theorem turn_in {r p : Int} (hr : -100 ≤ r ∧ r ≤ 100) (hp : -100 ≤ p ∧ p ≤ 100) {k : Nat} (hk : k < 6) : -400 ≤ turn r p k ∧ turn r p k ≤ 400 := by
  have h1 := mul2 (tR_in hk) hr
  have h2 := mul2 (tP_in hk) hp
  unfold turn; omega
theorem btw_in {x l h : Int} (hl : l ≤ h) : l ≤ btw x l h ∧ btw x l h ≤ h := by unfold btw; omega
/-- What is left of the Lift. -/
def cutL (S : Nat → Bool) (l r p : Int) : Int := btw l (top S (turn r p)) (1000 - top S (turn r p))
end Go.Proofs.YtdikhdfpcipdbaaGreatDoor.sh

/- The model of chapter 2: contracts over a table in memory. -/
namespace Go.Proofs.YtdikhdfpcipdbaaGreatDoor.tab
open Go.ChangeShapes Go.WideShapes Go.ChangeAt Go.RowKit
open Go.Proofs.YtdikhdfpcipdbaaGreatDoor.nums Go.Proofs.YtdikhdfpcipdbaaGreatDoor.mem
set_option linter.unusedVariables false

set_option maxHeartbeats 1000000 in
theorem specTableOk (g cap : Nat) (ps : Pts) (w : World) (h : Tab w g ps) (hl : ps.length ≤ 1048576) :
    Calls Tryz.prog 196 #[.slice (some ⟨g, 0, none⟩) ps.length cap] w (Ret (.bool (okB ps)) w) := by
  go_enter Tryz.func196, Tryz.ntmps196
  go_wp2
  go_loopw [3] (fun i wr => ∃ k : Nat, k ≤ ps.length ∧ i = .int .i64 k ∧ Good ps k ∧ w.grownBy wr none) (fun i _ => ps.length - (intOf i).toNat)
  case atStart => exact ⟨0, Nat.zero_le _, rfl, Good.zero ps, gr_refl _ _⟩
  case round =>
    obtain ⟨k, hk, rfl, hG, hg⟩ := hrel
    by_cases hlt : k < ps.length
    · obtain ⟨cx, cy⟩ := (h.kept hg).2 k hlt
      by_cases hx : inb (px ps k) (-1000000) 1000000 = true
      · by_cases hy : inb (py ps k) (-1000000) 1000000 = true
        · have hs0 : szB ps k = true := by unfold szB; rw [hx, hy]; rfl
          have hs := Lib.hid hs0; clear hs0
          by_cases h0 : 0 < k
          · obtain ⟨j, rfl⟩ : ∃ j, k = j + 1 := ⟨k - 1, by omega⟩
            obtain ⟨dx, _⟩ := (h.kept hg).2 j (by omega)
            by_cases hp : px ps (j + 1) ≤ px ps j
            · have hd : decide (px ps (j + 1) ≤ px ps j) = true := by simp [hp]
              go_wp2_with fail
              go_quiet ((go_at_call 78; exact quiet_w (fix.specSizeOk _ _)))
              go_wp2_with fail
              go_ret
              exact ⟨fix.ret_bool (okB_fall hlt hp).symm, gr_drewN hg _⟩
            · have hd : decide (px ps (j + 1) ≤ px ps j) = false := by simp; omega
              go_wp2_with fail
              go_quiet ((go_at_call 78; exact quiet_w (fix.specSizeOk _ _)))
              go_wp2_with fail
              go_roundw
              case rel => exact ⟨j + 1 + 1, by omega, by go_num, hG.next hs.out (by omega), gr_drewN hg _⟩
              case measure => simp [intOf]; omega
          · have h0' : decide (0 < k) = false := by simp; omega
            go_wp2_with fail
            go_quiet ((go_at_call 78; exact quiet_w (fix.specSizeOk _ _)))
            go_wp2_with fail
            obtain rfl : k = 0 := by omega
            go_roundw
            case rel => exact ⟨1, by omega, by go_num, Good.first hs.out, gr_drewN hg _⟩
            case measure => simp [intOf]; omega
        · have hy' : inb (py ps k) (-1000000) 1000000 = false := by simpa using hy
          clear hy
          go_wp2_with fail
          go_quiet ((go_at_call 78; exact quiet_w (fix.specSizeOk _ _)))
          go_wp2_with fail
          go_ret
          exact ⟨fix.ret_bool (okB_bad hlt (by unfold szB; rw [hx, hy']; rfl)).symm, gr_drewN hg _⟩
      · have hx' : inb (px ps k) (-1000000) 1000000 = false := by simpa using hx
        clear hx
        go_wp2_with fail
        go_quiet ((go_at_call 78; exact quiet_w (fix.specSizeOk _ _)))
        go_wp2_with fail
        go_ret
        exact ⟨fix.ret_bool (okB_bad hlt (by unfold szB; rw [hx']; rfl)).symm, gr_drewN hg _⟩
    · obtain rfl : k = ps.length := by omega
      go_wp2_with (go_at_call 24; refine (fix.specIn _ _ _ _).mono ?_; rintro e w' ⟨rfl, rfl⟩)
      go_ret
      refine ⟨fix.ret_bool ?_, hg⟩
      by_cases h2 : 2 ≤ ps.length ∧ ps.length ≤ 8
      · rw [okB_true ⟨h2.1, h2.2, hG⟩]; unfold inb; simp; omega
      · rw [okB_false (fun ho => h2 ⟨ho.1, ho.2.1⟩)]; unfold inb; simp; omega
end Go.Proofs.YtdikhdfpcipdbaaGreatDoor.tab

/- The model of chapter 2, continued: IsRising, GreatestY, At. -/
namespace Go.Proofs.YtdikhdfpcipdbaaGreatDoor.tab
open Go.ChangeShapes Go.WideShapes Go.ChangeAt Go.RowKit
open Go.Proofs.YtdikhdfpcipdbaaGreatDoor.nums Go.Proofs.YtdikhdfpcipdbaaGreatDoor.mem
set_option linter.unusedVariables false

set_option maxRecDepth 100000 in
set_option maxHeartbeats 1000000 in
theorem specAt_ok (g cap : Nat) (ps : Pts) (x : Int) (w : World) (h : Tab w g ps) (ho : OkT ps) :
    Calls Tryz.prog 193 #[.slice (some ⟨g, 0, none⟩) ps.length cap, .int .i64 x] w (RetAt ps x w) := by
  have hb := okB_true ho
  have h2 := ho.1
  have h8 := ho.2.1
  go_enter Tryz.func193, Tryz.ntmps193
  go_wp2_with fail
  refine (specTableOk g cap ps _ h (by omega)).mono ?_
  rintro e w1 ⟨rfl, hg⟩
  have h1 := h.kept hg
  obtain ⟨cx, cy⟩ := h1.2 0 (by omega)
  simp at cx cy
  obtain ⟨n, hn⟩ : ∃ n, ps.length = n + 2 := ⟨ps.length - 2, by omega⟩
  obtain ⟨lx, ly⟩ := h1.2 (n + 1) (by omega)
  by_cases hx : x ≤ px ps 0
  · go_wp2_with fail
    go_ret
    exact ⟨_, .inl ⟨hx, rfl⟩, rfl, hg⟩
  · rw [hn]
    by_cases hy : px ps (n + 1) ≤ x
    · go_wp2_with fail
      go_ret
      exact ⟨_, .inr (.inl ⟨by omega, by rw [hn]; exact hy, by rw [hn]; rfl⟩), rfl, hg⟩
    · have hn6 : n ≤ 6 := by omega
      have HN := Lib.hid hn
      clear hn
      go_wp2_with fail
      go_loop [6] (fun i => ∃ k : Nat, k < n + 1 ∧ px ps k ≤ x ∧ i = .int .i64 k) (fun i => n + 1 - (intOf i).toNat)
      case atStart => exact ⟨0, by omega, by omega, rfl⟩
      case round =>
        obtain ⟨k, hk, hkx, rfl⟩ := hrel
        obtain ⟨kx, ky⟩ := h1.2 k (by have := HN.out; omega)
        obtain ⟨mx, my⟩ := h1.2 (k + 1) (by have := HN.out; omega)
        by_cases hlt : px ps (k + 1) ≤ x
        · have hk' : k + 1 < n + 1 := by
            by_cases e : k = n
            · subst e; omega
            · omega
          go_wp2_with fail
          go_round
          case rel => exact ⟨k + 1, hk', hlt, by go_num⟩
          case measure => simp [intOf]; omega
        · obtain ⟨⟨a1, a2⟩, b1, b2⟩ := ho.sz (k := k)
          obtain ⟨⟨c1, c2⟩, d1, d2⟩ := ho.sz (k := k + 1)
          go_wp2_with fail
          go_quiet ((first | (go_at_call 169; exact quiet_w (fix.specPart _ _ _ _)) | (go_at_call 190; exact quiet_w (fix.specPlus _ _ _))))
          go_wp2_with fail
          go_ret
          exact ⟨_, .inr (.inr ⟨k, by have := HN.out; omega, by omega, hkx, by omega, rfl⟩), rfl, gr_drewN hg _⟩
end Go.Proofs.YtdikhdfpcipdbaaGreatDoor.tab

