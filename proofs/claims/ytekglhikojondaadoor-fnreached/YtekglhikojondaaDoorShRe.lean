/- Reached of both sides. -/
import Derived.Test.YtekglhikojondaaDoorShIn
import Derived.Test.YtekglhikojondaaDoorQuietTail
import Derived.Deep.DeepCutAuto
namespace Go.Proofs.YtekglhikojondaaDoor.sh
open Go.ChangeShapes Go.WideShapes Go.ChangeAt Go.RowKit
open Go.Proofs.YtekglhikojondaaDoor.nums Go.Proofs.YtekglhikojondaaDoor.mem
open Go.Proofs.YtekglhikojondaaDoor.tab (Ret quiet_w)
open Go.Proofs.YtekglhikojondaaDoor.il (nth Ints)
open Go.Proofs.YtekglhikojondaaDoor.qt (region_below_tail gr_rg)
set_option linter.unusedVariables false

/-- The first k together. -/
def psum (g : Nat → Int) : Nat → Int
  | 0 => 0
  | k + 1 => psum g k + g k
theorem psum_in {g : Nat → Int} {B : Int} : ∀ k, (∀ j, j < k → -B ≤ g j ∧ g j ≤ B) → -(k * B) ≤ psum g k ∧ psum g k ≤ k * B
  | 0, _ => by simp [psum]
  | k + 1, h => by
    have h1 := psum_in k (fun j hj => h j (by omega))
    have h2 := h k (by omega)
    have e : ((k + 1 : Nat) : Int) * B = k * B + B := by rw [Int.natCast_add, Int.add_mul]; simp
    rw [e]; unfold psum; omega
theorem psum_bd {g : Nat → Int} {k : Nat} (hk : k ≤ 6) (h : ∀ j, j < k → -2000 ≤ g j ∧ g j ≤ 2000) : -12000 ≤ psum g k ∧ psum g k ≤ 12000 := by
  have := psum_in k h
  omega
def gL (l : List Int) (k : Nat) : Int := nth l k
def gR (l : List Int) (k : Nat) : Int := tR k * nth l k
def gP (l : List Int) (k : Nat) : Int := tP k * nth l k
def okO (n : Int) : Bool := inb n 0 1000
def okL (l : List Int) : Bool := decide (l.length = 6) && l.all okO
theorem ok_at {l : List Int} {k : Nat} (h : okO (nth l k) = true) : 0 ≤ nth l k ∧ nth l k ≤ 1000 := by unfold okO inb at h; simpa using h
theorem gR_in {l : List Int} {k : Nat} (hk : k < 6) (h : okO (nth l k) = true) : -2000 ≤ gR l k ∧ gR l k ≤ 2000 := by
  have h1 := ok_at h
  have := mul_bd (tR_in hk).1 (tR_in hk).2 (b := nth l k) (n := 1000) (by omega) (by omega)
  unfold gR; simpa using this
theorem gP_in {l : List Int} {k : Nat} (hk : k < 6) (h : okO (nth l k) = true) : -2000 ≤ gP l k ∧ gP l k ≤ 2000 := by
  have h1 := ok_at h
  have := mul_bd (tP_in hk).1 (tP_in hk).2 (b := nth l k) (n := 1000) (by omega) (by omega)
  unfold gP; simpa using this
theorem all_step (l : List Int) (k : Nat) (h : k < l.length) : (l.take (k + 1)).all okO = ((l.take k).all okO && okO (nth l k)) := by
  rw [il.nth_take h]; simp
theorem all_not (l : List Int) (k : Nat) (h : k < l.length) (hs : okO (nth l k) = false) : l.all okO = false := by
  rw [List.all_eq_false]
  exact ⟨nth l k, il.nth_mem h, by rw [hs]; simp⟩
theorem all_of {l : List Int} (h : ∀ j, j < l.length → okO (nth l j) = true) : l.all okO = true := by
  rw [List.all_eq_true]
  intro x hx
  obtain ⟨j, hj, rfl⟩ := List.getElem_of_mem hx
  rw [← il.nth_lt hj]; exact h j hj
theorem gL_in {l : List Int} {k : Nat} (h : okO (nth l k) = true) : -2000 ≤ gL l k ∧ gL l k ≤ 2000 := by
  have h1 := ok_at h
  unfold gL; omega
theorem all_at {l : List Int} (h : l.all okO = true) {k : Nat} (hk : k < l.length) : okO (nth l k) = true := List.all_eq_true.1 h _ (il.nth_mem hk)
/-- What is reached. -/
def reL (l : List Int) : Int := if okL l = true then psum (gL l) 6 else 0
def reR (l : List Int) : Int := if okL l = true then psum (gR l) 6 else 0
def reP (l : List Int) : Int := if okL l = true then psum (gP l) 6 else 0
theorem re_no {l : List Int} (h : okL l = false) : reL l = 0 ∧ reR l = 0 ∧ reP l = 0 := by unfold reL reR reP; rw [h]; simp
theorem re_yes {l : List Int} (h : okL l = true) : reL l = psum (gL l) 6 ∧ reR l = psum (gR l) 6 ∧ reP l = psum (gP l) 6 := by unfold reL reR reP; rw [h]; simp
def RetRe (l : List Int) (w : World) (e : Ending) (w' : World) : Prop := e = .returned (dem (reL l) (reR l) (reP l)) ∧ w.grownBy w' none

set_option maxRecDepth 100000 in
set_option maxHeartbeats 8000000 in
theorem implReached (a : Option Addr) (cap : Nat) (l : List Int) (w : World) (hw : Wts w) (h : Ints w a l) (hl : l.length ≤ maxLen) : Calls Tryd.prog 20 #[.slice a l.length cap] w (RetRe l w) := by
  have hm : l.length ≤ 9223372036854775807 := by unfold maxLen at hl; exact hl
  clear hl
  have A0 := Has.fresh w 25 #[.int .i64 0, .int .i64 0, .int .i64 0]
  have g0 := World.grownBy_alloc w (Obj.cells #[.int .i64 0, .int .i64 0, .int .i64 0] 25) none
  by_cases h6 : l.length = 6
  · have hd : ((l.length : Int) == 6) = true := by simp; omega
    have hd2 : (!decide ((l.length : Int) = 6)) = false := by simp; omega
    have hw0 := hw.1
    have B0 := Has.fresh (w.alloc (Obj.cells #[.int .i64 0, .int .i64 0, .int .i64 0] 25)) 25 #[.int .i64 0, .int .i64 0, .int .i64 0]
    replace A0 := A0.alloc (Obj.cells #[.int .i64 0, .int .i64 0, .int .i64 0] 25)
    replace g0 := gr_alloc g0 (Obj.cells #[.int .i64 0, .int .i64 0, .int .i64 0] 25)
    simp only [World.size_alloc] at B0
    obtain ⟨⟨c0, c1, c2, c3, c4, c5⟩, c6, c7, c8, c9, c10, c11⟩ := (hw.kept g0).cells
    go_enter Tryd.func20, Tryd.ntmps20
    go_wp2_with fail
    clear c0 c1 c2 c3 c4 c5 c6 c7 c8 c9 c10 c11
    have H6 := Lib.hid h6
    clear h6
    go_loopw [12] (fun i wr => ∃ (k : Nat) (X Y Z : Int), k ≤ 6 ∧ i = .int .i64 (k : Int) ∧ Hid (∀ j, j < k → okO (nth l j) = true) ∧ Hid (X = psum (gL l) k) ∧ Hid (Y = psum (gR l) k) ∧ Hid (Z = psum (gP l) k) ∧ Has wr w.heap.size 25 #[.int .i64 0, .int .i64 0, .int .i64 0] ∧ Has wr (w.heap.size + 1) 25 #[.int .i64 X, .int .i64 Y, .int .i64 Z] ∧ w.grownBy wr none) (fun i _ => 6 - (intOf i).toNat)
    case atStart => exact ⟨0, 0, 0, 0, Nat.zero_le _, rfl, Lib.hid (fun j hj => by omega), Lib.hid rfl, Lib.hid rfl, Lib.hid rfl, A0, B0, g0⟩
    case round =>
      clear A0 B0 g0
      obtain ⟨k, X, Y, Z, hk, rfl, hal, hX, hY, hZ, A0, B0, g0⟩ := hrel
      by_cases hlt : k < 6
      · have hd : decide ((k : Int) < 6) = true := by simp; omega
        have hkl : k < l.length := by have := H6.out; omega
        have hix := index_at hlt
        have g1 := gr_alloc g0 (Obj.cells #[.int .i64 (tR k), .int .i64 (tP k)] 57)
        obtain ⟨x, rfl, hb, cx⟩ := (h.kept g1) k hkl
        have cO := implOutOk (nth l k)
        obtain ⟨o, ho⟩ : ∃ o, okO (nth l k) = o := ⟨_, rfl⟩
        rw [show inb (nth l k) 0 1000 = o from ho] at cO
        have A1 := A0.alloc (Obj.cells #[.int .i64 (tR k), .int .i64 (tP k)] 57)
        have B1 := B0.alloc (Obj.cells #[.int .i64 (tR k), .int .i64 (tP k)] 57)
        obtain ⟨a0, a1, a2, f0, f1, f2⟩ := three A0
        obtain ⟨b0, b1, b2, e0, e1, e2⟩ := three B0
        have hA := A0.lt
        have hB := B0.lt
        cases o
        · have hn := re_no (l := l) (by unfold okL; rw [all_not l k hkl ho]; simp)
          unfold RetRe
          rw [hn.1, hn.2.1, hn.2.2]
          clear hn ho
          go_wp2_with (go_at_call 48; refine (cO _).mono ?_; rintro e w' ⟨rfl, rfl⟩)
          obtain ⟨k0, k1, k2, _, _, _⟩ := three ((set3 A0 (.int .i64 0) (.int .i64 0) (.int .i64 0)).alloc (Obj.cells #[.int .i64 (tR k), .int .i64 (tP k)] 57))
          exact bodyPost_ret (v := dem 0 0 0) (by simp [results, Tryd.results20, go_sem, k0, k1, k2]) rfl ⟨rfl, gr_alloc (gr_new (gr_new (gr_new g0 (Nat.le_refl _) _ _) (Nat.le_refl _) _ _) (Nat.le_refl _) _ _) _⟩
        · have bO := ok_at ho
          have p1 := gR_in hlt ho
          have p2 := gP_in hlt ho
          unfold gR at p1
          unfold gP at p2
          have qX := psum_bd hk (fun j hj => gL_in (hal.out j hj))
          have qY := psum_bd hk (fun j hj => gR_in (by omega) (hal.out j hj))
          have qZ := psum_bd hk (fun j hj => gP_in (by omega) (hal.out j hj))
          rw [← hX.out] at qX
          rw [← hY.out] at qY
          rw [← hZ.out] at qZ
          have HO := Lib.hid ho
          clear ho
          go_wp2_with (go_at_call 48; refine (cO _).mono ?_; rintro e w' ⟨rfl, rfl⟩)
          go_roundw
          case rel => exact ⟨k + 1, X + nth l k, Y + tR k * nth l k, Z + tP k * nth l k, by omega, by go_num, Lib.hid (fun j hj => by
            by_cases e : j = k
            · subst e; exact HO.out
            · exact hal.out j (by omega)), Lib.hid (by rw [hX.out]; rfl), Lib.hid (by rw [hY.out]; rfl), Lib.hid (by rw [hZ.out]; rfl), (((A0.set_other (by omega) _ _).set_other (by omega) _ _).set_other (by omega) _ _).alloc _, (set3 B0 _ _ _).alloc _, gr_alloc (gr_new (gr_new (gr_new g0 (by omega) _ _) (by omega) _ _) (by omega) _ _) _⟩
          case measure => simp [intOf]; omega
      · obtain rfl : k = 6 := by omega
        have hok : okL l = true := by unfold okL; rw [all_of (fun j hj => hal.out j (by have := H6.out; omega))]; simp [H6.out]
        have hy := re_yes hok
        have hE := Lib.hid (show Ending.returned (dem X Y Z) = Ending.returned (dem (reL l) (reR l) (reP l)) by rw [hy.1, hy.2.1, hy.2.2, ← hX.out, ← hY.out, ← hZ.out])
        clear hy hok
        obtain ⟨a0, a1, a2, f0, f1, f2⟩ := three A0
        obtain ⟨b0, b1, b2, e0, e1, e2⟩ := three B0
        go_wp2_with fail
        obtain ⟨k0, k1, k2, _, _, _⟩ := three (set3 A0 (.int .i64 X) (.int .i64 Y) (.int .i64 Z))
        exact bodyPost_ret (v := dem X Y Z) (by simp [results, Tryd.results20, go_sem, k0, k1, k2]) rfl ⟨hE.out, gr_new (gr_new (gr_new g0 (Nat.le_refl _) _ _) (Nat.le_refl _) _ _) (Nat.le_refl _) _ _⟩
  · have hd : ((l.length : Int) == 6) = false := by simp; omega
    have hn := re_no (l := l) (by unfold okL; simp [h6])
    unfold RetRe
    rw [hn.1, hn.2.1, hn.2.2]
    clear hn
    obtain ⟨c0, c1, c2, f0, f1, f2⟩ := three A0
    go_enter Tryd.func20, Tryd.ntmps20
    go_wp2_with fail
    all_goals exact bodyPost_ret (v := dem 0 0 0) (by simp [results, Tryd.results20, go_sem, c0, c1, c2]) rfl ⟨rfl, g0⟩

/-- A list of so many numbers, each out to 1000. -/
theorem specAll (a : Option Addr) (cap : Nat) (l : List Int) (w : World) (h : Ints w a l) (hl : l.length ≤ maxLen) :
    Calls Tryd.prog 52 #[.slice a l.length cap, .int .i64 6, .int .i64 0, .int .i64 1000] w fun e w' => e = .returned (.bool (okL l)) ∧ w = w' := by
  have hm : l.length ≤ 9223372036854775807 := by unfold maxLen at hl; exact hl
  clear hl
  go_enter Tryd.func52, Tryd.ntmps52
  go_wp2_with fail
  go_loopw [9] (fun i wr => wr = w ∧ ∃ k : Nat, k ≤ l.length ∧ i = .int .i64 k ∧ Hid (∀ j, j < k → okO (nth l j) = true)) (fun i _ => l.length - (intOf i).toNat)
  case atStart => exact ⟨rfl, 0, Nat.zero_le _, rfl, Lib.hid (fun j hj => by omega)⟩
  case round =>
    obtain ⟨rfl, k, hk, rfl, hs⟩ := hrel
    by_cases hlt : k < l.length
    · obtain ⟨x, rfl, hb, cx⟩ := h k hlt
      cases hz : okO (nth l k)
      · have hz' : inb (nth l k) 0 1000 = false := hz
        go_wp2_with fail
        refine (fix.specIn _ _ _ _).mono ?_
        rintro e w' ⟨rfl, rfl⟩
        go_wp2_with fail
        go_ret
        exact ⟨by unfold okL; rw [all_not l k hlt hz]; simp, rfl⟩
      · have hz' : inb (nth l k) 0 1000 = true := hz
        go_wp2_with fail
        refine (fix.specIn _ _ _ _).mono ?_
        rintro e w' ⟨rfl, rfl⟩
        go_wp2_with fail
        go_roundw
        case rel => exact ⟨trivial, k + 1, by omega, by go_num, Lib.hid (fun j hj => by
          by_cases e : j = k
          · subst e; exact hz
          · exact hs.out j (by omega))⟩
        case measure => simp [intOf]; omega
    · obtain rfl : k = l.length := by omega
      go_wp2_with fail
      go_ret
      refine ⟨?_, rfl⟩
      unfold okL
      rw [all_of hs.out, Bool.and_true]
      have e : decide ((l.length : Int) = 6) = decide (l.length = 6) := by simp; omega
      rw [← e]
      first | rfl | simp

theorem specWeights_at {k : Nat} (hk : k < 6) (w : World) : Calls Tryd.prog 24 #[.int .i64 (k : Int)] w (fun e w' => e = .returned (.tuple #[.int .i64 (tR k), .int .i64 (tP k)]) ∧ w.grownBy w' none) := by
  have := specWeightsOf (k : Int) w
  unfold RetW at this
  rw [wR_nat hk, wP_nat hk] at this
  exact this

set_option maxRecDepth 100000 in
set_option maxHeartbeats 8000000 in
theorem specReached (a : Option Addr) (cap : Nat) (l : List Int) (w : World) (h : Ints w a l) (hl : l.length ≤ maxLen) : Calls Tryd.prog 25 #[.slice a l.length cap] w (RetRe l w) := by
  have A0 := (Has.fresh w 25 #[.int .i64 0, .int .i64 0, .int .i64 0]).alloc (Obj.cells #[.int .i64 0, .int .i64 0, .int .i64 0] 25)
  have B0 := Has.fresh (w.alloc (Obj.cells #[.int .i64 0, .int .i64 0, .int .i64 0] 25)) 25 #[.int .i64 0, .int .i64 0, .int .i64 0]
  have g0 := gr_alloc (World.grownBy_alloc w (Obj.cells #[.int .i64 0, .int .i64 0, .int .i64 0] 25) none) (Obj.cells #[.int .i64 0, .int .i64 0, .int .i64 0] 25)
  simp only [World.size_alloc] at B0
  have cA := specAll a cap l
  obtain ⟨o, ho⟩ : ∃ o, okL l = o := ⟨_, rfl⟩
  rw [ho] at cA
  cases o
  · have hn := re_no ho
    unfold RetRe
    rw [hn.1, hn.2.1, hn.2.2]
    clear hn ho
    go_enter Tryd.func25, Tryd.ntmps25
    go_wp2_with fail
    refine (cA _ (h.kept g0) hl).mono ?_
    rintro e w' ⟨rfl, rfl⟩
    clear cA
    obtain ⟨a0, a1, a2, f0, f1, f2⟩ := three A0
    obtain ⟨b0, b1, b2, e0, e1, e2⟩ := three B0
    go_wp2_with fail
    exact bodyPost_ret (v := dem 0 0 0) (by simp [results, Tryd.results25, go_sem, a0, a1, a2]) rfl ⟨rfl, g0⟩
  · have hy := re_yes ho
    have hlen : l.length = 6 := by unfold okL at ho; simp at ho; exact ho.1
    have hall : ∀ j, j < 6 → okO (nth l j) = true := fun j hj => by
      unfold okL at ho; simp only [Bool.and_eq_true] at ho
      exact all_at ho.2 (by omega)
    have HY := Lib.hid hy
    have H6 := Lib.hid hlen
    have HA := Lib.hid hall
    clear hy ho hlen hall
    go_enter Tryd.func25, Tryd.ntmps25
    go_wp2_with fail
    refine (cA _ (h.kept g0) hl).mono ?_
    rintro e w' ⟨rfl, rfl⟩
    clear cA
    go_wp2_with fail
    have hm : l.length ≤ 9223372036854775807 := by unfold maxLen at hl; exact hl
    clear hl
    go_loopw [4] (fun i wr => ∃ (k : Nat) (X Y Z : Int), k ≤ 6 ∧ i = .int .i64 (k : Int) ∧ Hid (X = psum (gL l) k) ∧ Hid (Y = psum (gR l) k) ∧ Hid (Z = psum (gP l) k) ∧ Has wr w.heap.size 25 #[.int .i64 0, .int .i64 0, .int .i64 0] ∧ Has wr (w.heap.size + 1) 25 #[.int .i64 X, .int .i64 Y, .int .i64 Z] ∧ w.grownBy wr none) (fun i _ => 6 - (intOf i).toNat)
    case atStart => exact ⟨0, 0, 0, 0, Nat.zero_le _, rfl, Lib.hid rfl, Lib.hid rfl, Lib.hid rfl, A0, B0, g0⟩
    case round =>
      clear A0 B0 g0
      obtain ⟨k, X, Y, Z, hk, rfl, hX, hY, hZ, A0, B0, g0⟩ := hrel
      by_cases hlt : k < 6
      · have hd : decide ((k : Int) < 6) = true := by simp; omega
        have hkl : k < l.length := by have := H6.out; omega
        have hu := HA.out k hlt
        have bO := ok_at hu
        have p1 := gR_in hlt hu
        have p2 := gP_in hlt hu
        have qX := psum_bd hk (fun j hj => gL_in (HA.out j (by omega)))
        have qY := psum_bd hk (fun j hj => gR_in (by omega) (HA.out j (by omega)))
        have qZ := psum_bd hk (fun j hj => gP_in (by omega) (HA.out j (by omega)))
        rw [← hX.out] at qX
        rw [← hY.out] at qY
        rw [← hZ.out] at qZ
        unfold gR at p1
        unfold gP at p2
        clear hu
        go_wp2_with fail
        refine (specWeights_at hlt _).mono ?_
        rintro e w2 ⟨rfl, g1⟩
        replace A0 := A0.grown g1 (by simp)
        replace B0 := B0.grown g1 (by simp)
        replace g0 := gr_trans g0 g1
        clear g1
        have hk5 : (k : Int) < 6 := by omega
        go_wp2_with fail
        obtain ⟨b0, b1, b2, _, _, _⟩ := three B0
        obtain ⟨x, rfl, hb, cx⟩ := (h.kept g0) k hkl
        have q1 : ∀ d os, (Go.Sort.grow (redrawn w2 d) os).cell? ⟨w.heap.size + 1, 0, none⟩ = some (.int .i64 X) := cell_regrown b0
        have q3 : ∀ d os, (Go.Sort.grow (redrawn w2 d) os).cell? (x.add k) = some (.int .i64 (nth l k)) := cell_regrown cx
        have W2 : IntKind.i64.wrap (X + nth l k) = X + nth l k := IntWalk.i64_in _ (by omega)
        refine region_below_tail 8 (by kernel_rfl) (by kernel_rfl) ?_
        simp only [List.take_succ_cons, List.take_zero, List.drop_succ_cons, List.drop_zero]
        repeat (quiet_step (fail))
        refine wpQuiet_nil ?_
        intro _ hw'
        obtain ⟨⟨dq, osq⟩, hw''⟩ := hw'
        subst hw''
        have gq := gr_rg w2 dq osq
        replace A0 := A0.grown gq (by simp)
        replace B0 := B0.grown gq (by simp)
        replace g0 := gr_trans g0 gq
        clear gq q1 q3 b0 b1 b2 cx hb
        generalize Go.Sort.grow (redrawn w2 dq) osq = w3 at *
        obtain ⟨b0, b1, b2, f0, f1, f2⟩ := three B0
        go_wp2_with fail
        replace A0 := A0.set_other (g' := w.heap.size + 1) (by omega) 0 (.int .i64 (X + nth l k))
        replace B0 := B0.put 0 (.int .i64 (X + nth l k)) rfl
        replace g0 := gr_new g0 (g := w.heap.size + 1) (by omega) 0 (.int .i64 (X + nth l k))
        clear b0 b1 b2 f0 f1 f2 W2
        generalize w3.setCell ⟨w.heap.size + 1, 0, none⟩ (.int .i64 (X + nth l k)) = w2 at *
        obtain ⟨b0, b1, b2, _, _, _⟩ := three B0
        obtain ⟨y, ey, hb, cx⟩ := (h.kept g0) k hkl
        obtain rfl := Option.some.inj ey
        have q1 : ∀ d os, (Go.Sort.grow (redrawn w2 d) os).cell? ⟨w.heap.size + 1, 1, none⟩ = some (.int .i64 Y) := cell_regrown b1
        have q3 : ∀ d os, (Go.Sort.grow (redrawn w2 d) os).cell? (x.add k) = some (.int .i64 (nth l k)) := cell_regrown cx
        have W1 : IntKind.i64.wrap (tR k * nth l k) = tR k * nth l k := IntWalk.i64_in _ (by omega)
        have W2 : IntKind.i64.wrap (Y + tR k * nth l k) = Y + tR k * nth l k := IntWalk.i64_in _ (by omega)
        refine region_below_tail 10 (by kernel_rfl) (by kernel_rfl) ?_
        simp only [List.take_succ_cons, List.take_zero, List.drop_succ_cons, List.drop_zero]
        repeat (quiet_step (fail))
        refine wpQuiet_nil ?_
        intro _ hw'
        obtain ⟨⟨dq, osq⟩, hw''⟩ := hw'
        subst hw''
        have gq := gr_rg w2 dq osq
        replace A0 := A0.grown gq (by simp)
        replace B0 := B0.grown gq (by simp)
        replace g0 := gr_trans g0 gq
        clear gq q1 q3 b0 b1 b2 cx hb
        generalize Go.Sort.grow (redrawn w2 dq) osq = w3 at *
        obtain ⟨b0, b1, b2, f0, f1, f2⟩ := three B0
        go_wp2_with fail
        replace A0 := A0.set_other (g' := w.heap.size + 1) (by omega) 1 (.int .i64 (Y + tR k * nth l k))
        replace B0 := B0.put 1 (.int .i64 (Y + tR k * nth l k)) rfl
        replace g0 := gr_new g0 (g := w.heap.size + 1) (by omega) 1 (.int .i64 (Y + tR k * nth l k))
        clear b0 b1 b2 f0 f1 f2 W2 W1
        generalize w3.setCell ⟨w.heap.size + 1, 1, none⟩ (.int .i64 (Y + tR k * nth l k)) = w2 at *
        obtain ⟨b0, b1, b2, _, _, _⟩ := three B0
        obtain ⟨y, ey, hb, cx⟩ := (h.kept g0) k hkl
        obtain rfl := Option.some.inj ey
        have q1 : ∀ d os, (Go.Sort.grow (redrawn w2 d) os).cell? ⟨w.heap.size + 1, 2, none⟩ = some (.int .i64 Z) := cell_regrown b2
        have q3 : ∀ d os, (Go.Sort.grow (redrawn w2 d) os).cell? (x.add k) = some (.int .i64 (nth l k)) := cell_regrown cx
        have W1 : IntKind.i64.wrap (tP k * nth l k) = tP k * nth l k := IntWalk.i64_in _ (by omega)
        have W2 : IntKind.i64.wrap (Z + tP k * nth l k) = Z + tP k * nth l k := IntWalk.i64_in _ (by omega)
        refine region_below_tail 10 (by kernel_rfl) (by kernel_rfl) ?_
        simp only [List.take_succ_cons, List.take_zero, List.drop_succ_cons, List.drop_zero]
        repeat (quiet_step (fail))
        refine wpQuiet_nil ?_
        intro _ hw'
        obtain ⟨⟨dq, osq⟩, hw''⟩ := hw'
        subst hw''
        have gq := gr_rg w2 dq osq
        replace A0 := A0.grown gq (by simp)
        replace B0 := B0.grown gq (by simp)
        replace g0 := gr_trans g0 gq
        clear gq q1 q3 b0 b1 b2 cx hb
        generalize Go.Sort.grow (redrawn w2 dq) osq = w3 at *
        obtain ⟨b0, b1, b2, f0, f1, f2⟩ := three B0
        go_wp2_with fail
        replace A0 := A0.set_other (g' := w.heap.size + 1) (by omega) 2 (.int .i64 (Z + tP k * nth l k))
        replace B0 := B0.put 2 (.int .i64 (Z + tP k * nth l k)) rfl
        replace g0 := gr_new g0 (g := w.heap.size + 1) (by omega) 2 (.int .i64 (Z + tP k * nth l k))
        go_roundw
        case rel => exact ⟨k + 1, X + nth l k, Y + tR k * nth l k, Z + tP k * nth l k, by omega, by go_num, Lib.hid (by rw [hX.out]; rfl), Lib.hid (by rw [hY.out]; rfl), Lib.hid (by rw [hZ.out]; rfl), A0, B0, g0⟩
        case measure => simp [intOf]; omega
      · obtain rfl : k = 6 := by omega
        have hE := Lib.hid (show Ending.returned (dem X Y Z) = Ending.returned (dem (reL l) (reR l) (reP l)) by rw [HY.out.1, HY.out.2.1, HY.out.2.2, ← hX.out, ← hY.out, ← hZ.out])
        obtain ⟨a0, a1, a2, f0, f1, f2⟩ := three A0
        obtain ⟨b0, b1, b2, e0, e1, e2⟩ := three B0
        go_wp2_with fail
        obtain ⟨k0, k1, k2, _, _, _⟩ := three (set3 A0 (.int .i64 X) (.int .i64 Y) (.int .i64 Z))
        exact bodyPost_ret (v := dem X Y Z) (by simp [results, Tryd.results25, go_sem, k0, k1, k2]) rfl ⟨hE.out, gr_new (gr_new (gr_new g0 (Nat.le_refl _) _ _) (Nat.le_refl _) _ _) (Nat.le_refl _) _ _⟩
end Go.Proofs.YtekglhikojondaaDoor.sh
