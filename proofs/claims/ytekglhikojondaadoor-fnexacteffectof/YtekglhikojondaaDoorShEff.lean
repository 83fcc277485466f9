/- EffectOf of the program. -/
import Derived.Test.YtekglhikojondaaDoorShImpl
import Derived.Deep.DeepCutAuto
namespace Go.Proofs.YtekglhikojondaaDoor.sh
open Go.ChangeShapes Go.WideShapes Go.ChangeAt Go.RowKit
open Go.Proofs.YtekglhikojondaaDoor.nums Go.Proofs.YtekglhikojondaaDoor.mem
open Go.Proofs.YtekglhikojondaaDoor.tab (Ret quiet_w wpList_make_has)
open Go.Proofs.YtekglhikojondaaDoor.qt (region_below_tail rg_ret rg_same gr_rg)
open Go.Proofs.YtekglhikojondaaDoor.il (nth Own RetI blk blk_some infoInt)
set_option linter.unusedVariables false

def rr (k : Nat) : Int := tR k * tR k
def rp (k : Nat) : Int := tR k * tP k
def pp (k : Nat) : Int := tP k * tP k
def st (S : Nat → Bool) (g : Nat → Int) (k : Nat) : Int := if S k then g k else 0
/-- Of those in S, together. -/
def sumOn (S : Nat → Bool) (g : Nat → Int) : Int := st S g 0 + st S g 1 + st S g 2 + st S g 3 + st S g 4 + st S g 5
theorem sum_congr {S S' : Nat → Bool} {g : Nat → Int} (h : ∀ k, k < 6 → S k = S' k) : sumOn S g = sumOn S' g := by
  unfold sumOn st; rw [h 0 (by omega), h 1 (by omega), h 2 (by omega), h 3 (by omega), h 4 (by omega), h 5 (by omega)]
theorem sum_step {S L : Nat → Bool} {g : Nat → Int} {k : Nat} (hk : k < 6) (hS : S k = true) (hL : L k = true) : sumOn (done S (out L k)) g = sumOn (done S L) g + g k := by
  have e : ∀ j, st (done S (out L k)) g j = if j = k then g k else st (done S L) g j := by
    intro j
    unfold st done out
    by_cases h : j = k
    · subst h; simp [hS]
    · simp [h]
  have e0 : st (done S L) g k = 0 := by unfold st done; simp [hL]
  unfold sumOn
  rw [e 0, e 1, e 2, e 3, e 4, e 5]
  rcases six hk with rfl | rfl | rfl | rfl | rfl | rfl <;> simp <;> omega
theorem st_in {S : Nat → Bool} {g : Nat → Int} {B : Int} (hB : 0 ≤ B) {k : Nat} (h : -B ≤ g k ∧ g k ≤ B) : -B ≤ st S g k ∧ st S g k ≤ B := by unfold st; split <;> omega
theorem sum_in {S : Nat → Bool} {g : Nat → Int} {B : Int} (hB : 0 ≤ B) (h : ∀ k, k < 6 → -B ≤ g k ∧ g k ≤ B) : -(6 * B) ≤ sumOn S g ∧ sumOn S g ≤ 6 * B := by
  have h0 := st_in (S := S) hB (h 0 (by omega)); have h1 := st_in (S := S) hB (h 1 (by omega)); have h2 := st_in (S := S) hB (h 2 (by omega))
  have h3 := st_in (S := S) hB (h 3 (by omega)); have h4 := st_in (S := S) hB (h 4 (by omega)); have h5 := st_in (S := S) hB (h 5 (by omega))
  unfold sumOn; omega
theorem rr_in {k : Nat} (h : k < 6) : -4 ≤ rr k ∧ rr k ≤ 4 := by rcases six h with rfl | rfl | rfl | rfl | rfl | rfl <;> decide
theorem rp_in {k : Nat} (h : k < 6) : -4 ≤ rp k ∧ rp k ≤ 4 := by rcases six h with rfl | rfl | rfl | rfl | rfl | rfl <;> decide
theorem pp_in {k : Nat} (h : k < 6) : -4 ≤ pp k ∧ pp k ≤ 4 := by rcases six h with rfl | rfl | rfl | rfl | rfl | rfl <;> decide
/-- How those that stay on weigh. -/
def effect4 (c : Int) : List Int := [(cnt6 (on c) : Int), sumOn (on c) rr, sumOn (on c) rp, sumOn (on c) pp]
def effect (c : Int) : List Int := if cas.caseOk c = true then effect4 c else []
theorem effect_yes {c : Int} (h : cas.caseOk c = true) : effect c = effect4 c := if_pos h
theorem effect_no {c : Int} (h : cas.caseOk c = false) : effect c = [] := if_neg (by rw [h]; simp)
theorem four {w : World} {g : Nat} {t : TypeId} {a b c d : Value} (h : Has w g t #[a, b, c, d]) : w.cell? ⟨g, 0, none⟩ = some a ∧ w.cell? ⟨g, 1, none⟩ = some b ∧ w.cell? ⟨g, 2, none⟩ = some c ∧ w.cell? ⟨g, 3, none⟩ = some d ∧ w.frozen? ⟨g, 0, none⟩ = false ∧ w.frozen? ⟨g, 1, none⟩ = false ∧ w.frozen? ⟨g, 2, none⟩ = false ∧ w.frozen? ⟨g, 3, none⟩ = false :=
  ⟨h.cell 0, h.cell 1, h.cell 2, h.cell 3, h.frozen 0, h.frozen 1, h.frozen 2, h.frozen 3⟩
/-- Four numbers in a block are a list. -/
theorem own4 {w : World} {g : Nat} {a b c d : Int} (h : Has w g 2 #[.int .i64 a, .int .i64 b, .int .i64 c, .int .i64 d]) : Own w (some ⟨g, 0, none⟩) [a, b, c, d] :=
  Or.inr ⟨g, 0, _, rfl, h, fun k hk => by
    have hk' : k = 0 ∨ k = 1 ∨ k = 2 ∨ k = 3 := by simp at hk; omega
    rcases hk' with rfl | rfl | rfl | rfl <;> rfl⟩

set_option maxRecDepth 100000 in
set_option maxHeartbeats 8000000 in
theorem implEffectOf (c : Int) (w : World) (hw : Wts w) : Calls Tryd.prog 12 #[.int .i64 c] w (RetI (effect c) w) := by
  have cC := cas.implCaseOk c
  obtain ⟨x, hx⟩ : ∃ x, cas.caseOk c = x := ⟨_, rfl⟩
  rw [hx] at cC
  cases x
  · rw [effect_no hx]
    go_enter Tryd.func12, Tryd.ntmps12
    go_wp2_with fail
    refine (cC _).mono ?_
    rintro e w' ⟨rfl, rfl⟩
    go_wp2_with fail
    go_ret
    exact ⟨none, 0, rfl, gr_refl _ _, Or.inl rfl, fun b h => by rw [il.blk_nil] at h; cases h⟩
  rw [effect_yes hx]
  clear hx
  have cW := fun W h => implWeightsIn c W h
  unfold effect4
  generalize on c = S at *
  obtain ⟨V1, hV1⟩ : ∃ v, v = sumOn S rr := ⟨_, rfl⟩
  obtain ⟨V2, hV2⟩ : ∃ v, v = sumOn S rp := ⟨_, rfl⟩
  obtain ⟨V3, hV3⟩ : ∃ v, v = sumOn S pp := ⟨_, rfl⟩
  rw [← hV1, ← hV2, ← hV3]
  replace hV1 := Lib.hid hV1
  replace hV2 := Lib.hid hV2
  replace hV3 := Lib.hid hV3
  obtain ⟨n, hn⟩ : ∃ n, n = cnt6 S := ⟨_, rfl⟩
  rw [← hn]
  replace hn := Lib.hid hn
  go_enter Tryd.func12, Tryd.ntmps12
  go_wp2_with fail
  refine (cC _).mono ?_
  rintro e w' ⟨rfl, rfl⟩
  clear cC
  go_wp2_with fail
  refine (cW _ hw).mono ?_
  rintro e w1 ⟨b, rfl, hb, g0, hs⟩
  have hw0 := hw.1
  clear hw cW
  go_upto_region 5 with (at_len; refine wpList_count _ rfl _ rfl b S rfl hs ?_; rw [← hn.out])
  have H0 := Has.fresh w1 2 #[.int .i64 (n : Int), .int .i64 0, .int .i64 0, .int .i64 0]
  replace hs := hs.kept (World.grownBy_alloc w1 (Obj.cells #[.int .i64 (n : Int), .int .i64 0, .int .i64 0, .int .i64 0] 2) none) (by simp)
  have hB : w.heap.size ≤ w1.heap.size := g0.size
  replace g0 := gr_alloc g0 (Obj.cells #[.int .i64 (n : Int), .int .i64 0, .int .i64 0, .int .i64 0] 2)
  generalize w1.alloc (Obj.cells #[.int .i64 (n : Int), .int .i64 0, .int .i64 0, .int .i64 0] 2) = w2 at *
  generalize w1.heap.size = B at *
  have hq : w.heap.size ≤ w2.heap.size := g0.size
  go_wp2_with (at_range; refine wpList_go _ rfl _ rfl b S rfl hs ?_; intro w3 cnt hgo g3 hs3)
  replace H0 := H0.grown g3 (by simp)
  replace g0 := gr_trans g0 g3
  clear hs hs3 g3
  generalize w2.heap.size = q at *
  go_frame
  go_loopw [16] (fun _ wr => ∃ (cnt : Nat) (L : Nat → Bool) (X Y Z : Int), Hid (X = sumOn (done S L) rr) ∧ Hid (Y = sumOn (done S L) rp) ∧ Hid (Z = sumOn (done S L) pp) ∧ Going wr b q S L cnt ∧ Has wr B 2 #[.int .i64 (n : Int), .int .i64 X, .int .i64 Y, .int .i64 Z] ∧ w.grownBy wr none) (fun _ wr => wr.rangeLeft b q)
  case atStart =>
    have e : ∀ g, (0 : Int) = sumOn (done S S) g := fun g => by rw [sum_congr (S' := fun _ => false) (fun k hk => by unfold done; cases S k <;> rfl)]; rfl
    exact ⟨cnt, S, 0, 0, 0, Lib.hid (e _), Lib.hid (e _), Lib.hid (e _), hgo, H0, g0⟩
  case round =>
    clear hgo H0 g0 cnt w3
    obtain ⟨cnt, L, X, Y, Z, hX, hY, hZ, hgo, H0, g0⟩ := hrel
    go_wp2_with (at_next; refine wpList_step _ rfl _ rfl b q cnt S L rfl hgo ?_ ?_)
    · intro hall
      have e : ∀ g, sumOn (done S L) g = sumOn S g := fun g => sum_congr (fun k hk => by unfold done; rw [hall k hk]; simp)
      obtain rfl : X = V1 := by rw [hX.out, hV1.out, e]
      obtain rfl : Y = V2 := by rw [hY.out, hV2.out, e]
      obtain rfl : Z = V3 := by rw [hZ.out, hV3.out, e]
      clear e hall hgo
      go_wp2_with fail
      go_ret
      exact ⟨_, 4, rfl, g0, own4 H0, fun x e => by rw [blk_some (by simp)] at e; injection e with e; omega⟩
    · intro k w1 cnt1 hk hLk hS hgo1 hlt hg1 hs1 hen
      have bX := sum_in (S := done S L) (by omega) (fun j hj => rr_in hj)
      have bY := sum_in (S := done S L) (by omega) (fun j hj => rp_in hj)
      have bZ := sum_in (S := done S L) (by omega) (fun j hj => pp_in hj)
      rw [← hX.out] at bX
      rw [← hY.out] at bY
      rw [← hZ.out] at bZ
      have p1 : -4 ≤ tR k * tR k ∧ tR k * tR k ≤ 4 := rr_in hk
      have p2 : -4 ≤ tR k * tP k ∧ tR k * tP k ≤ 4 := rp_in hk
      have p3 : -4 ≤ tP k * tP k ∧ tP k * tP k ≤ 4 := pp_in hk
      have sX := Lib.hid (sum_step (g := rr) hk hS hLk)
      have sY := Lib.hid (sum_step (g := rp) hk hS hLk)
      have sZ := Lib.hid (sum_step (g := pp) hk hS hLk)
      have hl0 : wr.rangeLeft b q = cnt := hgo.left
      replace H0 := H0.grown hg1 (by intro e; injection e with e; exact hgo.ner H0 e.symm)
      replace g0 := gr_past g0 hg1 hq
      clear hg1 hs1 hgo
      have hB1 := H0.lt
      go_wp2_with fail
      have X0 := Has.fresh w1 57 #[.int .i64 (tR k), .int .i64 (tP k)]
      replace H0 := H0.alloc (Obj.cells #[.int .i64 (tR k), .int .i64 (tP k)] 57)
      replace hgo1 := hgo1.kept (World.grownBy_alloc w1 (Obj.cells #[.int .i64 (tR k), .int .i64 (tP k)] 57) none) (by simp) (by simp)
      replace g0 := gr_alloc g0 (Obj.cells #[.int .i64 (tR k), .int .i64 (tP k)] 57)
      have hne : w1.heap.size ≠ B := by omega
      clear hB1 hen
      generalize w1.alloc (Obj.cells #[.int .i64 (tR k), .int .i64 (tP k)] 57) = w2 at *
      generalize w1.heap.size = bx at *
      obtain ⟨b0, b1, b2, b3, _, _, _, _⟩ := four H0
      obtain ⟨x0, x1, _, _⟩ := two X0
      have q1 : ∀ d os, (Go.Sort.grow (redrawn w2 d) os).cell? ⟨B, 1, none⟩ = some (.int .i64 X) := cell_regrown b1
      have q3 : ∀ d os, (Go.Sort.grow (redrawn w2 d) os).cell? ⟨bx, 0, none⟩ = some (.int .i64 (tR k)) := cell_regrown x0
      have q4 : ∀ d os, (Go.Sort.grow (redrawn w2 d) os).cell? ⟨bx, 1, none⟩ = some (.int .i64 (tP k)) := cell_regrown x1
      have W1 : IntKind.i64.wrap (tR k * tR k) = tR k * tR k := IntWalk.i64_in _ (by omega)
      have W2 : IntKind.i64.wrap (X + tR k * tR k) = X + tR k * tR k := IntWalk.i64_in _ (by omega)
      refine region_below_tail 10 (by kernel_rfl) (by kernel_rfl) ?_
      simp only [List.take_succ_cons, List.take_zero, List.drop_succ_cons, List.drop_zero]
      repeat (quiet_step (fail))
      refine wpQuiet_nil ?_
      intro _ hw'
      obtain ⟨⟨dq, osq⟩, hw''⟩ := hw'
      subst hw''
      have gq := gr_rg w2 dq osq
      replace H0 := H0.grown gq (by simp)
      replace X0 := X0.grown gq (by simp)
      replace hgo1 := hgo1.kept gq (by simp) (by simp)
      replace g0 := gr_trans g0 gq
      clear gq q1 q3 q4 x0 x1 b0 b1 b2 b3
      generalize Go.Sort.grow (redrawn w2 dq) osq = w3 at *
      obtain ⟨b0, b1, b2, b3, f0, f1, f2, f3⟩ := four H0
      go_wp2_with fail
      have gs : w3.grownBy (w3.setCell ⟨B, 1, none⟩ (.int .i64 (X + tR k * tR k))) (some B) := gr_set (gr_refl _ _) _ _
      have nb := hgo1.set.ne H0
      have nr := hgo1.ner H0
      replace hgo1 := hgo1.kept gs (by intro e; injection e with e; exact nb e) (by intro e; injection e with e; exact nr e)
      replace H0 := H0.put 1 (.int .i64 (X + tR k * tR k)) rfl
      replace X0 := X0.set_other (g' := B) hne 1 (.int .i64 (X + tR k * tR k))
      replace g0 := gr_past g0 gs hB
      clear gs nb nr b0 b1 b2 b3 f0 f1 f2 f3 W1 W2
      generalize w3.setCell ⟨B, 1, none⟩ (.int .i64 (X + tR k * tR k)) = w2 at *
      obtain ⟨b0, b1, b2, b3, _, _, _, _⟩ := four H0
      obtain ⟨x0, x1, _, _⟩ := two X0
      have q1 : ∀ d os, (Go.Sort.grow (redrawn w2 d) os).cell? ⟨B, 2, none⟩ = some (.int .i64 Y) := cell_regrown b2
      have q3 : ∀ d os, (Go.Sort.grow (redrawn w2 d) os).cell? ⟨bx, 0, none⟩ = some (.int .i64 (tR k)) := cell_regrown x0
      have q4 : ∀ d os, (Go.Sort.grow (redrawn w2 d) os).cell? ⟨bx, 1, none⟩ = some (.int .i64 (tP k)) := cell_regrown x1
      have W1 : IntKind.i64.wrap (tR k * tP k) = tR k * tP k := IntWalk.i64_in _ (by omega)
      have W2 : IntKind.i64.wrap (Y + tR k * tP k) = Y + tR k * tP k := IntWalk.i64_in _ (by omega)
      refine region_below_tail 10 (by kernel_rfl) (by kernel_rfl) ?_
      simp only [List.take_succ_cons, List.take_zero, List.drop_succ_cons, List.drop_zero]
      repeat (quiet_step (fail))
      refine wpQuiet_nil ?_
      intro _ hw'
      obtain ⟨⟨dq, osq⟩, hw''⟩ := hw'
      subst hw''
      have gq := gr_rg w2 dq osq
      replace H0 := H0.grown gq (by simp)
      replace X0 := X0.grown gq (by simp)
      replace hgo1 := hgo1.kept gq (by simp) (by simp)
      replace g0 := gr_trans g0 gq
      clear gq q1 q3 q4 x0 x1 b0 b1 b2 b3
      generalize Go.Sort.grow (redrawn w2 dq) osq = w3 at *
      obtain ⟨b0, b1, b2, b3, f0, f1, f2, f3⟩ := four H0
      go_wp2_with fail
      have gs : w3.grownBy (w3.setCell ⟨B, 2, none⟩ (.int .i64 (Y + tR k * tP k))) (some B) := gr_set (gr_refl _ _) _ _
      have nb := hgo1.set.ne H0
      have nr := hgo1.ner H0
      replace hgo1 := hgo1.kept gs (by intro e; injection e with e; exact nb e) (by intro e; injection e with e; exact nr e)
      replace H0 := H0.put 2 (.int .i64 (Y + tR k * tP k)) rfl
      replace X0 := X0.set_other (g' := B) hne 2 (.int .i64 (Y + tR k * tP k))
      replace g0 := gr_past g0 gs hB
      clear gs nb nr b0 b1 b2 b3 f0 f1 f2 f3 W1 W2
      generalize w3.setCell ⟨B, 2, none⟩ (.int .i64 (Y + tR k * tP k)) = w2 at *
      obtain ⟨b0, b1, b2, b3, _, _, _, _⟩ := four H0
      obtain ⟨x0, x1, _, _⟩ := two X0
      have q1 : ∀ d os, (Go.Sort.grow (redrawn w2 d) os).cell? ⟨B, 3, none⟩ = some (.int .i64 Z) := cell_regrown b3
      have q3 : ∀ d os, (Go.Sort.grow (redrawn w2 d) os).cell? ⟨bx, 0, none⟩ = some (.int .i64 (tR k)) := cell_regrown x0
      have q4 : ∀ d os, (Go.Sort.grow (redrawn w2 d) os).cell? ⟨bx, 1, none⟩ = some (.int .i64 (tP k)) := cell_regrown x1
      have W1 : IntKind.i64.wrap (tP k * tP k) = tP k * tP k := IntWalk.i64_in _ (by omega)
      have W2 : IntKind.i64.wrap (Z + tP k * tP k) = Z + tP k * tP k := IntWalk.i64_in _ (by omega)
      refine region_below_tail 10 (by kernel_rfl) (by kernel_rfl) ?_
      simp only [List.take_succ_cons, List.take_zero, List.drop_succ_cons, List.drop_zero]
      repeat (quiet_step (fail))
      refine wpQuiet_nil ?_
      intro _ hw'
      obtain ⟨⟨dq, osq⟩, hw''⟩ := hw'
      subst hw''
      have gq := gr_rg w2 dq osq
      replace H0 := H0.grown gq (by simp)
      replace X0 := X0.grown gq (by simp)
      replace hgo1 := hgo1.kept gq (by simp) (by simp)
      replace g0 := gr_trans g0 gq
      clear gq q1 q3 q4 x0 x1 b0 b1 b2 b3
      generalize Go.Sort.grow (redrawn w2 dq) osq = w3 at *
      obtain ⟨b0, b1, b2, b3, f0, f1, f2, f3⟩ := four H0
      go_wp2_with fail
      have gs : w3.grownBy (w3.setCell ⟨B, 3, none⟩ (.int .i64 (Z + tP k * tP k))) (some B) := gr_set (gr_refl _ _) _ _
      have nb := hgo1.set.ne H0
      have nr := hgo1.ner H0
      replace hgo1 := hgo1.kept gs (by intro e; injection e with e; exact nb e) (by intro e; injection e with e; exact nr e)
      replace H0 := H0.put 3 (.int .i64 (Z + tP k * tP k)) rfl
      replace X0 := X0.set_other (g' := B) hne 3 (.int .i64 (Z + tP k * tP k))
      replace g0 := gr_past g0 gs hB
      clear gs nb nr b0 b1 b2 b3 f0 f1 f2 f3 W1 W2
      generalize w3.setCell ⟨B, 3, none⟩ (.int .i64 (Z + tP k * tP k)) = w2 at *
      go_roundw
      case rel => exact ⟨cnt1, _, X + tR k * tR k, Y + tR k * tP k, Z + tP k * tP k, Lib.hid (by rw [sX.out, ← hX.out]; rfl), Lib.hid (by rw [sY.out, ← hY.out]; rfl), Lib.hid (by rw [sZ.out, ← hZ.out]; rfl), hgo1, H0, g0⟩
      case measure => rw [hgo1.left, hl0]; exact hlt
end Go.Proofs.YtekglhikojondaaDoor.sh
