/- EffectOf of the model. -/
import Derived.Test.YtekglhikojondaaDoorShEff
import Derived.Test.YtekglhikojondaaDoorShRe
namespace Go.Proofs.YtekglhikojondaaDoor.sh
open Go.ChangeShapes Go.WideShapes Go.ChangeAt Go.RowKit
open Go.Proofs.YtekglhikojondaaDoor.nums Go.Proofs.YtekglhikojondaaDoor.mem
open Go.Proofs.YtekglhikojondaaDoor.tab (Ret quiet_w)
open Go.Proofs.YtekglhikojondaaDoor.il (nth Own RetI blk blk_some infoInt)
set_option linter.unusedVariables false

theorem stays_at {c : Int} {i : Nat} (h : i < (cas.staysIn c).length) : ∃ f : Nat, f < 6 ∧ nth (cas.staysIn c) i = (f : Int) ∧ on c f = true := by
  have hm := il.nth_mem h
  unfold cas.staysIn cas.staysTo at hm
  obtain ⟨f, hf, e⟩ := List.mem_map.1 hm
  obtain ⟨h1, h2⟩ := List.mem_filter.1 hf
  refine ⟨f, List.mem_range.1 h1, ?_, h2⟩
  exact e.symm
theorem stays_of {c : Int} {f : Nat} (hf : f < 6) (h : on c f = true) : ∃ i, i < (cas.staysIn c).length ∧ nth (cas.staysIn c) i = (f : Int) := by
  have hm : (f : Int) ∈ cas.staysIn c := List.mem_map.2 ⟨f, List.mem_filter.2 ⟨List.mem_range.2 hf, h⟩, rfl⟩
  obtain ⟨i, hi, e⟩ := List.getElem_of_mem hm
  exact ⟨i, hi, by rw [il.nth_lt hi, e]⟩
def onL (c : Int) (g : Nat → Int) (j : Nat) : Int := g (nth (cas.staysIn c) j).toNat
theorem eight {c : Int} (h : cas.caseOk c = true) : c = 0 ∨ c = 1 ∨ c = 2 ∨ c = 3 ∨ c = 4 ∨ c = 5 ∨ c = 6 ∨ c = 7 := by
  unfold cas.caseOk inb at h; simp at h; omega
theorem sum_rr {c : Int} (h : cas.caseOk c = true) : psum (onL c rr) (cas.staysIn c).length = sumOn (on c) rr := by
  rcases eight h with rfl | rfl | rfl | rfl | rfl | rfl | rfl | rfl <;> decide
theorem sum_rp {c : Int} (h : cas.caseOk c = true) : psum (onL c rp) (cas.staysIn c).length = sumOn (on c) rp := by
  rcases eight h with rfl | rfl | rfl | rfl | rfl | rfl | rfl | rfl <;> decide
theorem sum_pp {c : Int} (h : cas.caseOk c = true) : psum (onL c pp) (cas.staysIn c).length = sumOn (on c) pp := by
  rcases eight h with rfl | rfl | rfl | rfl | rfl | rfl | rfl | rfl <;> decide
theorem len_cnt {c : Int} (h : cas.caseOk c = true) : (cas.staysIn c).length = cnt6 (on c) := by
  rcases eight h with rfl | rfl | rfl | rfl | rfl | rfl | rfl | rfl <;> decide
theorem set4 {w : World} {g : Nat} {t : TypeId} {a b c d : Value} (h : Has w g t #[a, b, c, d]) (a' b' c' d' : Value) : Has ((((w.setCell ⟨g, 0, none⟩ a').setCell ⟨g, 1, none⟩ b').setCell ⟨g, 2, none⟩ c').setCell ⟨g, 3, none⟩ d') g t #[a', b', c', d'] := (((h.put 0 a' rfl).put 1 b' rfl).put 2 c' rfl).put 3 d' rfl
theorem psum4 {g : Nat → Int} {k : Nat} (hk : k ≤ 6) (h : ∀ j, j < k → -4 ≤ g j ∧ g j ≤ 4) : -24 ≤ psum g k ∧ psum g k ≤ 24 := by
  have := psum_in k h
  omega

set_option maxRecDepth 100000 in
set_option maxHeartbeats 8000000 in
theorem specEffectOf (c : Int) (w : World) : Calls Tryd.prog 15 #[.int .i64 c] w (RetI (effect c) w) := by
  have cC := cas.specCaseOk c
  obtain ⟨x, hx⟩ : ∃ x, cas.caseOk c = x := ⟨_, rfl⟩
  rw [hx] at cC
  cases x
  · rw [effect_no hx]
    go_enter Tryd.func15, Tryd.ntmps15
    go_wp2_with fail
    refine (cC _).mono ?_
    rintro e w' ⟨rfl, rfl⟩
    go_wp2_with fail
    go_ret
    exact ⟨_, _, rfl, World.grownBy_alloc _ _ _, Or.inl rfl, fun b h => by rw [il.blk_nil] at h; cases h⟩
  have eN := Lib.hid (len_cnt hx)
  have e1 := Lib.hid (sum_rr hx)
  have e2 := Lib.hid (sum_rp hx)
  have e3 := Lib.hid (sum_pp hx)
  rw [effect_yes hx]
  clear hx
  have cS := fun W => cas.specStaysIn c W
  have hL6 : (cas.staysIn c).length ≤ 6 := cas.in_len c
  have hat := Lib.hid (fun i => @stays_at c i)
  obtain ⟨E, hE⟩ : ∃ E, E = effect4 c := ⟨_, rfl⟩
  rw [← hE]
  replace hE := Lib.hid hE
  obtain ⟨L, hL⟩ : ∃ L, L = cas.staysIn c := ⟨_, rfl⟩
  rw [← hL] at cS hL6
  replace hL := Lib.hid hL
  go_enter Tryd.func15, Tryd.ntmps15
  go_wp2_with fail
  refine (cC _).mono ?_
  rintro e w' ⟨rfl, rfl⟩
  clear cC
  have H0 := Has.fresh w 2 #[.int .i64 0, .int .i64 0, .int .i64 0, .int .i64 0]
  have g0 := World.grownBy_alloc w (Obj.cells #[.int .i64 0, .int .i64 0, .int .i64 0, .int .i64 0] 2) none
  go_wp2_with fail
  refine (cS _).mono ?_
  rintro e w1 ⟨a, cap, rfl, g1, o1, hab⟩
  replace hab : ∀ x : Addr, a = some x → L ≠ [] → w.heap.size + 1 ≤ x.block := fun x e h0 => by
    have := hab x.block (by subst e; unfold blk; rw [if_neg h0]; rfl)
    simpa using this
  clear cS
  replace H0 := H0.grown g1 (by simp)
  have o2 := o1.ints
  replace g0 := gr_trans g0 g1
  clear g1 o1
  go_wp2_with fail
  go_loopw [5] (fun i wr => ∃ (k : Nat) (X Y Z : Int), k ≤ L.length ∧ i = .int .i64 (k : Int) ∧ Hid (X = psum (onL c rr) k) ∧ Hid (Y = psum (onL c rp) k) ∧ Hid (Z = psum (onL c pp) k) ∧ Has wr w.heap.size 2 #[.int .i64 (k : Int), .int .i64 X, .int .i64 Y, .int .i64 Z] ∧ il.Ints wr a L ∧ w.grownBy wr none) (fun i _ => L.length - (intOf i).toNat)
  case atStart => exact ⟨0, 0, 0, 0, Nat.zero_le _, rfl, Lib.hid rfl, Lib.hid rfl, Lib.hid rfl, H0, o2, g0⟩
  case round =>
    clear H0 o2 g0
    obtain ⟨k, X, Y, Z, hk, rfl, hX, hY, hZ, H0, o2, g0⟩ := hrel
    by_cases hlt : k < L.length
    · obtain ⟨x, rfl, hb, cx⟩ := o2 k hlt
      obtain ⟨f, hf, hn, hon⟩ := hat.out k (by rw [← hL.out]; exact hlt)
      rw [← hL.out] at hn
      rw [hn] at cx
      have hL0 : onL c rr k = rr f ∧ onL c rp k = rp f ∧ onL c pp k = pp f := by unfold onL; rw [← hL.out, hn]; exact ⟨rfl, rfl, rfl⟩
      have HN := Lib.hid hL0
      clear hn hL0 hon
      have hB : ∀ j, j < k → ∃ f' : Nat, f' < 6 ∧ nth L j = (f' : Int) := fun j hj => by
        obtain ⟨f', h1, h2, _⟩ := hat.out j (by rw [← hL.out]; omega)
        exact ⟨f', h1, by rw [hL.out]; exact h2⟩
      have qX := psum4 (g := onL c rr) (k := k) (by omega) (fun j hj => by obtain ⟨f', h1, h2⟩ := hB j hj; unfold onL; rw [← hL.out, h2]; exact rr_in h1)
      have qY := psum4 (g := onL c rp) (k := k) (by omega) (fun j hj => by obtain ⟨f', h1, h2⟩ := hB j hj; unfold onL; rw [← hL.out, h2]; exact rp_in h1)
      have qZ := psum4 (g := onL c pp) (k := k) (by omega) (fun j hj => by obtain ⟨f', h1, h2⟩ := hB j hj; unfold onL; rw [← hL.out, h2]; exact pp_in h1)
      rw [← hX.out] at qX
      rw [← hY.out] at qY
      rw [← hZ.out] at qZ
      clear hB
      have p1 : -4 ≤ tR f * tR f ∧ tR f * tR f ≤ 4 := rr_in hf
      have p2 : -4 ≤ tR f * tP f ∧ tR f * tP f ≤ 4 := rp_in hf
      have p3 : -4 ≤ tP f * tP f ∧ tP f * tP f ≤ 4 := pp_in hf
      go_wp2_with fail
      refine (specWeights_at hf _).mono ?_
      rintro e w2 ⟨rfl, g1⟩
      replace H0 := H0.grown g1 (by simp)
      replace o2 := o2.kept g1
      replace g0 := gr_trans g0 g1
      clear g1 cx hb
      obtain ⟨b0, b1, b2, b3, f0, f1, f2, f3⟩ := four H0
      have hxb : w.heap.size ≠ x.block := by have := hab x rfl (by intro e; rw [e] at hlt; simp at hlt); omega
      go_wp2_with fail
      go_roundw
      case rel => exact ⟨k + 1, X + tR f * tR f, Y + tR f * tP f, Z + tP f * tP f, by omega, by go_num, Lib.hid (by rw [hX.out]; show _ = psum (onL c rr) k + onL c rr k; rw [HN.out.1]; rfl), Lib.hid (by rw [hY.out]; show _ = psum (onL c rp) k + onL c rp k; rw [HN.out.2.1]; rfl), Lib.hid (by rw [hZ.out]; show _ = psum (onL c pp) k + onL c pp k; rw [HN.out.2.2]; rfl),
        by rw [show ((k + 1 : Nat) : Int) = (k : Int) + 1 by simp]; exact set4 H0 _ _ _ _,
        o2.grown (gr_set (gr_set (gr_set (gr_set (gr_refl _ (some w.heap.size)) _ _) _ _) _ _) _ _) (fun y e e2 => by injection e with e; injection e2 with e2; subst e; exact hxb e2.symm),
        gr_new (gr_new (gr_new (gr_new g0 (Nat.le_refl _) _ _) (Nat.le_refl _) _ _) (Nat.le_refl _) _ _) (Nat.le_refl _) _ _⟩
      case measure => simp [intOf]; omega
    · obtain rfl : k = L.length := by omega
      have hR : E = [(L.length : Int), X, Y, Z] := by
        rw [hE.out, hX.out, hY.out, hZ.out, hL.out, e1.out, e2.out, e3.out, eN.out]; rfl
      have HR := Lib.hid hR
      clear hR
      go_wp2_with fail
      go_ret
      rw [HR.out]
      exact ⟨_, 4, rfl, g0, own4 H0, fun x e => by rw [blk_some (by simp)] at e; injection e with e; omega⟩
end Go.Proofs.YtekglhikojondaaDoor.sh
