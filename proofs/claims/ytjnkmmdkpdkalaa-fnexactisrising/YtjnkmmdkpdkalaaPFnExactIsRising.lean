/- At every argument the program's IsRising answers as its model, and leaves what it was given. No condition. -/
import Derived.Test.YtjnkmmdkpdkalaaRows
import Derived.Test.YtjnkmmdkpdkalaaTabSpec2
import Derived.Test.YtjnkmmdkpdkalaaTabImpl5
import Derived.Test.YtjnkmmdkpdkalaaTabImpl4
import Derived.Test.YtjnkmmdkpdkalaaTabEq
import Derived.WalkKit
import Derived.ProofKit
import Derived.OpenShut
import Derived.ShutString
import Derived.ChangeOld
import Derived.Below
namespace Go.Proofs.Ytjnkmmdkpdkalaa.fnExactIsRising
open Go.ChangeShapes Go.WideShapes Go.ChangeAt Go.RowKit
open Go.ChangeMaps (open_string shut_string)
set_option linter.unusedVariables false

theorem own : ownKnob Try.prog.godebug = none := by kernel_rfl
theorem laidOut : laidOutB Try.prog = true := by kernel_rfl

theorem walk (a0 : Option Addr) (cap0 : Nat) (z0 : tab.Pts) (w : World) (w0 : tab.Arg w a0 z0) (l0 : z0.length ≤ maxLen) :
    Calls Try.prog 6 #[.slice a0 z0.length cap0] w fun e w' => e = .returned (.bool true) ∧ Below w.heap.size w w' := by
  by_cases h : z0.length ≤ 1048576
  · have hd : (if z0.length ≤ 1048576 then 1048576 - (z0.length : Int) else -1) = 1048576 - (z0.length : Int) := if_pos h
    go_enter Try.func6, Try.ntmps6
    go_wp2_with fail
    refine (tab.szPoints _ _ _ _ l0).mono ?_
    rintro e w' ⟨rfl, rfl⟩
    rw [hd]; clear hd
    go_wp2_with fail
    refine (tab.toPoints _ _ _ _ w0 h).mono ?_
    rintro e w1 ⟨g1, rfl, _, hg1, t1⟩
    go_wp2_with fail
    refine (tab.specIsRising _ _ _ _ t1 h).mono ?_
    rintro e w2 ⟨rfl, hg2⟩
    have k2 := mem.gr_trans hg1 hg2
    clear hg1 hg2
    go_wp2_with fail
    refine (tab.toPoints _ _ _ _ (w0.kept k2) h).mono ?_
    rintro e w3 ⟨g3, rfl, _, hg3, t3⟩
    have k3 := mem.gr_trans k2 hg3
    clear hg3
    go_wp2_with fail
    refine (tab.implIsRising _ _ _ _ t3).mono ?_
    rintro e w4 ⟨rfl, hg4⟩
    have k4 := mem.gr_trans k3 hg4
    have t4 := t3.kept hg4
    clear hg4
    go_wp2_with fail
    refine (tab.toPoints _ _ _ _ (w0.kept k4) h).mono ?_
    rintro e w5 ⟨g5, rfl, _, hg5, t5⟩
    have k5 := mem.gr_trans k4 hg5
    have t5' := t4.kept hg5
    clear hg5
    go_wp2_with fail
    refine (tab.eqPoints _ _ _ _ _ _ t5' t5 h).mono ?_
    rintro e w6 ⟨rfl, hg6⟩
    go_wp2_with fail
    go_ret
    exact ⟨rfl, mem.below_of_none (mem.gr_trans k5 hg6)⟩
  · have hd : (if z0.length ≤ 1048576 then 1048576 - (z0.length : Int) else -1) = -1 := if_neg h
    go_enter Try.func6, Try.ntmps6
    go_wp2_with fail
    refine (tab.szPoints _ _ _ _ l0).mono ?_
    rintro e w' ⟨rfl, rfl⟩
    rw [hd]; clear hd
    go_wp2_with fail
    go_ret
    exact ⟨rfl, Below.refl _ _⟩

set_option maxRecDepth 100000 in
theorem lifted (os : Os) (started : os.Started) (H : Type) (enc : TypeId × Value → H) :
    ReturnsInHanded {} Try.checked os 6 .any (Rows.fnExactIsRisingSpec.pre6 enc Try.prog Try.f6 Rows.fnExactIsRisingRow.domain false) (Rows.fnExactIsRisingSpec.post enc Try.prog Try.f6 false true false false) := by
  refine returnsInHanded_of_change (C := Try.checked) own started (by kernel_rfl) Try.func6
    (ChangeSpec.witness6 (enc := enc) (C := Try.checked) false ⟨#[], #[.slice none 0 0], []⟩ 8 (by kernel_rfl) (by kernel_rfl) (by kernel_rfl) (by kernel_rfl)) ?_
  intro W base args ds gs before hval0 hW hcnd _
  have hval : ∀ (j : Nat) t v, Try.f6.params[j]? = some t → args[j]? = some v → Value.okWide Try.prog W .any base t v := hval0
  have hW' := hW
  obtain ⟨p, q, hA0, hV, rfl, hfz, hnd⟩ := hW
  have hA : DataW.TrodAll enc Try.prog W 0 (fun _ => true) true Try.f6.params.toList args.toList ds p := hA0
  rw [Try.params6] at hA hval
  obtain ⟨v0, vs0, d0, ds0, p0, q0, hargs, rfl, rfl, h0, r0⟩ := trodAll_cons hA
  obtain ⟨rfl, rfl, rfl⟩ := trodAll_nil r0
  obtain rfl : args = #[v0] := by cases args; simp_all
  obtain ⟨rfl, rfl⟩ := trodVars_none hV
  have k0 := h0
  have lt0 : ∀ x ∈ p0, x.block < W.heap.size := by obtain ⟨m, hm⟩ := k0; exact DataW.trod_lt m _ _ _ hm
  obtain ⟨a0, len0, cap0, rfl⟩ := okWide_slice Try.underlying32 (hval 0 32 v0 rfl rfl)
  obtain ⟨z0, e0, l0, w0⟩ := tab.open_points h0
  subst e0
  clear hA0 hval0
  refine (walk a0 cap0 z0 W w0 l0).mono fun e W' ⟨he, bel⟩ => ?_
  subst he
  exact ⟨_, rfl, _, _, _, [], _, [], hW', trodAll_mk1 (shut_bool Try.underlying4 _), (trodAll_cons_mk (Below.trod laidOut (by kernel_rfl) (of_decide_eq_true (by kernel_rfl)) k0 bel lt0) trodAll_mk0), rfl, bel.frame _, fun h => by cases h⟩

theorem over : Rows.fnExactIsRisingRow.holds Try.pinned (OpenSpec.ofChange Rows.fnExactIsRisingSpec) :=
  OpenClaim.holds_of_wide 6 Try.f6 rfl rfl rfl rfl rfl rfl rfl ⟨rfl, rfl, rfl, rfl, rfl⟩ rfl rfl rfl rfl rfl (by kernel_rfl) Try.func6 (by kernel_rfl)
    (of_decide_eq_true (by kernel_rfl)) (by unfold Func.isWrapper; first | (rw [if_pos (by decide +kernel)]; kernel_rfl) | (rw [if_neg (by decide +kernel)]; exact ⟨rfl, rfl⟩))
    (fun os started H enc _ => lifted os started H enc)

theorem proved : Rows.FnExactIsRisingSaid := over
end Go.Proofs.Ytjnkmmdkpdkalaa.fnExactIsRising
