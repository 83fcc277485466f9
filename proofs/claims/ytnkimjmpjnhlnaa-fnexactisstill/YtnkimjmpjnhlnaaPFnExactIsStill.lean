/- At every argument the program's IsStill answers as its model and leaves what it was given. No condition. -/
import Derived.Test.YtnkimjmpjnhlnaaRows
import Derived.Test.YtnkimjmpjnhlnaaBrStill
import Derived.WalkKit
import Derived.ProofKit
import Derived.OpenShut
import Derived.ShutString
import Derived.ChangeOld
import Derived.Below
namespace Go.Proofs.Ytnkimjmpjnhlnaa.fnExactIsStill
open Go.ChangeShapes Go.WideShapes Go.ChangeAt Go.RowKit
open Go.ChangeMaps (open_string shut_string)
set_option linter.unusedVariables false

theorem own : ownKnob Try.prog.godebug = none := by kernel_rfl
theorem laidOut : laidOutB Try.prog = true := by kernel_rfl

theorem walk (a0 : Option Addr) (cap0 : Nat) (z0 : List Int) (w : World) (w0 : il.Ints w a0 z0) (l0 : z0.length ≤ maxLen) (y0 : ∀ n ∈ z0, (Lit.int .i64 n).wf = true) :
    Calls Try.prog 3 #[.slice a0 z0.length cap0] w fun e w' => e = .returned (.bool true) ∧ Below w.heap.size w w' := by
  by_cases h : z0.length ≤ 1048576
  · obtain ⟨r, hr⟩ : ∃ r, r = br.still z0 := ⟨_, rfl⟩
    have cS : ∀ (a : Option Addr) (cap : Nat) (W : World), il.Ints W a z0 → Calls Try.prog 4 #[.slice a z0.length cap] W (fun e w' => e = .returned (.bool r) ∧ W = w') := fun a cap W hA => by
      rw [hr]; exact br.specIsStill a cap z0 W hA l0
    have cI : ∀ (a : Option Addr) (cap : Nat) (W : World), il.Ints W a z0 → Calls Try.prog 6 #[.slice a z0.length cap] W (fun e w' => e = .returned (.bool r) ∧ W = w') := fun a cap W hA => by
      rw [hr]; exact br.implIsStill a cap z0 W hA l0
    clear hr
    have hd : decide (1048576 < (z0.length : Int)) = false := by simp; omega
    have hd2 : ¬ (1048576 < (z0.length : Int)) := by omega
    go_enter Try.func3, Try.ntmps3
    go_wp2_with fail
    refine (il.toInts _ _ _ _ w0 h).mono ?_
    rintro e w1 ⟨a1, c1, rfl, g1, o1, _⟩
    go_wp2_with fail
    refine (cS _ _ _ o1.ints).mono ?_
    rintro e w2 ⟨rfl, rfl⟩
    go_wp2_with fail
    refine (il.toInts _ _ _ _ (w0.kept g1) h).mono ?_
    rintro e w3 ⟨a3, c3, rfl, g3, o3, b3⟩
    replace g1 := mem.gr_trans g1 g3
    go_wp2_with fail
    refine (cI _ _ _ o3.ints).mono ?_
    rintro e w4 ⟨rfl, rfl⟩
    go_wp2_with fail
    refine (il.toInts _ _ _ _ (w0.kept g1) h).mono ?_
    rintro e w5 ⟨a5, c5, rfl, g5, o5, b5⟩
    replace g1 := mem.gr_trans g1 g5
    replace o3 := o3.kept g5
    go_wp2_with fail
    refine (il.eqInts _ _ _ _ _ _ o3.ints o5.ints h).mono ?_
    rintro e w6 ⟨rfl, g6⟩
    replace g1 := mem.gr_trans g1 g6
    go_wp2_with fail
    go_ret
    exact ⟨rfl, mem.below_of_none g1⟩
  · have hd : decide (1048576 < (z0.length : Int)) = true := by simp; omega
    have hd2 : 1048576 < (z0.length : Int) := by omega
    go_enter Try.func3, Try.ntmps3
    go_wp2_with fail
    go_ret
    exact ⟨rfl, Below.refl _ _⟩

set_option maxRecDepth 100000 in
theorem lifted (os : Os) (started : os.Started) (H : Type) (enc : TypeId × Value → H) :
    ReturnsInHanded {} Try.checked os 3 .any (Rows.fnExactIsStillSpec.pre6 enc Try.prog Try.f3 Rows.fnExactIsStillRow.domain false) (Rows.fnExactIsStillSpec.post enc Try.prog Try.f3 false true false false) := by
  refine returnsInHanded_of_change (C := Try.checked) own started (by kernel_rfl) Try.func3
    (ChangeSpec.witness6 (enc := enc) (C := Try.checked) false ⟨#[], #[.slice none 0 0], []⟩ 8 (by kernel_rfl) (by kernel_rfl) (by kernel_rfl) (by kernel_rfl)) ?_
  intro W base args ds gs before hval0 hW hcnd _
  have hval : ∀ (j : Nat) t v, Try.f3.params[j]? = some t → args[j]? = some v → Value.okWide Try.prog W .any base t v := hval0
  have hW' := hW
  obtain ⟨p, q, hA0, hV, rfl, hfz, hnd⟩ := hW
  have hA : DataW.TrodAll enc Try.prog W 0 (fun _ => true) true Try.f3.params.toList args.toList ds p := hA0
  rw [Try.params3] at hA hval
  obtain ⟨v0, vs0, d0, ds0, p0, q0, hargs, rfl, rfl, h0, r0⟩ := trodAll_cons hA
  obtain ⟨rfl, rfl, rfl⟩ := trodAll_nil r0
  obtain rfl : args = #[v0] := by cases args; simp_all
  obtain ⟨rfl, rfl⟩ := trodVars_none hV
  have k0 := h0
  have lt0 : ∀ x ∈ p0, x.block < W.heap.size := by obtain ⟨m, hm⟩ := k0; exact DataW.trod_lt m _ _ _ hm
  obtain ⟨a0, len0, cap0, rfl⟩ := okWide_slice Try.underlying22 (hval 0 22 v0 rfl rfl)
  obtain ⟨z0, e0, l0, w0, y0⟩ := il.open_ints' h0
  subst e0
  clear hA0 hval0
  refine (walk a0 cap0 z0 W w0 l0 y0).mono fun e W' ⟨he, bel⟩ => ?_
  subst he
  exact ⟨_, rfl, _, _, _, [], _, [], hW', trodAll_mk1 (shut_bool Try.underlying4 _), (trodAll_cons_mk (Below.trod laidOut (by kernel_rfl) (of_decide_eq_true (by kernel_rfl)) k0 bel lt0) trodAll_mk0), rfl, bel.frame _, fun h => by cases h⟩

theorem over : Rows.fnExactIsStillRow.holds Try.pinned (OpenSpec.ofChange Rows.fnExactIsStillSpec) :=
  OpenClaim.holds_of_wide 3 Try.f3 rfl rfl rfl rfl rfl rfl rfl ⟨rfl, rfl, rfl, rfl, rfl⟩ rfl rfl rfl rfl rfl (by kernel_rfl) Try.func3 (by kernel_rfl)
    (of_decide_eq_true (by kernel_rfl)) (by unfold Func.isWrapper; first | (rw [if_pos (by decide +kernel)]; kernel_rfl) | (rw [if_neg (by decide +kernel)]; exact ⟨rfl, rfl⟩))
    (fun os started H enc _ => lifted os started H enc)

theorem proved : Rows.FnExactIsStillSaid := over
end Go.Proofs.Ytnkimjmpjnhlnaa.fnExactIsStill
