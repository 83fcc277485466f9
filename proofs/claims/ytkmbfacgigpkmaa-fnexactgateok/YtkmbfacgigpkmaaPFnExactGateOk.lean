/- At every argument the program's GateOk answers as its model. No condition. -/
import Derived.Test.YtkmbfacgigpkmaaRows
import Derived.Test.YtkmbfacgigpkmaaGtArg
import Derived.WalkKit
import Derived.ProofKit
import Derived.OpenShut
import Derived.ShutString
import Derived.ChangeOld
import Derived.Below
namespace Go.Proofs.Ytkmbfacgigpkmaa.fnExactGateOk
open Go.ChangeShapes Go.WideShapes Go.ChangeAt Go.RowKit
open Go.ChangeMaps (open_string shut_string)
set_option linter.unusedVariables false

theorem own : ownKnob Try.prog.godebug = none := by kernel_rfl
theorem laidOut : laidOutB Try.prog = true := by kernel_rfl

theorem walk (a0 : gt.G) (w : World)  :
    Calls Try.prog 4 #[gt.gv a0] w fun e w' => e = .returned (.bool true) ∧ Below w.heap.size w w' := by
  have k0 := mem.Has.fresh w 34 (gt.cs2 a0)
  have g0 : w.grownBy (w.alloc (Obj.cells (gt.cs2 a0) 34)) none := World.grownBy_alloc _ _ _
  go_enter Try.func4, Try.ntmps4
  go_wp2_with fail
  refine (gt.toGate _ _).mono ?_
  rintro e w1 ⟨rfl, hg⟩
  replace k0 := k0.grown hg (by simp)
  replace g0 := mem.gr_trans g0 hg
  clear hg
  go_wp2_with fail
  refine (gt.specGateOk _ _).mono ?_
  rintro e w2 ⟨rfl, hg⟩
  replace k0 := k0.grown hg (by simp)
  replace g0 := mem.gr_trans g0 hg
  clear hg
  obtain ⟨c0, c1, _, _⟩ := gt.two k0
  go_wp2_with fail
  refine (gt.toGate _ _).mono ?_
  rintro e w3 ⟨rfl, hg⟩
  replace g0 := mem.gr_trans g0 hg
  clear hg c0 c1 k0
  go_wp2_with fail
  refine (gt.implGateOk _ _).mono ?_
  rintro e w4 ⟨rfl, hg⟩
  replace g0 := mem.gr_trans g0 hg
  clear hg
  go_wp2_with fail
  go_ret
  exact ⟨rfl, mem.below_of_none g0⟩

set_option maxRecDepth 100000 in
theorem lifted (os : Os) (started : os.Started) (H : Type) (enc : TypeId × Value → H) :
    ReturnsInHanded {} Try.checked os 4 .any (Rows.fnExactGateOkSpec.pre6 enc Try.prog Try.f4 Rows.fnExactGateOkRow.domain false) (Rows.fnExactGateOkSpec.post enc Try.prog Try.f4 false true false false) := by
  refine returnsInHanded_of_change (C := Try.checked) own started (by kernel_rfl) Try.func4
    (ChangeSpec.witness6 (enc := enc) (C := Try.checked) false ⟨#[], #[.agg #[.int .i64 0, .bool false]], []⟩ 8 (by kernel_rfl) (by kernel_rfl) (by kernel_rfl) (by kernel_rfl)) ?_
  intro W base args ds gs before hval0 hW hcnd _
  have hval : ∀ (j : Nat) t v, Try.f4.params[j]? = some t → args[j]? = some v → Value.okWide Try.prog W .any base t v := hval0
  have hW' := hW
  obtain ⟨p, q, hA0, hV, rfl, hfz, hnd⟩ := hW
  have hA : DataW.TrodAll enc Try.prog W 0 (fun _ => true) true Try.f4.params.toList args.toList ds p := hA0
  rw [Try.params4] at hA hval
  obtain ⟨v0, vs0, d0, ds0, p0, q0, hargs, rfl, rfl, h0, r0⟩ := trodAll_cons hA
  obtain ⟨rfl, rfl, rfl⟩ := trodAll_nil r0
  obtain rfl : args = #[v0] := by cases args; simp_all
  obtain ⟨rfl, rfl⟩ := trodVars_none hV
  have k0 := h0
  have lt0 : ∀ x ∈ p0, x.block < W.heap.size := by obtain ⟨m, hm⟩ := k0; exact DataW.trod_lt m _ _ _ hm
  obtain ⟨a0, rfl⟩ := gt.open_gate (hval 0 34 v0 rfl rfl) h0
  clear hA0 hval0
  refine (walk a0 W ).mono fun e W' ⟨he, bel⟩ => ?_
  subst he
  exact ⟨_, rfl, _, _, _, [], _, [], hW', trodAll_mk1 (shut_bool Try.underlying4 _), (trodAll_cons_mk (Below.trod laidOut (by kernel_rfl) (of_decide_eq_true (by kernel_rfl)) k0 bel lt0) trodAll_mk0), rfl, bel.frame _, fun h => by cases h⟩

theorem over : Rows.fnExactGateOkRow.holds Try.pinned (OpenSpec.ofChange Rows.fnExactGateOkSpec) :=
  OpenClaim.holds_of_wide 4 Try.f4 rfl rfl rfl rfl rfl rfl rfl ⟨rfl, rfl, rfl, rfl, rfl⟩ rfl rfl rfl rfl rfl (by kernel_rfl) Try.func4 (by kernel_rfl)
    (of_decide_eq_true (by kernel_rfl)) (by unfold Func.isWrapper; first | (rw [if_pos (by decide +kernel)]; kernel_rfl) | (rw [if_neg (by decide +kernel)]; exact ⟨rfl, rfl⟩))
    (fun os started H enc _ => lifted os started H enc)

theorem proved : Rows.FnExactGateOkSaid := over
end Go.Proofs.Ytkmbfacgigpkmaa.fnExactGateOk
