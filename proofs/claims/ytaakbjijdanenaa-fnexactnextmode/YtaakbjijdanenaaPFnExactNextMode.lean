/- At every argument the program's NextMode answers as its model. No condition. -/
import Derived.Test.YtaakbjijdanenaaRows
import Derived.Test.YtaakbjijdanenaaMdArg
import Derived.Test.YtaakbjijdanenaaMdSpec
import Derived.WalkKit
import Derived.ProofKit
import Derived.OpenShut
import Derived.ShutString
import Derived.ChangeOld
import Derived.Below
namespace Go.Proofs.Ytaakbjijdanenaa.fnExactNextMode
open Go.ChangeShapes Go.WideShapes Go.ChangeAt Go.RowKit
open Go.ChangeMaps (open_string shut_string)
set_option linter.unusedVariables false

theorem own : ownKnob Try.prog.godebug = none := by kernel_rfl
theorem laidOut : laidOutB Try.prog = true := by kernel_rfl

theorem walk (a0 : Int) (a1 : md.Fx) (w : World) (w0 : (Lit.int .i64 a0).wf = true)  :
    Calls Try.prog 5 #[.int .i64 a0, md.fac a1] w fun e w' => e = .returned (.bool true) ∧ Below w.heap.size w w' := by
  have k0 := mem.Has.fresh w 35 (md.cs8 a1)
  have g0 : w.grownBy (w.alloc (Obj.cells (md.cs8 a1) 35)) none := World.grownBy_alloc _ _ _
  have cS := md.specNextMode a0 a1
  have cI := md.implNextMode a0 a1
  generalize md.nextMode a0 a1 = r at *
  go_enter Try.func5, Try.ntmps5
  go_wp2_with fail
  refine (md.toFacts _ _).mono ?_
  rintro e w1 ⟨rfl, hg⟩
  replace k0 := k0.grown hg (by simp)
  replace g0 := mem.gr_trans g0 hg
  clear hg
  go_wp2_with fail
  refine (cS _).mono ?_
  rintro e w2 ⟨rfl, hg⟩
  replace k0 := k0.grown hg (by simp)
  replace g0 := mem.gr_trans g0 hg
  clear hg
  obtain ⟨c0, c1, c2, c3, c4, c5, c6, c7⟩ := md.eight k0
  go_wp2_with fail
  refine (md.toFacts _ _).mono ?_
  rintro e w3 ⟨rfl, hg⟩
  replace g0 := mem.gr_trans g0 hg
  clear hg c0 c1 c2 c3 c4 c5 c6 c7 k0
  go_wp2_with fail
  refine (cI _).mono ?_
  rintro e w4 ⟨rfl, hg⟩
  replace g0 := mem.gr_trans g0 hg
  go_wp2_with fail
  go_ret
  exact ⟨rfl, mem.below_of_none g0⟩

set_option maxRecDepth 100000 in
theorem lifted (os : Os) (started : os.Started) (H : Type) (enc : TypeId × Value → H) :
    ReturnsInHanded {} Try.checked os 5 .any (Rows.fnExactNextModeSpec.pre6 enc Try.prog Try.f5 Rows.fnExactNextModeRow.domain false) (Rows.fnExactNextModeSpec.post enc Try.prog Try.f5 false true false false) := by
  refine returnsInHanded_of_change (C := Try.checked) own started (by kernel_rfl) Try.func5
    (ChangeSpec.witness6 (enc := enc) (C := Try.checked) false ⟨#[], #[.int .i64 0, .agg #[.int .i64 0, .bool false, .int .i64 0, .bool false, .int .i64 0, .bool false, .int .i64 0, .int .i64 0]], []⟩ 8 (by kernel_rfl) (by kernel_rfl) (by kernel_rfl) (by kernel_rfl)) ?_
  intro W base args ds gs before hval0 hW hcnd _
  have hval : ∀ (j : Nat) t v, Try.f5.params[j]? = some t → args[j]? = some v → Value.okWide Try.prog W .any base t v := hval0
  have hW' := hW
  obtain ⟨p, q, hA0, hV, rfl, hfz, hnd⟩ := hW
  have hA : DataW.TrodAll enc Try.prog W 0 (fun _ => true) true Try.f5.params.toList args.toList ds p := hA0
  rw [Try.params5] at hA hval
  obtain ⟨v0, vs0, d0, ds0, p0, q0, hargs, rfl, rfl, h0, r0⟩ := trodAll_cons hA
  obtain ⟨v1, vs1, d1, ds1, p1, q1, rfl, rfl, rfl, h1, r1⟩ := trodAll_cons r0
  obtain ⟨rfl, rfl, rfl⟩ := trodAll_nil r1
  obtain rfl : args = #[v0, v1] := by cases args; simp_all
  obtain ⟨rfl, rfl⟩ := trodVars_none hV
  have k0 := h0
  have lt0 : ∀ x ∈ p0, x.block < W.heap.size := by obtain ⟨m, hm⟩ := k0; exact DataW.trod_lt m _ _ _ hm
  have k1 := h1
  have lt1 : ∀ x ∈ p1, x.block < W.heap.size := by obtain ⟨m, hm⟩ := k1; exact DataW.trod_lt m _ _ _ hm
  obtain ⟨a0, rfl, rfl, rfl, w0⟩ := open_int Try.underlying2 (hval 0 2 v0 rfl rfl) h0
  obtain ⟨a1, rfl⟩ := md.open_facts (hval 1 35 v1 rfl rfl) h1
  clear hA0 hval0
  refine (walk a0 a1 W w0 ).mono fun e W' ⟨he, bel⟩ => ?_
  subst he
  exact ⟨_, rfl, _, _, _, [], _, [], hW', trodAll_mk1 (shut_bool Try.underlying4 _), (trodAll_cons_mk (Below.trod laidOut (by kernel_rfl) (of_decide_eq_true (by kernel_rfl)) k0 bel lt0) (trodAll_cons_mk (Below.trod laidOut (by kernel_rfl) (of_decide_eq_true (by kernel_rfl)) k1 bel lt1) trodAll_mk0)), rfl, bel.frame _, fun h => by cases h⟩

theorem over : Rows.fnExactNextModeRow.holds Try.pinned (OpenSpec.ofChange Rows.fnExactNextModeSpec) :=
  OpenClaim.holds_of_wide 5 Try.f5 rfl rfl rfl rfl rfl rfl rfl ⟨rfl, rfl, rfl, rfl, rfl⟩ rfl rfl rfl rfl rfl (by kernel_rfl) Try.func5 (by kernel_rfl)
    (of_decide_eq_true (by kernel_rfl)) (by unfold Func.isWrapper; first | (rw [if_pos (by decide +kernel)]; kernel_rfl) | (rw [if_neg (by decide +kernel)]; exact ⟨rfl, rfl⟩))
    (fun os started H enc _ => lifted os started H enc)

theorem proved : Rows.FnExactNextModeSaid := over
end Go.Proofs.Ytaakbjijdanenaa.fnExactNextMode
