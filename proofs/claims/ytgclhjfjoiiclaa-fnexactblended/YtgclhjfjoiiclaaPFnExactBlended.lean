/- At every argument the program's Blended answers as its model, in every field. No condition. -/
import Derived.Test.YtgclhjfjoiiclaaRows
import Derived.Test.YtgclhjfjoiiclaaBlBlend
import Derived.Test.YtgclhjfjoiiclaaShLaid
import Derived.WalkKit
import Derived.ProofKit
import Derived.OpenShut
import Derived.ShutString
import Derived.ChangeOld
import Derived.Below
namespace Go.Proofs.Ytgclhjfjoiiclaa.fnExactBlended
open Go.ChangeShapes Go.WideShapes Go.ChangeAt Go.RowKit
open Go.ChangeMaps (open_string shut_string)
set_option linter.unusedVariables false

theorem own : ownKnob Try.prog.godebug = none := by kernel_rfl
theorem laidOut : laidOutB Try.prog = true := by kernel_rfl

theorem walk (a0 b0 c0 : Int) (a1 : Int) (w : World) (w0 : (Lit.int .i64 a0).wf = true) (x0 : (Lit.int .i64 b0).wf = true) (y0 : (Lit.int .i64 c0).wf = true) (w1 : (Lit.int .i64 a1).wf = true) :
    Calls Try.prog 6 #[.agg #[.int .i64 a0, .int .i64 b0, .int .i64 c0], .int .i64 a1] w fun e w' => e = .returned (.bool true) ∧ Below w.heap.size w w' := by
  obtain ⟨L, hL⟩ : ∃ L, bl.bl a0 b0 c0 a1 a0 = L := ⟨_, rfl⟩
  obtain ⟨R, hR⟩ : ∃ R, bl.bl a0 b0 c0 a1 b0 = R := ⟨_, rfl⟩
  obtain ⟨M, hM⟩ : ∃ M, bl.bl a0 b0 c0 a1 c0 = M := ⟨_, rfl⟩
  have cI := bl.implBlended a0 b0 c0 a1
  have cS := bl.specBlended a0 b0 c0 a1
  unfold bl.RetB at cI cS
  rw [hL, hR, hM] at cI cS
  clear hL hR hM
  go_enter Try.func6, Try.ntmps6
  have H0 := mem.Has.fresh w 39 #[.int .i64 a0, .int .i64 b0, .int .i64 c0]
  have gA := World.grownBy_alloc w (Obj.cells #[.int .i64 a0, .int .i64 b0, .int .i64 c0] 39) none
  go_wp2_with fail
  refine (sh.toDemand a0 b0 c0 _).mono ?_
  rintro e u1 ⟨rfl, h1⟩
  go_wp2_with fail
  refine (cS _).mono ?_
  rintro e v1 ⟨rfl, g1⟩
  replace g1 := mem.gr_alloc (mem.gr_trans h1 g1) (Obj.cells #[.int .i64 L, .int .i64 R, .int .i64 M] 25)
  have X1 := mem.Has.fresh v1 25 #[.int .i64 L, .int .i64 R, .int .i64 M]
  replace H0 := H0.grown g1 (by simp)
  replace g1 := mem.gr_trans gA g1
  clear h1 gA
  obtain ⟨d0, d1, d2, _, _, _⟩ := sh.three H0
  go_upto_region 2 with fail
  generalize v1.alloc (Obj.cells #[.int .i64 L, .int .i64 R, .int .i64 M] 25) = v2 at *
  go_wp2_with fail
  refine (sh.toDemand a0 b0 c0 _).mono ?_
  rintro e u2 ⟨rfl, h2⟩
  go_wp2_with fail
  refine (cI _).mono ?_
  rintro e w2 ⟨rfl, k4⟩
  replace k4 := mem.gr_alloc (mem.gr_trans h2 k4) (Obj.cells #[.int .i64 L, .int .i64 R, .int .i64 M] 25)
  have X2 := mem.Has.fresh w2 25 #[.int .i64 L, .int .i64 R, .int .i64 M]
  replace X1 := X1.grown k4 (by simp)
  replace g1 := mem.gr_trans g1 k4
  clear h2 d0 d1 d2 k4 H0
  go_upto_region 3 with fail
  generalize w2.alloc (Obj.cells #[.int .i64 L, .int .i64 R, .int .i64 M] 25) = w3 at *
  obtain ⟨d0, d1, d2, _, _, _⟩ := sh.three X1
  obtain ⟨e0, e1, e2, _, _, _⟩ := sh.three X2
  go_wp2_with fail
  refine (sh.eqDemand L R M _).mono ?_
  rintro e w4 ⟨rfl, g5⟩
  go_wp2_with fail
  go_ret
  exact ⟨rfl, mem.below_of_none (mem.gr_trans g1 g5)⟩

set_option maxRecDepth 100000 in
theorem lifted (os : Os) (started : os.Started) (H : Type) (enc : TypeId × Value → H) :
    ReturnsInHanded {} Try.checked os 6 .any (Rows.fnExactBlendedSpec.pre6 enc Try.prog Try.f6 Rows.fnExactBlendedRow.domain false) (Rows.fnExactBlendedSpec.post enc Try.prog Try.f6 false true false false) := by
  refine returnsInHanded_of_change (C := Try.checked) own started (by kernel_rfl) Try.func6
    (ChangeSpec.witness6 (enc := enc) (C := Try.checked) false ⟨#[], #[.agg #[.int .i64 0, .int .i64 0, .int .i64 0], .int .i64 0], []⟩ 8 (by kernel_rfl) (by kernel_rfl) (by kernel_rfl) (by kernel_rfl)) ?_
  intro W base args ds gs before hval0 hW hcnd _
  have hval : ∀ (j : Nat) t v, Try.f6.params[j]? = some t → args[j]? = some v → Value.okWide Try.prog W .any base t v := hval0
  have hW' := hW
  obtain ⟨p, q, hA0, hV, rfl, hfz, hnd⟩ := hW
  have hA : DataW.TrodAll enc Try.prog W 0 (fun _ => true) true Try.f6.params.toList args.toList ds p := hA0
  rw [Try.params6] at hA hval
  obtain ⟨v0, vs0, d0, ds0, p0, q0, hargs, rfl, rfl, h0, r0⟩ := trodAll_cons hA
  obtain ⟨v1, vs1, d1, ds1, p1, q1, rfl, rfl, rfl, h1, r1⟩ := trodAll_cons r0
  obtain ⟨rfl, rfl, rfl⟩ := trodAll_nil r1
  obtain rfl : args = #[v0, v1] := by cases args; simp_all
  obtain ⟨rfl, rfl⟩ := trodVars_none hV
  have k0 := h0
  have lt0 : ∀ x ∈ p0, x.block < W.heap.size := by obtain ⟨m, hm⟩ := k0; exact DataW.trod_lt m _ _ _ hm
  have k1 := h1
  have lt1 : ∀ x ∈ p1, x.block < W.heap.size := by obtain ⟨m, hm⟩ := k1; exact DataW.trod_lt m _ _ _ hm
  obtain ⟨a0, b0, c0, rfl, w0, x0, y0⟩ := sh.open_demand (hval 0 39 v0 rfl rfl) h0
  obtain ⟨a1, rfl, rfl, rfl, w1⟩ := open_int Try.underlying2 (hval 1 2 v1 rfl rfl) h1
  clear hA0 hval0
  refine (walk a0 b0 c0 a1 W w0 x0 y0 w1).mono fun e W' ⟨he, bel⟩ => ?_
  subst he
  exact ⟨_, rfl, _, _, _, [], _, [], hW', trodAll_mk1 (shut_bool Try.underlying4 _), (trodAll_cons_mk (Below.trod laidOut (by kernel_rfl) (of_decide_eq_true (by kernel_rfl)) k0 bel lt0) (trodAll_cons_mk (Below.trod laidOut (by kernel_rfl) (of_decide_eq_true (by kernel_rfl)) k1 bel lt1) trodAll_mk0)), rfl, bel.frame _, fun h => by cases h⟩

theorem over : Rows.fnExactBlendedRow.holds Try.pinned (OpenSpec.ofChange Rows.fnExactBlendedSpec) :=
  OpenClaim.holds_of_wide 6 Try.f6 rfl rfl rfl rfl rfl rfl rfl ⟨rfl, rfl, rfl, rfl, rfl⟩ rfl rfl rfl rfl rfl (by kernel_rfl) Try.func6 (by kernel_rfl)
    (of_decide_eq_true (by kernel_rfl)) (by unfold Func.isWrapper; first | (rw [if_pos (by decide +kernel)]; kernel_rfl) | (rw [if_neg (by decide +kernel)]; exact ⟨rfl, rfl⟩))
    (fun os started H enc _ => lifted os started H enc)

theorem proved : Rows.FnExactBlendedSaid := over
end Go.Proofs.Ytgclhjfjoiiclaa.fnExactBlended
