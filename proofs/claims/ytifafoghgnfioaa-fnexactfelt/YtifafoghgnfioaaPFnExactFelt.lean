/- At every argument the program's Felt answers as its model. No condition. -/
import Derived.Test.YtifafoghgnfioaaRows
import Derived.Test.YtifafoghgnfioaaBncArg
import Derived.WalkKit
import Derived.ProofKit
import Derived.OpenShut
import Derived.ShutString
import Derived.ChangeOld
import Derived.Below
namespace Go.Proofs.Ytifafoghgnfioaa.fnExactFelt
open Go.ChangeShapes Go.WideShapes Go.ChangeAt Go.RowKit
open Go.ChangeMaps (open_string shut_string)
set_option linter.unusedVariables false

theorem own : ownKnob Try.prog.godebug = none := by kernel_rfl
theorem laidOut : laidOutB Try.prog = true := by kernel_rfl

theorem walk (a0 : Int) (o0 : Bool) (a1 : Bool) (a2 : Int) (a3 : Int) (w : World) (w0 : (Lit.int .i64 a0).wf = true)  (w2 : (Lit.int .i64 a2).wf = true) (w3 : (Lit.int .i64 a3).wf = true) :
    Calls Try.prog 5 #[.agg #[.int .i64 a0, .bool o0], .bool a1, .int .i64 a2, .int .i64 a3] w fun e w' => e = .returned (.bool true) ∧ Below w.heap.size w w' := by
  have k0 := mem.Has.fresh w 34 #[.int .i64 a0, .bool o0]
  have g0 : w.grownBy (w.alloc (Obj.cells #[.int .i64 a0, .bool o0] 34)) none := World.grownBy_alloc _ _ _
  go_enter Try.func5, Try.ntmps5
  go_wp2_with fail
  refine (bnc.toBounce _ _ _).mono ?_
  rintro e w1 ⟨rfl, hg⟩
  replace k0 := k0.grown hg (by simp)
  replace g0 := mem.gr_trans g0 hg
  clear hg
  go_wp2_with fail
  refine (bnc.specFelt _ _ _ _ _ _).mono ?_
  rintro e w2 ⟨rfl, hg⟩
  replace k0 := (k0.grown hg (by simp)).alloc (Obj.cells #[.int .i64 (bnc.one a2 a3 (a0, o0) a1).1, .bool (bnc.one a2 a3 (a0, o0) a1).2] 25)
  have k1 := mem.Has.fresh w2 25 #[.int .i64 (bnc.one a2 a3 (a0, o0) a1).1, .bool (bnc.one a2 a3 (a0, o0) a1).2]
  replace g0 := mem.gr_alloc (mem.gr_trans g0 hg) (Obj.cells #[.int .i64 (bnc.one a2 a3 (a0, o0) a1).1, .bool (bnc.one a2 a3 (a0, o0) a1).2] 25)
  obtain ⟨c0, c1, _, _⟩ := bnc.two k0
  go_wp2_with fail
  refine (bnc.toBounce _ _ _).mono ?_
  rintro e w3 ⟨rfl, hg3⟩
  replace k1 := k1.grown hg3 (by simp)
  replace g0 := mem.gr_trans g0 hg3
  have hz := hg3.size
  clear hg c0 c1 k0 hg3
  go_wp2_with fail
  refine (bnc.implFelt _ _ _ _ _ _).mono ?_
  rintro e w4 ⟨rfl, hg⟩
  replace k1 := (k1.grown hg (by simp)).alloc (Obj.cells #[.int .i64 (bnc.one a2 a3 (a0, o0) a1).1, .bool (bnc.one a2 a3 (a0, o0) a1).2] 25)
  replace g0 := mem.gr_alloc (mem.gr_trans g0 hg) (Obj.cells #[.int .i64 (bnc.one a2 a3 (a0, o0) a1).1, .bool (bnc.one a2 a3 (a0, o0) a1).2] 25)
  have hz2 := hg.size
  clear hg
  obtain ⟨c0, c1, _, _⟩ := bnc.two k1
  go_wp2_with fail
  refine (bnc.eqBounce _ _ _).mono ?_
  rintro e w5 ⟨rfl, hg⟩
  go_wp2_with fail
  go_ret
  exact ⟨rfl, mem.below_of_none (mem.gr_trans g0 hg)⟩

set_option maxRecDepth 100000 in
theorem lifted (os : Os) (started : os.Started) (H : Type) (enc : TypeId × Value → H) :
    ReturnsInHanded {} Try.checked os 5 .any (Rows.fnExactFeltSpec.pre6 enc Try.prog Try.f5 Rows.fnExactFeltRow.domain false) (Rows.fnExactFeltSpec.post enc Try.prog Try.f5 false true false false) := by
  refine returnsInHanded_of_change (C := Try.checked) own started (by kernel_rfl) Try.func5
    (ChangeSpec.witness6 (enc := enc) (C := Try.checked) false ⟨#[], #[.agg #[.int .i64 0, .bool false], .bool false, .int .i64 0, .int .i64 0], []⟩ 8 (by kernel_rfl) (by kernel_rfl) (by kernel_rfl) (by kernel_rfl)) ?_
  intro W base args ds gs before hval0 hW hcnd _
  have hval : ∀ (j : Nat) t v, Try.f5.params[j]? = some t → args[j]? = some v → Value.okWide Try.prog W .any base t v := hval0
  have hW' := hW
  obtain ⟨p, q, hA0, hV, rfl, hfz, hnd⟩ := hW
  have hA : DataW.TrodAll enc Try.prog W 0 (fun _ => true) true Try.f5.params.toList args.toList ds p := hA0
  rw [Try.params5] at hA hval
  obtain ⟨v0, vs0, d0, ds0, p0, q0, hargs, rfl, rfl, h0, r0⟩ := trodAll_cons hA
  obtain ⟨v1, vs1, d1, ds1, p1, q1, rfl, rfl, rfl, h1, r1⟩ := trodAll_cons r0
  obtain ⟨v2, vs2, d2, ds2, p2, q2, rfl, rfl, rfl, h2, r2⟩ := trodAll_cons r1
  obtain ⟨v3, vs3, d3, ds3, p3, q3, rfl, rfl, rfl, h3, r3⟩ := trodAll_cons r2
  obtain ⟨rfl, rfl, rfl⟩ := trodAll_nil r3
  obtain rfl : args = #[v0, v1, v2, v3] := by cases args; simp_all
  obtain ⟨rfl, rfl⟩ := trodVars_none hV
  have k0 := h0
  have lt0 : ∀ x ∈ p0, x.block < W.heap.size := by obtain ⟨m, hm⟩ := k0; exact DataW.trod_lt m _ _ _ hm
  have k1 := h1
  have lt1 : ∀ x ∈ p1, x.block < W.heap.size := by obtain ⟨m, hm⟩ := k1; exact DataW.trod_lt m _ _ _ hm
  have k2 := h2
  have lt2 : ∀ x ∈ p2, x.block < W.heap.size := by obtain ⟨m, hm⟩ := k2; exact DataW.trod_lt m _ _ _ hm
  have k3 := h3
  have lt3 : ∀ x ∈ p3, x.block < W.heap.size := by obtain ⟨m, hm⟩ := k3; exact DataW.trod_lt m _ _ _ hm
  obtain ⟨a0, o0, rfl, w0⟩ := bnc.open_bounce (hval 0 34 v0 rfl rfl) h0
  obtain ⟨a1, rfl, rfl, rfl⟩ := open_bool Try.underlying4 (hval 1 4 v1 rfl rfl) h1
  obtain ⟨a2, rfl, rfl, rfl, w2⟩ := open_int Try.underlying2 (hval 2 2 v2 rfl rfl) h2
  obtain ⟨a3, rfl, rfl, rfl, w3⟩ := open_int Try.underlying2 (hval 3 2 v3 rfl rfl) h3
  clear hA0 hval0
  refine (walk a0 o0 a1 a2 a3 W w0  w2 w3).mono fun e W' ⟨he, bel⟩ => ?_
  subst he
  exact ⟨_, rfl, _, _, _, [], _, [], hW', trodAll_mk1 (shut_bool Try.underlying4 _), (trodAll_cons_mk (Below.trod laidOut (by kernel_rfl) (of_decide_eq_true (by kernel_rfl)) k0 bel lt0) (trodAll_cons_mk (Below.trod laidOut (by kernel_rfl) (of_decide_eq_true (by kernel_rfl)) k1 bel lt1) (trodAll_cons_mk (Below.trod laidOut (by kernel_rfl) (of_decide_eq_true (by kernel_rfl)) k2 bel lt2) (trodAll_cons_mk (Below.trod laidOut (by kernel_rfl) (of_decide_eq_true (by kernel_rfl)) k3 bel lt3) trodAll_mk0)))), rfl, bel.frame _, fun h => by cases h⟩

theorem over : Rows.fnExactFeltRow.holds Try.pinned (OpenSpec.ofChange Rows.fnExactFeltSpec) :=
  OpenClaim.holds_of_wide 5 Try.f5 rfl rfl rfl rfl rfl rfl rfl ⟨rfl, rfl, rfl, rfl, rfl⟩ rfl rfl rfl rfl rfl (by kernel_rfl) Try.func5 (by kernel_rfl)
    (of_decide_eq_true (by kernel_rfl)) (by unfold Func.isWrapper; first | (rw [if_pos (by decide +kernel)]; kernel_rfl) | (rw [if_neg (by decide +kernel)]; exact ⟨rfl, rfl⟩))
    (fun os started H enc _ => lifted os started H enc)

theorem proved : Rows.FnExactFeltSaid := over
end Go.Proofs.Ytifafoghgnfioaa.fnExactFelt
