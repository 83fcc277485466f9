/- At every argument the program's StaysIn answers as its model, and its answer owns its memory. No condition. -/
import Derived.Test.YtadjojmeihhkhaaRows
import Derived.Test.YtadjojmeihhkhaaCaIn
import Derived.WalkKit
import Derived.ProofKit
import Derived.OpenShut
import Derived.ShutString
import Derived.ChangeOld
import Derived.Below
namespace Go.Proofs.Ytadjojmeihhkhaa.fnExactStaysIn
open Go.ChangeShapes Go.WideShapes Go.ChangeAt Go.RowKit
open Go.ChangeMaps (open_string shut_string)
set_option linter.unusedVariables false

theorem own : ownKnob Try.prog.godebug = none := by kernel_rfl
theorem laidOut : laidOutB Try.prog = true := by kernel_rfl

theorem walk (a0 : Int) (w : World) (w0 : (Lit.int .i64 a0).wf = true) :
    Calls Try.prog 4 #[.int .i64 a0] w fun e w' => e = .returned (.bool true) ∧ Below w.heap.size w w' := by
  obtain ⟨r, hr⟩ : ∃ r, cas.staysIn a0 = r := ⟨_, rfl⟩
  have hrl : r.length ≤ 6 := hr ▸ cas.in_len a0
  have cI : ∀ W, Calls Try.prog 10 #[.int .i64 a0] W (il.RetI r W) := fun W => hr ▸ cas.implStaysIn a0 W
  have cS : ∀ W, Calls Try.prog 9 #[.int .i64 a0] W (il.RetI r W) := fun W => hr ▸ cas.specStaysIn a0 W
  clear hr
  go_enter Try.func4, Try.ntmps4
  go_wp2_with fail
  refine (cS _).mono ?_
  rintro e w1 ⟨a1, c1, rfl, g1, o1, _⟩
  go_wp2_with fail
  refine (cI _).mono ?_
  rintro e w2 ⟨a2, c2, rfl, k4, o4, b4⟩
  go_wp2_with fail
  refine (il.eqInts _ _ _ _ _ _ o4.ints (o1.kept k4).ints (by omega)).mono ?_
  rintro e w3 ⟨rfl, g5⟩
  replace k4 := mem.gr_trans k4 g5
  replace o4 := o4.kept g5
  clear g5
  go_wp2_with fail
  refine (il.markInts 1 _ _ _ _ o4 (by omega) (by omega)).mono ?_
  rintro e w4 ⟨rfl, g10, o10⟩
  replace k4 := il.gr_blk k4 g10 b4
  clear g10 o4
  go_wp2_with fail
  refine (il.heldInts 1 _ _ _ _ o10.ints (by omega) (by omega)).mono ?_
  rintro e w5 ⟨rfl, g11⟩
  replace k4 := mem.gr_trans k4 g11
  replace o10 := o10.kept g11
  clear g11
  go_wp2_with fail
  refine (cI _).mono ?_
  rintro e w6 ⟨a13, c13, rfl, g13, o13, _⟩
  replace k4 := mem.gr_trans k4 g13
  replace o10 := o10.kept g13
  clear g13
  go_wp2_with fail
  refine (il.eqInts _ _ _ _ _ _ o13.ints (o1.kept k4).ints (by omega)).mono ?_
  rintro e w7 ⟨rfl, g14⟩
  replace k4 := mem.gr_trans k4 g14
  replace o10 := o10.kept g14
  clear g14 o13
  go_wp2_with fail
  refine (il.heldInts 1 _ _ _ _ o10.ints (by omega) (by omega)).mono ?_
  rintro e w8 ⟨rfl, g15⟩
  go_wp2_with fail
  go_ret
  exact ⟨rfl, mem.below_of_none (mem.gr_trans g1 (mem.gr_trans k4 g15))⟩

set_option maxRecDepth 100000 in
theorem lifted (os : Os) (started : os.Started) (H : Type) (enc : TypeId × Value → H) :
    ReturnsInHanded {} Try.checked os 4 .any (Rows.fnExactStaysInSpec.pre6 enc Try.prog Try.f4 Rows.fnExactStaysInRow.domain false) (Rows.fnExactStaysInSpec.post enc Try.prog Try.f4 false true false false) := by
  refine returnsInHanded_of_change (C := Try.checked) own started (by kernel_rfl) Try.func4
    (ChangeSpec.witness6 (enc := enc) (C := Try.checked) false ⟨#[], #[.int .i64 0], []⟩ 8 (by kernel_rfl) (by kernel_rfl) (by kernel_rfl) (by kernel_rfl)) ?_
  intro W base args ds gs before hval0 hW hcnd _
  have hval : ∀ (j : Nat) t v, Try.f4.params[j]? = some t → args[j]? = some v → Value.okWide Try.prog W .any base t v := hval0
  have hW' := hW
  obtain ⟨p, q, hA0, hV, rfl, hfz, hnd⟩ := hW
  have hA : DataW.TrodAll enc Try.prog W 0 (fun _ => true) true Try.f4.params.toList args.toList ds p := hA0
  rw [Try.params4] at hA hval
  obtain ⟨v0, vs0, d0, ds0, p0, q0, hargs, rfl, rfl, h0, r0⟩ := trodAll_cons hA
  obtain ⟨rfl, rfl, rfl⟩ := trodAll_nil r0
  obtain rfl : args = #[v0] := by cases args; simp_all
  obtain ⟨rfl, rfl⟩ := trodVars_none hV
  have k0 := h0
  have lt0 : ∀ x ∈ p0, x.block < W.heap.size := by obtain ⟨m, hm⟩ := k0; exact DataW.trod_lt m _ _ _ hm
  obtain ⟨a0, rfl, rfl, rfl, w0⟩ := open_int Try.underlying2 (hval 0 2 v0 rfl rfl) h0
  clear hA0 hval0
  refine (walk a0 W w0).mono fun e W' ⟨he, bel⟩ => ?_
  subst he
  exact ⟨_, rfl, _, _, _, [], _, [], hW', trodAll_mk1 (shut_bool Try.underlying4 _), (trodAll_cons_mk (Below.trod laidOut (by kernel_rfl) (of_decide_eq_true (by kernel_rfl)) k0 bel lt0) trodAll_mk0), rfl, bel.frame _, fun h => by cases h⟩

theorem over : Rows.fnExactStaysInRow.holds Try.pinned (OpenSpec.ofChange Rows.fnExactStaysInSpec) :=
  OpenClaim.holds_of_wide 4 Try.f4 rfl rfl rfl rfl rfl rfl rfl ⟨rfl, rfl, rfl, rfl, rfl⟩ rfl rfl rfl rfl rfl (by kernel_rfl) Try.func4 (by kernel_rfl)
    (of_decide_eq_true (by kernel_rfl)) (by unfold Func.isWrapper; first | (rw [if_pos (by decide +kernel)]; kernel_rfl) | (rw [if_neg (by decide +kernel)]; exact ⟨rfl, rfl⟩))
    (fun os started H enc _ => lifted os started H enc)

theorem proved : Rows.FnExactStaysInSaid := over
end Go.Proofs.Ytadjojmeihhkhaa.fnExactStaysIn
