/- At every argument the program's VoteThree answers as its model and leaves what it was given. No condition. -/
import Derived.Test.YtpnldabphflgeaaRows
import Derived.Test.YtpnldabphflgeaaVtVote
import Derived.WalkKit
import Derived.ProofKit
import Derived.OpenShut
import Derived.ShutString
import Derived.ChangeOld
import Derived.Below
namespace Go.Proofs.Ytpnldabphflgeaa.fnExactVoteThree
open Go.ChangeShapes Go.WideShapes Go.ChangeAt Go.RowKit
open Go.ChangeMaps (open_string shut_string)
set_option linter.unusedVariables false

theorem own : ownKnob Try.prog.godebug = none := by kernel_rfl
theorem laidOut : laidOutB Try.prog = true := by kernel_rfl

theorem walk (a0 : Option Addr) (cap0 : Nat) (z0 : List rd.R) (a1 : Int) (w : World) (w0 : rd.Arg w a0 z0) (l0 : z0.length ≤ maxLen) (w1 : (Lit.int .i64 a1).wf = true) :
    Calls Try.prog 6 #[.slice a0 z0.length cap0, .int .i64 a1] w fun e w' => e = .returned (.bool true) ∧ Below w.heap.size w w' := by
  by_cases h : z0.length ≤ 1048576
  · have hd : (if z0.length ≤ 1048576 then 1048576 - (z0.length : Int) else -1) = 1048576 - (z0.length : Int) := if_pos h
    obtain ⟨⟨x, o⟩, hr⟩ : ∃ r, vt.voteThree z0 a1 = r := ⟨_, rfl⟩
    have cI : ∀ (a : Option Addr) (cap : Nat) (W : World), rd.Arg W a z0 → Calls Try.prog 10 #[.slice a z0.length cap, .int .i64 a1] W (vt.RetV (x, o) W) := fun a cap W hA => hr ▸ vt.implVoteThree a cap z0 a1 W hA h
    have cS : ∀ (a : Option Addr) (cap : Nat) (W : World), rd.Arg W a z0 → Calls Try.prog 15 #[.slice a z0.length cap, .int .i64 a1] W (vt.RetV (x, o) W) := fun a cap W hA => hr ▸ vt.specVoteThree a cap z0 a1 W hA h
    clear hr
    go_enter Try.func6, Try.ntmps6
    go_wp2_with fail
    refine (rd.szReadings _ _ _ _ l0).mono ?_
    rintro e w' ⟨rfl, rfl⟩
    rw [hd]; clear hd
    go_wp2_with fail
    refine (rd.toReadings _ _ _ _ w0 h).mono ?_
    rintro e w1 ⟨p1, c1, rfl, g1, o1, _⟩
    go_wp2_with fail
    refine (cS _ _ _ o1.arg).mono ?_
    rintro e w2 ⟨rfl, g2⟩
    replace g2 := mem.gr_trans g1 g2
    clear g1 o1
    go_wp2_with fail
    refine (rd.toReadings _ _ _ _ (w0.kept g2) h).mono ?_
    rintro e w3 ⟨p3, c3, rfl, g3, o3, b3⟩
    go_wp2_with fail
    refine (cI _ _ _ o3.arg).mono ?_
    rintro e w4 ⟨rfl, g4⟩
    replace o3 := o3.kept g4
    have k4 := mem.gr_trans g2 (mem.gr_trans g3 g4)
    clear g2 g3 g4 cI cS
    go_wp2_with fail
    refine (rd.toReadings _ _ _ _ (w0.kept k4) h).mono ?_
    rintro e w6 ⟨p6, c6, rfl, g6, o6, _⟩
    replace k4 := mem.gr_trans k4 g6
    replace o3 := o3.kept g6
    go_wp2_with fail
    refine (rd.eqReadings _ _ _ _ _ _ o3.arg o6.arg h).mono ?_
    rintro e w7 ⟨rfl, g7⟩
    replace k4 := mem.gr_trans k4 g7
    go_wp2_with fail
    go_ret
    exact ⟨rfl, mem.below_of_none k4⟩
  · have hd : (if z0.length ≤ 1048576 then 1048576 - (z0.length : Int) else -1) = -1 := if_neg h
    go_enter Try.func6, Try.ntmps6
    go_wp2_with fail
    refine (rd.szReadings _ _ _ _ l0).mono ?_
    rintro e w' ⟨rfl, rfl⟩
    rw [hd]; clear hd
    go_wp2_with fail
    go_ret
    exact ⟨rfl, Below.refl _ _⟩

set_option maxRecDepth 100000 in
theorem lifted (os : Os) (started : os.Started) (H : Type) (enc : TypeId × Value → H) :
    ReturnsInHanded {} Try.checked os 6 .any (Rows.fnExactVoteThreeSpec.pre6 enc Try.prog Try.f6 Rows.fnExactVoteThreeRow.domain false) (Rows.fnExactVoteThreeSpec.post enc Try.prog Try.f6 false true false false) := by
  refine returnsInHanded_of_change (C := Try.checked) own started (by kernel_rfl) Try.func6
    (ChangeSpec.witness6 (enc := enc) (C := Try.checked) false ⟨#[], #[.slice none 0 0, .int .i64 0], []⟩ 8 (by kernel_rfl) (by kernel_rfl) (by kernel_rfl) (by kernel_rfl)) ?_
  intro W base args ds gs before hval0 hW hcnd _
  have hval : ∀ (j : Nat) t v, Try.f6.params[j]? = some t → args[j]? = some v → Value.okWide Try.prog W .any base t v := hval0
  have hW' := hW
  obtain ⟨p, q, hA0, hV, rfl, hfz, hnd⟩ := hW
  have hA : DataW.TrodAll enc Try.prog W 0 (fun _ => true) true Try.f6.params.toList args.toList ds p := hA0
  rw [Try.params6] at hA hval
  obtain ⟨v0, vs0, d0, ds0, p0, q0, hargs, rfl, rfl, h0, r0⟩ := trodAll_cons hA
  obtain ⟨v1, vs1, d1, ds1, p1, q1, rfl, rfl, rfl, h1, r1⟩ := trodAll_cons r0
  obtain ⟨rfl, rfl, rfl⟩ := trodAll_nil r1
  obtain rfl : args = #[v0, v1] := by cases args; simp_all
  obtain ⟨rfl, rfl⟩ := trodVars_none hV
  have k0 := h0
  have lt0 : ∀ x ∈ p0, x.block < W.heap.size := by obtain ⟨m, hm⟩ := k0; exact DataW.trod_lt m _ _ _ hm
  have k1 := h1
  have lt1 : ∀ x ∈ p1, x.block < W.heap.size := by obtain ⟨m, hm⟩ := k1; exact DataW.trod_lt m _ _ _ hm
  obtain ⟨a0, len0, cap0, rfl⟩ := okWide_slice Try.underlying40 (hval 0 40 v0 rfl rfl)
  obtain ⟨z0, e0, l0, w0⟩ := rd.open_readings h0
  subst e0
  obtain ⟨a1, rfl, rfl, rfl, w1⟩ := open_int Try.underlying2 (hval 1 2 v1 rfl rfl) h1
  clear hA0 hval0
  refine (walk a0 cap0 z0 a1 W w0 l0 w1).mono fun e W' ⟨he, bel⟩ => ?_
  subst he
  exact ⟨_, rfl, _, _, _, [], _, [], hW', trodAll_mk1 (shut_bool Try.underlying4 _), (trodAll_cons_mk (Below.trod laidOut (by kernel_rfl) (of_decide_eq_true (by kernel_rfl)) k0 bel lt0) (trodAll_cons_mk (Below.trod laidOut (by kernel_rfl) (of_decide_eq_true (by kernel_rfl)) k1 bel lt1) trodAll_mk0)), rfl, bel.frame _, fun h => by cases h⟩

theorem over : Rows.fnExactVoteThreeRow.holds Try.pinned (OpenSpec.ofChange Rows.fnExactVoteThreeSpec) :=
  OpenClaim.holds_of_wide 6 Try.f6 rfl rfl rfl rfl rfl rfl rfl ⟨rfl, rfl, rfl, rfl, rfl⟩ rfl rfl rfl rfl rfl (by kernel_rfl) Try.func6 (by kernel_rfl)
    (of_decide_eq_true (by kernel_rfl)) (by unfold Func.isWrapper; first | (rw [if_pos (by decide +kernel)]; kernel_rfl) | (rw [if_neg (by decide +kernel)]; exact ⟨rfl, rfl⟩))
    (fun os started H enc _ => lifted os started H enc)

theorem proved : Rows.FnExactVoteThreeSaid := over
end Go.Proofs.Ytpnldabphflgeaa.fnExactVoteThree
