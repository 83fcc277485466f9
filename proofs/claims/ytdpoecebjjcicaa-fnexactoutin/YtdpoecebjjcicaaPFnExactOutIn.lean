/- At every argument the program's OutIn answers as its model, leaves what it was given, and its answer owns its memory. No condition. -/
import Derived.Test.YtdpoecebjjcicaaRows
import Derived.Test.YtdpoecebjjcicaaFaOut
import Derived.Test.YtdpoecebjjcicaaFaMark
import Derived.WalkKit
import Derived.ProofKit
import Derived.OpenShut
import Derived.ShutString
import Derived.ChangeOld
import Derived.Below
namespace Go.Proofs.Ytdpoecebjjcicaa.fnExactOutIn
open Go.ChangeShapes Go.WideShapes Go.ChangeAt Go.RowKit
open Go.ChangeMaps (open_string shut_string)
set_option linter.unusedVariables false

theorem own : ownKnob Try.prog.godebug = none := by kernel_rfl
theorem laidOut : laidOutB Try.prog = true := by kernel_rfl

theorem walk (a0 : Option Addr) (cap0 : Nat) (z0 : List fan.F) (w : World) (w0 : fan.Arg w a0 z0) (l0 : z0.length ≤ maxLen) :
    Calls Try.prog 7 #[.slice a0 z0.length cap0] w fun e w' => e = .returned (.bool true) ∧ Below w.heap.size w w' := by
  by_cases h : z0.length ≤ 1048576
  · have hd : (if z0.length ≤ 1048576 then 1048576 - (z0.length : Int) else -1) = 1048576 - (z0.length : Int) := if_pos h
    obtain ⟨r, hr⟩ : ∃ r, fan.outIn z0 = r := ⟨_, rfl⟩
    have hrl : r.length ≤ 1048576 := by
      rw [← hr]; exact Nat.le_trans (fan.outIn_len z0) (by omega)
    have cI : ∀ (a : Option Addr) (cap : Nat) (W : World), fan.Arg W a z0 → Calls Try.prog 12 #[.slice a z0.length cap] W (il.RetI r W) := fun a cap W hA => hr ▸ fan.implOutIn a cap z0 W hA h
    have cS : ∀ (a : Option Addr) (cap : Nat) (W : World), fan.Arg W a z0 → Calls Try.prog 15 #[.slice a z0.length cap] W (il.RetI r W) := fun a cap W hA => hr ▸ fan.specOutIn a cap z0 W hA h
    clear hr
    go_enter Try.func7, Try.ntmps7
    go_wp2_with fail
    refine (fan.szFans _ _ _ _ l0).mono ?_
    rintro e w' ⟨rfl, rfl⟩
    rw [hd]; clear hd
    go_wp2_with fail
    refine (fan.toFans _ _ _ _ w0 h).mono ?_
    rintro e w1 ⟨a1, c1, rfl, g1, o1, _⟩
    go_wp2_with fail
    refine (cS _ _ _ o1.arg).mono ?_
    rintro e w2 ⟨a2, c2, rfl, g2, o2, _⟩
    replace g2 := mem.gr_trans g1 g2
    clear g1 o1
    go_wp2_with fail
    refine (fan.toFans _ _ _ _ (w0.kept g2) h).mono ?_
    rintro e w3 ⟨a3, c3, rfl, g3, o3, b3⟩
    go_wp2_with fail
    refine (cI _ _ _ o3.arg).mono ?_
    rintro e w4 ⟨a4, c4, rfl, g4, o4, b4⟩
    have o34 := o3.kept g4
    have k4 := mem.gr_trans g3 g4
    go_wp2_with fail
    refine (il.eqInts _ _ _ _ _ _ o4.ints (o2.kept k4).ints hrl).mono ?_
    rintro e w5 ⟨rfl, g5⟩
    replace k4 := mem.gr_trans k4 g5
    replace o34 := o34.kept g5
    replace o4 := o4.kept g5
    go_wp2_with fail
    refine (fan.toFans _ _ _ _ ((w0.kept g2).kept k4) h).mono ?_
    rintro e w6 ⟨a6, c6, rfl, g6, o6, _⟩
    replace k4 := mem.gr_trans k4 g6
    replace o34 := o34.kept g6
    replace o4 := o4.kept g6
    go_wp2_with fail
    refine (fan.eqFans _ _ _ _ _ _ o34.arg o6.arg h).mono ?_
    rintro e w7 ⟨rfl, g7⟩
    replace k4 := mem.gr_trans k4 g7
    replace o34 := o34.kept g7
    replace o4 := o4.kept g7
    clear o6 g5 g6 g7
    go_wp2_with fail
    refine (fan.markFans 1 _ _ _ _ o34 h (by omega)).mono ?_
    rintro e w8 ⟨rfl, g8, o8⟩
    replace k4 := fan.gr_blk k4 g8 b3
    replace o4 := o4.grown g8 (fun x hx => fan.ne_blk' (B := w3.heap.size) (fun y hy => o3.lt hy) (b4 x hx))
    clear o8 g8 o34
    go_wp2_with fail
    refine (il.eqInts _ _ _ _ _ _ o4.ints (o2.kept k4).ints hrl).mono ?_
    rintro e w9 ⟨rfl, g9⟩
    replace k4 := mem.gr_trans k4 g9
    replace o4 := o4.kept g9
    clear g9
    go_wp2_with fail
    refine (il.markInts 1 _ _ _ _ o4 (by omega) (by omega)).mono ?_
    rintro e w10 ⟨rfl, g10, o10⟩
    replace k4 := il.gr_blk k4 g10 (fun x hx => Nat.le_trans g3.size (b4 x hx))
    clear g10 o4
    go_wp2_with fail
    refine (il.heldInts 1 _ _ _ _ o10.ints (by omega) (by omega)).mono ?_
    rintro e w11 ⟨rfl, g11⟩
    replace k4 := mem.gr_trans k4 g11
    replace o10 := o10.kept g11
    clear g11
    go_wp2_with fail
    refine (fan.toFans _ _ _ _ ((w0.kept g2).kept k4) h).mono ?_
    rintro e w12 ⟨a12, c12, rfl, g12, o12, _⟩
    go_wp2_with fail
    refine (cI _ _ _ o12.arg).mono ?_
    rintro e w13 ⟨a13, c13, rfl, g13, o13, _⟩
    replace k4 := mem.gr_trans k4 (mem.gr_trans g12 g13)
    replace o10 := (o10.kept g12).kept g13
    clear o12 g12 g13
    go_wp2_with fail
    refine (il.eqInts _ _ _ _ _ _ o13.ints (o2.kept k4).ints hrl).mono ?_
    rintro e w14 ⟨rfl, g14⟩
    replace k4 := mem.gr_trans k4 g14
    replace o10 := o10.kept g14
    clear g14 o13
    go_wp2_with fail
    refine (il.heldInts 1 _ _ _ _ o10.ints (by omega) (by omega)).mono ?_
    rintro e w15 ⟨rfl, g15⟩
    go_wp2_with fail
    go_ret
    exact ⟨rfl, mem.below_of_none (mem.gr_trans g2 (mem.gr_trans k4 g15))⟩
  · have hd : (if z0.length ≤ 1048576 then 1048576 - (z0.length : Int) else -1) = -1 := if_neg h
    go_enter Try.func7, Try.ntmps7
    go_wp2_with fail
    refine (fan.szFans _ _ _ _ l0).mono ?_
    rintro e w' ⟨rfl, rfl⟩
    rw [hd]; clear hd
    go_wp2_with fail
    go_ret
    exact ⟨rfl, Below.refl _ _⟩

set_option maxRecDepth 100000 in
theorem lifted (os : Os) (started : os.Started) (H : Type) (enc : TypeId × Value → H) :
    ReturnsInHanded {} Try.checked os 7 .any (Rows.fnExactOutInSpec.pre6 enc Try.prog Try.f7 Rows.fnExactOutInRow.domain false) (Rows.fnExactOutInSpec.post enc Try.prog Try.f7 false true false false) := by
  refine returnsInHanded_of_change (C := Try.checked) own started (by kernel_rfl) Try.func7
    (ChangeSpec.witness6 (enc := enc) (C := Try.checked) false ⟨#[], #[.slice none 0 0], []⟩ 8 (by kernel_rfl) (by kernel_rfl) (by kernel_rfl) (by kernel_rfl)) ?_
  intro W base args ds gs before hval0 hW hcnd _
  have hval : ∀ (j : Nat) t v, Try.f7.params[j]? = some t → args[j]? = some v → Value.okWide Try.prog W .any base t v := hval0
  have hW' := hW
  obtain ⟨p, q, hA0, hV, rfl, hfz, hnd⟩ := hW
  have hA : DataW.TrodAll enc Try.prog W 0 (fun _ => true) true Try.f7.params.toList args.toList ds p := hA0
  rw [Try.params7] at hA hval
  obtain ⟨v0, vs0, d0, ds0, p0, q0, hargs, rfl, rfl, h0, r0⟩ := trodAll_cons hA
  obtain ⟨rfl, rfl, rfl⟩ := trodAll_nil r0
  obtain rfl : args = #[v0] := by cases args; simp_all
  obtain ⟨rfl, rfl⟩ := trodVars_none hV
  have k0 := h0
  have lt0 : ∀ x ∈ p0, x.block < W.heap.size := by obtain ⟨m, hm⟩ := k0; exact DataW.trod_lt m _ _ _ hm
  obtain ⟨a0, len0, cap0, rfl⟩ := okWide_slice Try.underlying50 (hval 0 50 v0 rfl rfl)
  obtain ⟨z0, e0, l0, w0⟩ := fan.open_fans h0
  subst e0
  clear hA0 hval0
  refine (walk a0 cap0 z0 W w0 l0).mono fun e W' ⟨he, bel⟩ => ?_
  subst he
  exact ⟨_, rfl, _, _, _, [], _, [], hW', trodAll_mk1 (shut_bool Try.underlying4 _), (trodAll_cons_mk (Below.trod laidOut (by kernel_rfl) (of_decide_eq_true (by kernel_rfl)) k0 bel lt0) trodAll_mk0), rfl, bel.frame _, fun h => by cases h⟩

theorem over : Rows.fnExactOutInRow.holds Try.pinned (OpenSpec.ofChange Rows.fnExactOutInSpec) :=
  OpenClaim.holds_of_wide 7 Try.f7 rfl rfl rfl rfl rfl rfl rfl ⟨rfl, rfl, rfl, rfl, rfl⟩ rfl rfl rfl rfl rfl (by kernel_rfl) Try.func7 (by kernel_rfl)
    (of_decide_eq_true (by kernel_rfl)) (by unfold Func.isWrapper; first | (rw [if_pos (by decide +kernel)]; kernel_rfl) | (rw [if_neg (by decide +kernel)]; exact ⟨rfl, rfl⟩))
    (fun os started H enc _ => lifted os started H enc)

theorem proved : Rows.FnExactOutInSaid := over
end Go.Proofs.Ytdpoecebjjcicaa.fnExactOutIn
