/- At every argument the program's Slewed answers as its model, leaves what it was given, and its answer owns its memory. No condition. -/
import Derived.Test.YtgclhjfjoiiclaaRows
import Derived.Test.YtgclhjfjoiiclaaBlSlew2
import Derived.Test.YtgclhjfjoiiclaaBlSlewS
import Derived.WalkKit
import Derived.ProofKit
import Derived.OpenShut
import Derived.ShutString
import Derived.ChangeOld
import Derived.Below
namespace Go.Proofs.Ytgclhjfjoiiclaa.fnExactSlewed
open Go.ChangeShapes Go.WideShapes Go.ChangeAt Go.RowKit
open Go.ChangeMaps (open_string shut_string)
set_option linter.unusedVariables false

theorem own : ownKnob Try.prog.godebug = none := by kernel_rfl
theorem laidOut : laidOutB Try.prog = true := by kernel_rfl

theorem walk (a0 : Option Addr) (cap0 : Nat) (z0 : List Int) (a1 : Option Addr) (cap1 : Nat) (z1 : List Int) (a2 : Int) (w : World) (w0 : il.Ints w a0 z0) (l0 : z0.length ≤ maxLen) (y0 : ∀ n ∈ z0, (Lit.int .i64 n).wf = true) (w1 : il.Ints w a1 z1) (l1 : z1.length ≤ maxLen) (y1 : ∀ n ∈ z1, (Lit.int .i64 n).wf = true) (w2 : (Lit.int .i64 a2).wf = true) :
    Calls Try.prog 8 #[.slice a0 z0.length cap0, .slice a1 z1.length cap1, .int .i64 a2] w fun e w' => e = .returned (.bool true) ∧ Below w.heap.size w w' := by
  have hb := w2
  simp [Lit.wf, IntKind.min, IntKind.max, IntKind.signed, IntKind.bits] at hb
  by_cases h : z0.length ≤ 1048576
  · have hd : decide (1048576 < (z0.length : Int)) = false := by simp; omega
    by_cases k : z1.length ≤ 1048576
    · have hd1 : decide (1048576 < (z1.length : Int)) = false := by simp; omega
      have hM : z0.length ≤ maxLen := l0
      have kM : z1.length ≤ maxLen := l1
      obtain ⟨r, hr⟩ : ∃ r, bl.slew z0 z1 a2 = r := ⟨_, rfl⟩
      have hrl : r.length ≤ 1048576 := by
        rw [← hr]; exact Nat.le_trans (bl.slew_len z0 z1 a2) (by omega)
      have cI : ∀ (a : Option Addr) (c : Nat) (b : Option Addr) (d : Nat) (W : World), il.Ints W a z0 → il.Ints W b z1 → Calls Try.prog 21 #[.slice a z0.length c, .slice b z1.length d, .int .i64 a2] W (il.RetT r W) := fun a c b d W hA hB => hr ▸ bl.implSlewed a b c d z0 z1 a2 W hA hB hM kM
      have cS : ∀ (a : Option Addr) (c : Nat) (b : Option Addr) (d : Nat) (W : World), il.Ints W a z0 → il.Ints W b z1 → Calls Try.prog 23 #[.slice a z0.length c, .slice b z1.length d, .int .i64 a2] W (il.RetI r W) := fun a c b d W hA hB => hr ▸ bl.specSlewed a b c d z0 z1 a2 W hA hB hM kM hb.1 hb.2
      have cM2 : ∀ (a : Option Addr) (c : Nat) (W : World), il.Own W a z1 → Calls Try.prog 28 #[.slice a z1.length c, .int .i64 (1 + (z0.length : Int))] W (fun e w' => e = .returned (.int .i64 (1 + (z0.length : Int) + z1.length)) ∧ W.grownBy w' (il.blk a z1)) := fun a c W hO => by
        have := il.markInts (1 + z0.length) a c z1 W hO (by omega) (by omega)
        rw [Int.natCast_add] at this
        exact this.mono fun e w' ⟨h1, h2, _⟩ => ⟨by rw [h1, Int.natCast_add]; rfl, h2⟩
      clear hr hb l0 l1
      go_enter Try.func8, Try.ntmps8
      go_wp2_with fail
      refine (il.toInts _ _ _ _ w0 h).mono ?_
      rintro e v1 ⟨p1, q1, rfl, g1, o1, _⟩
      go_wp2_with fail
      refine (il.toInts _ _ _ _ (w1.kept g1) k).mono ?_
      rintro e v2 ⟨p2, q2, rfl, g2, o2, _⟩
      replace o1 := o1.kept g2
      replace g1 := mem.gr_trans g1 g2
      clear g2
      go_wp2_with fail
      refine (cS _ _ _ _ _ o1.ints o2.ints).mono ?_
      rintro e v3 ⟨p3, q3, rfl, g3, o3, _⟩
      replace g1 := mem.gr_trans g1 g3
      clear o1 o2 g3
      go_wp2_with fail
      refine (il.toInts _ _ _ _ (w0.kept g1) h).mono ?_
      rintro e v4 ⟨p4, q4, rfl, g4, o4, b4⟩
      go_wp2_with fail
      refine (il.toInts _ _ _ _ ((w1.kept g1).kept g4) k).mono ?_
      rintro e v5 ⟨p5, q5, rfl, g5, o5, b5⟩
      have o4' := o4.kept g5
      have n45 : ∀ x, il.blk p5 z1 = some x → v4.heap.size ≤ x := b5
      have l4 : ∀ x, il.blk p4 z0 = some x → x < v4.heap.size := fun x hx => o4.lt hx
      have l5 : ∀ x, il.blk p5 z1 = some x → x < v5.heap.size := fun x hx => o5.lt hx
      have k4 := mem.gr_trans g4 g5
      have h45 := g5.size
      have h34 := g4.size
      clear o4 g5 g4
      go_wp2_with fail
      refine (cI _ _ _ _ _ o4'.ints o5.ints).mono ?_
      rintro e v6 ⟨p6, q6, rfl, g6, o6, b6⟩
      replace o4' := o4'.kept g6
      replace o5 := o5.kept g6
      replace k4 := mem.gr_trans k4 g6
      clear g6
      go_wp2_with fail
      refine (il.eqInts _ _ _ _ _ _ o6.ints (o3.kept k4).ints hrl).mono ?_
      rintro e v7 ⟨rfl, g7⟩
      replace o4' := o4'.kept g7
      replace o5 := o5.kept g7
      replace o6 := o6.kept g7
      replace k4 := mem.gr_trans k4 g7
      clear g7
      go_wp2_with fail
      refine (il.toInts _ _ _ _ ((w0.kept g1).kept k4) h).mono ?_
      rintro e v8 ⟨p8, q8, rfl, g8, o8, _⟩
      replace o4' := o4'.kept g8
      replace o5 := o5.kept g8
      replace o6 := o6.kept g8
      replace k4 := mem.gr_trans k4 g8
      clear g8
      go_wp2_with fail
      refine (il.eqInts _ _ _ _ _ _ o4'.ints o8.ints h).mono ?_
      rintro e v9 ⟨rfl, g9⟩
      replace o4' := o4'.kept g9
      replace o5 := o5.kept g9
      replace o6 := o6.kept g9
      replace k4 := mem.gr_trans k4 g9
      clear g9 o8
      go_wp2_with fail
      refine (il.toInts _ _ _ _ ((w1.kept g1).kept k4) k).mono ?_
      rintro e v10 ⟨p10, q10, rfl, g10, o10, _⟩
      replace o4' := o4'.kept g10
      replace o5 := o5.kept g10
      replace o6 := o6.kept g10
      replace k4 := mem.gr_trans k4 g10
      clear g10
      go_wp2_with fail
      refine (il.eqInts _ _ _ _ _ _ o5.ints o10.ints k).mono ?_
      rintro e v11 ⟨rfl, g11⟩
      replace o4' := o4'.kept g11
      replace o5 := o5.kept g11
      replace o6 := o6.kept g11
      replace k4 := mem.gr_trans k4 g11
      clear g11 o10
      go_wp2_with fail
      refine (il.markInts 1 _ _ _ _ o4' (by omega) (by omega)).mono ?_
      rintro e v12 ⟨rfl, g12, _⟩
      replace k4 := il.gr_blk k4 g12 b4
      replace o5 := o5.grown g12 (fun x hx e => by have h1 := n45 x hx; have h2 := l4 x e.symm; omega)
      replace o6 := o6.grown g12 (fun x hx e => by have h1 := b6 x hx; have h2 := l4 x e.symm; omega)
      clear g12 o4'
      go_wp2_with fail
      refine (cM2 _ _ _ o5).mono ?_
      rintro e v13 ⟨rfl, g13⟩
      replace k4 := il.gr_blk k4 g13 (fun x hx => by have := n45 x hx; omega)
      replace o6 := o6.grown g13 (fun x hx e => by have h1 := b6 x hx; have h2 := l5 x e.symm; omega)
      clear g13 o5
      go_wp2_with fail
      refine (il.eqInts _ _ _ _ _ _ o6.ints (o3.kept k4).ints hrl).mono ?_
      rintro e v14 ⟨rfl, g14⟩
      replace o6 := o6.kept g14
      replace k4 := mem.gr_trans k4 g14
      clear g14
      have h56 : ∀ x, il.blk p6 r = some x → v3.heap.size ≤ x := fun x hx => by have := b6 x hx; omega
      go_wp2_with fail
      refine (il.markIntsT 1 _ _ _ _ o6 (by omega) (by omega)).mono ?_
      rintro e v15 ⟨rfl, g15, o15⟩
      replace k4 := il.gr_blk k4 g15 h56
      clear g15 o6
      go_wp2_with fail
      refine (il.heldInts 1 _ _ _ _ o15.ints (by omega) (by omega)).mono ?_
      rintro e v16 ⟨rfl, g16⟩
      replace k4 := mem.gr_trans k4 g16
      replace o15 := o15.kept g16
      clear g16
      go_wp2_with fail
      refine (il.toInts _ _ _ _ ((w0.kept g1).kept k4) h).mono ?_
      rintro e v17 ⟨p17, q17, rfl, g17, o17, _⟩
      replace o15 := o15.kept g17
      replace k4 := mem.gr_trans k4 g17
      clear g17
      go_wp2_with fail
      refine (il.toInts _ _ _ _ ((w1.kept g1).kept k4) k).mono ?_
      rintro e v18 ⟨p18, q18, rfl, g18, o18, _⟩
      replace o17 := o17.kept g18
      replace o15 := o15.kept g18
      replace k4 := mem.gr_trans k4 g18
      clear g18
      go_wp2_with fail
      refine (cI _ _ _ _ _ o17.ints o18.ints).mono ?_
      rintro e v19 ⟨p19, q19, rfl, g19, o19, _⟩
      replace o15 := o15.kept g19
      replace k4 := mem.gr_trans k4 g19
      clear g19 o17 o18
      go_wp2_with fail
      refine (il.eqInts _ _ _ _ _ _ o19.ints (o3.kept k4).ints hrl).mono ?_
      rintro e v20 ⟨rfl, g20⟩
      replace o15 := o15.kept g20
      replace k4 := mem.gr_trans k4 g20
      clear g20 o19
      go_wp2_with fail
      refine (il.heldInts 1 _ _ _ _ o15.ints (by omega) (by omega)).mono ?_
      rintro e v21 ⟨rfl, g21⟩
      go_wp2_with fail
      go_ret
      exact ⟨rfl, mem.below_of_none (mem.gr_trans g1 (mem.gr_trans k4 g21))⟩
    · have hd1 : decide (1048576 < (z1.length : Int)) = true := by simp; omega
      go_enter Try.func8, Try.ntmps8
      go_wp2_with fail
      go_ret
      exact ⟨rfl, Below.refl _ _⟩
  · have hd : decide (1048576 < (z0.length : Int)) = true := by simp; omega
    go_enter Try.func8, Try.ntmps8
    go_wp2_with fail
    go_ret
    exact ⟨rfl, Below.refl _ _⟩

set_option maxRecDepth 100000 in
theorem lifted (os : Os) (started : os.Started) (H : Type) (enc : TypeId × Value → H) :
    ReturnsInHanded {} Try.checked os 8 .any (Rows.fnExactSlewedSpec.pre6 enc Try.prog Try.f8 Rows.fnExactSlewedRow.domain false) (Rows.fnExactSlewedSpec.post enc Try.prog Try.f8 false true false false) := by
  refine returnsInHanded_of_change (C := Try.checked) own started (by kernel_rfl) Try.func8
    (ChangeSpec.witness6 (enc := enc) (C := Try.checked) false ⟨#[], #[.slice none 0 0, .slice none 0 0, .int .i64 0], []⟩ 8 (by kernel_rfl) (by kernel_rfl) (by kernel_rfl) (by kernel_rfl)) ?_
  intro W base args ds gs before hval0 hW hcnd _
  have hval : ∀ (j : Nat) t v, Try.f8.params[j]? = some t → args[j]? = some v → Value.okWide Try.prog W .any base t v := hval0
  have hW' := hW
  obtain ⟨p, q, hA0, hV, rfl, hfz, hnd⟩ := hW
  have hA : DataW.TrodAll enc Try.prog W 0 (fun _ => true) true Try.f8.params.toList args.toList ds p := hA0
  rw [Try.params8] at hA hval
  obtain ⟨v0, vs0, d0, ds0, p0, q0, hargs, rfl, rfl, h0, r0⟩ := trodAll_cons hA
  obtain ⟨v1, vs1, d1, ds1, p1, q1, rfl, rfl, rfl, h1, r1⟩ := trodAll_cons r0
  obtain ⟨v2, vs2, d2, ds2, p2, q2, rfl, rfl, rfl, h2, r2⟩ := trodAll_cons r1
  obtain ⟨rfl, rfl, rfl⟩ := trodAll_nil r2
  obtain rfl : args = #[v0, v1, v2] := by cases args; simp_all
  obtain ⟨rfl, rfl⟩ := trodVars_none hV
  have k0 := h0
  have lt0 : ∀ x ∈ p0, x.block < W.heap.size := by obtain ⟨m, hm⟩ := k0; exact DataW.trod_lt m _ _ _ hm
  have k1 := h1
  have lt1 : ∀ x ∈ p1, x.block < W.heap.size := by obtain ⟨m, hm⟩ := k1; exact DataW.trod_lt m _ _ _ hm
  have k2 := h2
  have lt2 : ∀ x ∈ p2, x.block < W.heap.size := by obtain ⟨m, hm⟩ := k2; exact DataW.trod_lt m _ _ _ hm
  obtain ⟨a0, len0, cap0, rfl⟩ := okWide_slice Try.underlying34 (hval 0 34 v0 rfl rfl)
  obtain ⟨z0, e0, l0, w0, y0⟩ := il.open_ints' h0
  subst e0
  obtain ⟨a1, len1, cap1, rfl⟩ := okWide_slice Try.underlying34 (hval 1 34 v1 rfl rfl)
  obtain ⟨z1, e1, l1, w1, y1⟩ := il.open_ints' h1
  subst e1
  obtain ⟨a2, rfl, rfl, rfl, w2⟩ := open_int Try.underlying2 (hval 2 2 v2 rfl rfl) h2
  clear hA0 hval0
  refine (walk a0 cap0 z0 a1 cap1 z1 a2 W w0 l0 y0 w1 l1 y1 w2).mono fun e W' ⟨he, bel⟩ => ?_
  subst he
  exact ⟨_, rfl, _, _, _, [], _, [], hW', trodAll_mk1 (shut_bool Try.underlying4 _), (trodAll_cons_mk (Below.trod laidOut (by kernel_rfl) (of_decide_eq_true (by kernel_rfl)) k0 bel lt0) (trodAll_cons_mk (Below.trod laidOut (by kernel_rfl) (of_decide_eq_true (by kernel_rfl)) k1 bel lt1) (trodAll_cons_mk (Below.trod laidOut (by kernel_rfl) (of_decide_eq_true (by kernel_rfl)) k2 bel lt2) trodAll_mk0))), rfl, bel.frame _, fun h => by cases h⟩

theorem over : Rows.fnExactSlewedRow.holds Try.pinned (OpenSpec.ofChange Rows.fnExactSlewedSpec) :=
  OpenClaim.holds_of_wide 8 Try.f8 rfl rfl rfl rfl rfl rfl rfl ⟨rfl, rfl, rfl, rfl, rfl⟩ rfl rfl rfl rfl rfl (by kernel_rfl) Try.func8 (by kernel_rfl)
    (of_decide_eq_true (by kernel_rfl)) (by unfold Func.isWrapper; first | (rw [if_pos (by decide +kernel)]; kernel_rfl) | (rw [if_neg (by decide +kernel)]; exact ⟨rfl, rfl⟩))
    (fun os started H enc _ => lifted os started H enc)

theorem proved : Rows.FnExactSlewedSaid := over
end Go.Proofs.Ytgclhjfjoiiclaa.fnExactSlewed
