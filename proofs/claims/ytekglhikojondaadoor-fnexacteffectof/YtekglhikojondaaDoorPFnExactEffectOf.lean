/- At every argument EffectOf answers as its model, and its answer owns its memory; the law FnExactEffectOf returns true, and its argument reads as before. Its condition is the card's own: that the variable of the weights holds what its initialiser lays. -/
import Derived.Test.YtekglhikojondaaDoorRows
import Derived.Test.YtekglhikojondaaDoorTie
import Derived.Test.YtekglhikojondaaDoorCards
import Derived.Test.YtekglhikojondaaDoorShLaid
import Derived.Test.YtekglhikojondaaDoorShEffS
import Derived.WalkKit
import Derived.ProofKit
import Derived.OpenShut
import Derived.ShutString
import Derived.ChangeOld
import Derived.Below
import Derived.WalkSmall
import Derived.LaidMore
import Derived.Stop.Joined
import Derived.Stop.LaidErr
import Derived.Lib.LaidTab
import Derived.Lib.LaidU8
import Derived.SevenTiedAt
namespace Go.Proofs.YtekglhikojondaaDoor.fnExactEffectOf
open Go.ChangeShapes Go.WideShapes Go.ChangeAt Go.RowKit
open Go.ChangeMaps (open_string shut_string)
set_option linter.unusedVariables false

theorem own : ownKnob Tryd.prog.godebug = none := by kernel_rfl
theorem laidOut : laidOutB Tryd.prog = true := by kernel_rfl
theorem gVals : Tryd.prog.globalNamed "loop.example/g00619/impl.fanWeights" = some 0 := by kernel_rfl
theorem gValsType : (Tryd.prog.globals[0]?).map (·.type) = some 58 := by kernel_rfl

theorem walk (a0 : Int) (w : World) (w0 : (Lit.int .i64 a0).wf = true) (hv : sh.Wts w) :
    Calls Tryd.prog 8 #[.int .i64 a0] w fun e w' => e = .returned (.bool true) ∧ Below w.heap.size w w' := by
  obtain ⟨r, hr⟩ : ∃ r, sh.effect a0 = r := ⟨_, rfl⟩
  have hrl : r.length ≤ 4 := by
    rw [← hr]; unfold sh.effect; split
    · exact Nat.le_refl _
    · exact Nat.zero_le _
  have cI : ∀ W, sh.Wts W → Calls Tryd.prog 12 #[.int .i64 a0] W (il.RetI r W) := fun W hW => hr ▸ sh.implEffectOf a0 W hW
  have cS : ∀ W, Calls Tryd.prog 15 #[.int .i64 a0] W (il.RetI r W) := fun W => hr ▸ sh.specEffectOf a0 W
  clear hr
  go_enter Tryd.func8, Tryd.ntmps8
  go_wp2_with fail
  refine (cS _).mono ?_
  rintro e w1 ⟨a1, c1, rfl, g1, o1, _⟩
  go_wp2_with fail
  refine (cI _ (hv.kept g1)).mono ?_
  rintro e w2 ⟨a2, c2, rfl, k4, o4, b4⟩
  go_wp2_with fail
  refine (il.eqInts _ _ _ _ _ _ o4.ints (o1.kept k4).ints (by omega)).mono ?_
  rintro e w3 ⟨rfl, g5⟩
  replace k4 := mem.gr_trans k4 g5
  replace o4 := o4.kept g5
  clear g5
  go_wp2_with fail
  refine (il.markInts 1 _ _ _ _ o4 (by omega) (by omega)).mono ?_
  rintro e w4 ⟨rfl, g10, o10⟩
  replace k4 := il.gr_blk k4 g10 b4
  clear g10 o4
  go_wp2_with fail
  refine (il.heldInts 1 _ _ _ _ o10.ints (by omega) (by omega)).mono ?_
  rintro e w5 ⟨rfl, g11⟩
  replace k4 := mem.gr_trans k4 g11
  replace o10 := o10.kept g11
  clear g11
  go_wp2_with fail
  refine (cI _ (hv.kept (mem.gr_trans g1 k4))).mono ?_
  rintro e w6 ⟨a13, c13, rfl, g13, o13, _⟩
  replace k4 := mem.gr_trans k4 g13
  replace o10 := o10.kept g13
  clear g13
  go_wp2_with fail
  refine (il.eqInts _ _ _ _ _ _ o13.ints (o1.kept k4).ints (by omega)).mono ?_
  rintro e w7 ⟨rfl, g14⟩
  replace k4 := mem.gr_trans k4 g14
  replace o10 := o10.kept g14
  clear g14 o13
  go_wp2_with fail
  refine (il.heldInts 1 _ _ _ _ o10.ints (by omega) (by omega)).mono ?_
  rintro e w8 ⟨rfl, g15⟩
  go_wp2_with fail
  go_ret
  exact ⟨rfl, mem.below_of_none (mem.gr_trans g1 (mem.gr_trans k4 g15))⟩

/-- The door's own heap meets the condition. -/
theorem door_met (os : Os) (args : Array Value) : laidMetH Tryd.prog Rows.fnExactEffectOfRow.laid ((World.doorLaid Tryd.prog 400 os).forCall (fun _ _ => 0) ⟨#[], args, []⟩).memory :=
  laidMetH_of_parts3 (fuel := 8) (laidMet_of_run' 8 (by kernel_rfl) (by kernel_rfl)) (by kernel_rfl) (by kernel_rfl)

theorem of_laid {W : World} (h : laidMetH Tryd.prog Rows.fnExactEffectOfRow.laid W) : sh.Wts W := by
  rw [MakeChecks.laidMetH_plain _ _ _ (by kernel_rfl)] at h
  exact sh.wts_of_head gVals gValsType h

set_option maxRecDepth 100000 in
set_option maxHeartbeats 4000000 in
theorem lifted (os : Os) (started : os.Started) (H : Type) (enc : TypeId × Value → H) :
    ReturnsInHanded {} Tryd.checked os 8 .any (fun w args => (Rows.fnExactEffectOfSpec.pre enc Tryd.prog Tryd.f8 [] false w args ∧ laidMetH Tryd.prog Rows.fnExactEffectOfRow.laid w) ∧ sizedMet enc Tryd.prog Tryd.f8 (OpenSpec.ofChange Rows.fnExactEffectOfSpec) false w args)
      (Rows.fnExactEffectOfSpec.post enc Tryd.prog Tryd.f8 false true false false) := by
  refine returnsInHanded_of_change_and (C := Tryd.checked) (X := fun w _ => laidMetH Tryd.prog Rows.fnExactEffectOfRow.laid w) (fun _ _ _ hh h => h.of_heap hh) own started (by kernel_rfl) Tryd.func8
    (ChangeSpec.witness_shaped (enc := enc) (C := Tryd.checked) (os := os) (X := fun w _ => laidMetH Tryd.prog Rows.fnExactEffectOfRow.laid w) false (World.doorLaid Tryd.prog 400 os) #[.int .i64 0] 8 rfl (World.shaped_of_RefB (by kernel_rfl) (by kernel_rfl)) (by kernel_rfl) (by kernel_rfl) (by kernel_rfl) (door_met os _)) ?_
  intro W base args ds gs before hval0 hW _ _ hL _
  have hval : ∀ (j : Nat) t v, Tryd.f8.params[j]? = some t → args[j]? = some v → Value.okWide Tryd.prog W .any base t v := hval0
  have hW' := hW
  obtain ⟨p, q, hA0, hV, rfl, hfz, hnd⟩ := hW
  have hA : DataW.TrodAll enc Tryd.prog W 0 (fun _ => true) true Tryd.f8.params.toList args.toList ds p := hA0
  rw [Tryd.params8] at hA hval
  obtain ⟨v0, vs0, d0, ds0, p0, q0, hargs, rfl, rfl, h0, r0⟩ := trodAll_cons hA
  obtain ⟨rfl, rfl, rfl⟩ := trodAll_nil r0
  obtain rfl : args = #[v0] := by cases args; simp_all
  obtain ⟨gg, tt, cs, fuel, dv, pv, rfl, hg, ht, hvar, hd, rfl⟩ := trodVars_one hV
  have k0 := h0
  have lt0 : ∀ x ∈ p0, x.block < W.heap.size := by obtain ⟨m, hm⟩ := k0; exact DataW.trod_lt m _ _ _ hm
  obtain ⟨a0, rfl, rfl, rfl, w0⟩ := open_int Tryd.underlying2 (hval 0 2 v0 rfl rfl) h0
  have hVals := of_laid hL
  clear hA0 hval0
  have hltv : ∀ x ∈ pv, x.block < W.heap.size := DataW.trod_lt fuel _ _ _ hd
  obtain rfl := Option.some.inj (gVals.symm.trans hg)
  obtain rfl := Option.some.inj (gValsType.symm.trans ht)
  have hd2 : DataW.trod enc Tryd.prog W 0 (fun _ => true) true fuel 58 cs.toList = some (dv, pv) := hd
  have hgg : 0 < W.heap.size := hVals.1
  refine (walk a0 W w0 hVals).mono fun e W' ⟨he, bel⟩ => ?_
  subst he
  obtain ⟨fuel', hd'⟩ := Below.trod laidOut (by kernel_rfl) (of_decide_eq_true (by kernel_rfl)) (v := .agg cs) (⟨fuel, by simpa [Value.cells] using hd2⟩ : DataW.Trod enc Tryd.prog W 0 (fun _ => true) true 58 (.agg cs) dv pv) bel hltv
  have hv' : DataW.TrodVars enc Tryd.prog W' (fun b => decide (b < W.heap.size)) ["loop.example/g00619/impl.fanWeights"] [dv] (MemPlace.row ⟨0, 0, none⟩ cs.size ++ pv) := trodVars_mk1 hg ht (var?_below bel hg hgg hvar) (by simpa [Value.cells] using hd')
  exact ⟨_, rfl, _, _, _, [], _, _, hW', trodAll_mk1 (shut_bool Tryd.underlying4 _), (trodAll_cons_mk (Below.trod laidOut (by kernel_rfl) (of_decide_eq_true (by kernel_rfl)) k0 bel lt0) trodAll_mk0), hv', bel.frame _, fun h => by cases h⟩

theorem over : Rows.fnExactEffectOfRow.holds Tryd.pinned (OpenSpec.ofChange Rows.fnExactEffectOfSpec) :=
  OpenClaim.holds_of_wide 8 Tryd.f8 rfl rfl rfl rfl rfl rfl rfl ⟨rfl, rfl, rfl, rfl, rfl⟩ rfl rfl rfl rfl rfl (by kernel_rfl) Tryd.func8 (by kernel_rfl)
    (of_decide_eq_true (by kernel_rfl)) (by unfold Func.isWrapper; first | (rw [if_pos (by decide +kernel)]; kernel_rfl) | (rw [if_neg (by decide +kernel)]; exact ⟨rfl, rfl⟩))
    (fun os started H enc _ => lifted os started H enc)

theorem proved : Rows.FnExactEffectOfCardSaid :=
  Claim7.holds_tied_plain_at .later [] [.data] true (true, "7dc7babcab558d1beccfa0bbc32ba9568bfa0ab7224e5d371573208b837e129e") false
    over (fun _ h => by cases h) (by kernel_rfl) (fun _ h => by cases h) fnExactEffectOf_row_tie rfl ⟨rfl, rfl⟩ (by kernel_rfl) rfl
    (fun f fn hf hfn => by
      obtain rfl : f = 8 := Option.some.inj ((show Tryd.prog.funcNamed "loop.example/g00619/laws.FnExactEffectOf" = some 8 by kernel_rfl).symm.trans hf) |>.symm
      obtain rfl : fn = Tryd.f8 := (Option.some.inj (Tryd.func8.symm.trans hfn)).symm
      exact ⟨by kernel_rfl, fun j t ht => by
        rw [Tryd.params8] at ht
        have hm : t ∈ [2] := by simpa using Array.mem_of_getElem? ht
        have hall : ([2].all fun u => !Tryd.prog.wantsStandIn u) = true := by kernel_rfl
        exact (show Tryd.prog.wantsStandIn t = false by simpa using List.all_eq_true.1 hall t hm)⟩)
    (by kernel_rfl)
end Go.Proofs.YtekglhikojondaaDoor.fnExactEffectOf
