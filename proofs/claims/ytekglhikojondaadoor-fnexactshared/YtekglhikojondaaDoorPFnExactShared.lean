/- At every argument Shared answers as its model, and its answer owns its memory; the law FnExactShared returns true, and its arguments read as before. Its condition is the card's own: that the variable of the weights holds what its initialiser lays. -/
import Derived.Test.YtekglhikojondaaDoorRows
import Derived.Test.YtekglhikojondaaDoorTie
import Derived.Test.YtekglhikojondaaDoorCards
import Derived.Test.YtekglhikojondaaDoorShLaid
import Derived.Test.YtekglhikojondaaDoorShSpec
import Derived.WalkKit
import Derived.ProofKit
import Derived.OpenShut
import Derived.ShutString
import Derived.ChangeOld
import Derived.Below
import Derived.WalkSmall
import Derived.LaidMore
import Derived.Stop.Joined
import Derived.Stop.LaidErr
import Derived.Lib.LaidTab
import Derived.Lib.LaidU8
import Derived.SevenTiedAt
namespace Go.Proofs.YtekglhikojondaaDoor.fnExactShared
open Go.ChangeShapes Go.WideShapes Go.ChangeAt Go.RowKit
open Go.ChangeMaps (open_string shut_string)
set_option linter.unusedVariables false

theorem own : ownKnob Tryd.prog.godebug = none := by kernel_rfl
theorem laidOut : laidOutB Tryd.prog = true := by kernel_rfl
theorem gVals : Tryd.prog.globalNamed "loop.example/g00619/impl.fanWeights" = some 0 := by kernel_rfl
theorem gValsType : (Tryd.prog.globals[0]?).map (·.type) = some 58 := by kernel_rfl

theorem walk (a0 : Int) (a1 b1 c1 : Int) (w : World) (w0 : (Lit.int .i64 a0).wf = true) (w1 : (Lit.int .i64 a1).wf = true) (x1 : (Lit.int .i64 b1).wf = true) (y1 : (Lit.int .i64 c1).wf = true) (hv : sh.Wts w) :
    Calls Tryd.prog 6 #[.int .i64 a0, .agg #[.int .i64 a1, .int .i64 b1, .int .i64 c1]] w fun e w' => e = .returned (.bool true) ∧ Below w.heap.size w w' := by
  obtain ⟨r, hr⟩ : ∃ r, sh.shared a0 a1 b1 c1 = r := ⟨_, rfl⟩
  have hrl : r.length ≤ 6 := by
    rw [← hr]; unfold sh.shared; split
    · unfold sh.shared6; simp
    · exact Nat.zero_le _
  have cI : ∀ W, sh.Wts W → Calls Tryd.prog 11 #[.int .i64 a0, sh.dem a1 b1 c1] W (il.RetI r W) := fun W hW => hr ▸ sh.implShared a0 a1 b1 c1 W hW
  have cS : ∀ W, Calls Tryd.prog 14 #[.int .i64 a0, sh.dem a1 b1 c1] W (il.RetI r W) := fun W => hr ▸ sh.specShared a0 a1 b1 c1 W
  clear hr
  go_enter Tryd.func6, Tryd.ntmps6
  have H0 := mem.Has.fresh w 41 #[.int .i64 a1, .int .i64 b1, .int .i64 c1]
  have gA := World.grownBy_alloc w (Obj.cells #[.int .i64 a1, .int .i64 b1, .int .i64 c1] 41) none
  go_wp2_with fail
  refine (sh.toDemand a1 b1 c1 _).mono ?_
  rintro e u1 ⟨rfl, h1⟩
  go_wp2_with fail
  refine (cS _).mono ?_
  rintro e v1 ⟨p1, q1, rfl, g1, o1, _⟩
  replace g1 := mem.gr_trans h1 g1
  replace H0 := H0.grown g1 (by simp)
  replace g1 := mem.gr_trans gA g1
  clear h1 gA
  obtain ⟨d0, d1, d2, _, _, _⟩ := sh.three H0
  go_wp2_with fail
  refine (sh.toDemand a1 b1 c1 _).mono ?_
  rintro e u2 ⟨rfl, h2⟩
  go_wp2_with fail
  refine (cI _ (hv.kept (mem.gr_trans g1 h2))).mono ?_
  rintro e w2 ⟨p2, q2, rfl, k4, o4, b4⟩
  have b4' : ∀ x, il.blk p2 r = some x → v1.heap.size ≤ x := fun x hx => Nat.le_trans h2.size (b4 x hx)
  have hv1 : w.heap.size < v1.heap.size := H0.lt
  replace k4 := mem.gr_trans h2 k4
  replace H0 := H0.grown k4 (by simp)
  clear h2 d0 d1 d2 b4
  go_wp2_with fail
  refine (il.eqInts _ _ _ _ _ _ o4.ints (o1.kept k4).ints (by omega)).mono ?_
  rintro e w3 ⟨rfl, g5⟩
  replace k4 := mem.gr_trans k4 g5
  replace o4 := o4.kept g5
  replace H0 := H0.grown g5 (by simp)
  clear g5
  go_wp2_with fail
  refine (il.markInts 1 _ _ _ _ o4 (by omega) (by omega)).mono ?_
  rintro e w4 ⟨rfl, g10, o10⟩
  replace k4 := il.gr_blk k4 g10 b4'
  replace H0 := H0.grown g10 (fun e => by have := b4' _ e.symm; omega)
  clear g10 o4
  go_wp2_with fail
  refine (il.heldInts 1 _ _ _ _ o10.ints (by omega) (by omega)).mono ?_
  rintro e w5 ⟨rfl, g11⟩
  replace k4 := mem.gr_trans k4 g11
  replace o10 := o10.kept g11
  replace H0 := H0.grown g11 (by simp)
  clear g11
  obtain ⟨d0, d1, d2, _, _, _⟩ := sh.three H0
  go_wp2_with fail
  refine (sh.toDemand a1 b1 c1 _).mono ?_
  rintro e u3 ⟨rfl, h3⟩
  go_wp2_with fail
  refine (cI _ (hv.kept (mem.gr_trans g1 (mem.gr_trans k4 h3)))).mono ?_
  rintro e w6 ⟨p13, q13, rfl, g13, o13, _⟩
  replace g13 := mem.gr_trans h3 g13
  clear h3 d0 d1 d2
  replace k4 := mem.gr_trans k4 g13
  replace o10 := o10.kept g13
  clear g13
  go_wp2_with fail
  refine (il.eqInts _ _ _ _ _ _ o13.ints (o1.kept k4).ints (by omega)).mono ?_
  rintro e w7 ⟨rfl, g14⟩
  replace k4 := mem.gr_trans k4 g14
  replace o10 := o10.kept g14
  clear g14 o13
  go_wp2_with fail
  refine (il.heldInts 1 _ _ _ _ o10.ints (by omega) (by omega)).mono ?_
  rintro e w8 ⟨rfl, g15⟩
  go_wp2_with fail
  go_ret
  exact ⟨rfl, mem.below_of_none (mem.gr_trans g1 (mem.gr_trans k4 g15))⟩

/-- The door's own heap meets the condition. -/
theorem door_met (os : Os) (args : Array Value) : laidMetH Tryd.prog Rows.fnExactSharedRow.laid ((World.doorLaid Tryd.prog 400 os).forCall (fun _ _ => 0) ⟨#[], args, []⟩).memory :=
  laidMetH_of_parts3 (fuel := 8) (laidMet_of_run' 8 (by kernel_rfl) (by kernel_rfl)) (by kernel_rfl) (by kernel_rfl)

theorem of_laid {W : World} (h : laidMetH Tryd.prog Rows.fnExactSharedRow.laid W) : sh.Wts W := by
  rw [MakeChecks.laidMetH_plain _ _ _ (by kernel_rfl)] at h
  exact sh.wts_of_head gVals gValsType h

set_option maxRecDepth 100000 in
set_option maxHeartbeats 4000000 in
theorem lifted (os : Os) (started : os.Started) (H : Type) (enc : TypeId × Value → H) :
    ReturnsInHanded {} Tryd.checked os 6 .any (fun w args => (Rows.fnExactSharedSpec.pre enc Tryd.prog Tryd.f6 [] false w args ∧ laidMetH Tryd.prog Rows.fnExactSharedRow.laid w) ∧ sizedMet enc Tryd.prog Tryd.f6 (OpenSpec.ofChange Rows.fnExactSharedSpec) false w args)
      (Rows.fnExactSharedSpec.post enc Tryd.prog Tryd.f6 false true false false) := by
  refine returnsInHanded_of_change_and (C := Tryd.checked) (X := fun w _ => laidMetH Tryd.prog Rows.fnExactSharedRow.laid w) (fun _ _ _ hh h => h.of_heap hh) own started (by kernel_rfl) Tryd.func6
    (ChangeSpec.witness_shaped (enc := enc) (C := Tryd.checked) (os := os) (X := fun w _ => laidMetH Tryd.prog Rows.fnExactSharedRow.laid w) false (World.doorLaid Tryd.prog 400 os) #[.int .i64 0, .agg #[.int .i64 0, .int .i64 0, .int .i64 0]] 8 rfl (World.shaped_of_RefB (by kernel_rfl) (by kernel_rfl)) (by kernel_rfl) (by kernel_rfl) (by kernel_rfl) (door_met os _)) ?_
  intro W base args ds gs before hval0 hW _ _ hL _
  have hval : ∀ (j : Nat) t v, Tryd.f6.params[j]? = some t → args[j]? = some v → Value.okWide Tryd.prog W .any base t v := hval0
  have hW' := hW
  obtain ⟨p, q, hA0, hV, rfl, hfz, hnd⟩ := hW
  have hA : DataW.TrodAll enc Tryd.prog W 0 (fun _ => true) true Tryd.f6.params.toList args.toList ds p := hA0
  rw [Tryd.params6] at hA hval
  obtain ⟨v0, vs0, d0, ds0, p0, q0, hargs, rfl, rfl, h0, r0⟩ := trodAll_cons hA
  obtain ⟨v1, vs1, d1, ds1, p1, q1, rfl, rfl, rfl, h1, r1⟩ := trodAll_cons r0
  obtain ⟨rfl, rfl, rfl⟩ := trodAll_nil r1
  obtain rfl : args = #[v0, v1] := by cases args; simp_all
  obtain ⟨gg, tt, cs, fuel, dv, pv, rfl, hg, ht, hvar, hd, rfl⟩ := trodVars_one hV
  have k0 := h0
  have lt0 : ∀ x ∈ p0, x.block < W.heap.size := by obtain ⟨m, hm⟩ := k0; exact DataW.trod_lt m _ _ _ hm
  have k1 := h1
  have lt1 : ∀ x ∈ p1, x.block < W.heap.size := by obtain ⟨m, hm⟩ := k1; exact DataW.trod_lt m _ _ _ hm
  obtain ⟨a0, rfl, rfl, rfl, w0⟩ := open_int Tryd.underlying2 (hval 0 2 v0 rfl rfl) h0
  obtain ⟨a1, b1, c1, rfl, w1, x1, y1⟩ := sh.open_demand (hval 1 41 v1 rfl rfl) h1
  have hVals := of_laid hL
  clear hA0 hval0
  have hltv : ∀ x ∈ pv, x.block < W.heap.size := DataW.trod_lt fuel _ _ _ hd
  obtain rfl := Option.some.inj (gVals.symm.trans hg)
  obtain rfl := Option.some.inj (gValsType.symm.trans ht)
  have hd2 : DataW.trod enc Tryd.prog W 0 (fun _ => true) true fuel 58 cs.toList = some (dv, pv) := hd
  have hgg : 0 < W.heap.size := hVals.1
  refine (walk a0 a1 b1 c1 W w0 w1 x1 y1 hVals).mono fun e W' ⟨he, bel⟩ => ?_
  subst he
  obtain ⟨fuel', hd'⟩ := Below.trod laidOut (by kernel_rfl) (of_decide_eq_true (by kernel_rfl)) (v := .agg cs) (⟨fuel, by simpa [Value.cells] using hd2⟩ : DataW.Trod enc Tryd.prog W 0 (fun _ => true) true 58 (.agg cs) dv pv) bel hltv
  have hv' : DataW.TrodVars enc Tryd.prog W' (fun b => decide (b < W.heap.size)) ["loop.example/g00619/impl.fanWeights"] [dv] (MemPlace.row ⟨0, 0, none⟩ cs.size ++ pv) := trodVars_mk1 hg ht (var?_below bel hg hgg hvar) (by simpa [Value.cells] using hd')
  exact ⟨_, rfl, _, _, _, [], _, _, hW', trodAll_mk1 (shut_bool Tryd.underlying4 _), (trodAll_cons_mk (Below.trod laidOut (by kernel_rfl) (of_decide_eq_true (by kernel_rfl)) k0 bel lt0) (trodAll_cons_mk (Below.trod laidOut (by kernel_rfl) (of_decide_eq_true (by kernel_rfl)) k1 bel lt1) trodAll_mk0)), hv', bel.frame _, fun h => by cases h⟩

theorem over : Rows.fnExactSharedRow.holds Tryd.pinned (OpenSpec.ofChange Rows.fnExactSharedSpec) :=
  OpenClaim.holds_of_wide 6 Tryd.f6 rfl rfl rfl rfl rfl rfl rfl ⟨rfl, rfl, rfl, rfl, rfl⟩ rfl rfl rfl rfl rfl (by kernel_rfl) Tryd.func6 (by kernel_rfl)
    (of_decide_eq_true (by kernel_rfl)) (by unfold Func.isWrapper; first | (rw [if_pos (by decide +kernel)]; kernel_rfl) | (rw [if_neg (by decide +kernel)]; exact ⟨rfl, rfl⟩))
    (fun os started H enc _ => lifted os started H enc)

theorem proved : Rows.FnExactSharedCardSaid :=
  Claim7.holds_tied_plain_at .later [] [.data] true (true, "7dc7babcab558d1beccfa0bbc32ba9568bfa0ab7224e5d371573208b837e129e") false
    over (fun _ h => by cases h) (by kernel_rfl) (fun _ h => by cases h) fnExactShared_row_tie rfl ⟨rfl, rfl⟩ (by kernel_rfl) rfl
    (fun f fn hf hfn => by
      obtain rfl : f = 6 := Option.some.inj ((show Tryd.prog.funcNamed "loop.example/g00619/laws.FnExactShared" = some 6 by kernel_rfl).symm.trans hf) |>.symm
      obtain rfl : fn = Tryd.f6 := (Option.some.inj (Tryd.func6.symm.trans hfn)).symm
      exact ⟨by kernel_rfl, fun j t ht => by
        rw [Tryd.params6] at ht
        have hm : t ∈ [2, 41] := by simpa using Array.mem_of_getElem? ht
        have hall : ([2, 41].all fun u => !Tryd.prog.wantsStandIn u) = true := by kernel_rfl
        exact (show Tryd.prog.wantsStandIn t = false by simpa using List.all_eq_true.1 hall t hm)⟩)
    (by kernel_rfl)
end Go.Proofs.YtekglhikojondaaDoor.fnExactShared
