/- At every list Reached answers as its model, every field, and leaves its argument; the law FnExactReached returns true, and its argument reads as before. Its condition is the card's own: that the variable of the weights holds what its initialiser lays. -/
import Derived.Test.YtekglhikojondaaDoorRows
import Derived.Test.YtekglhikojondaaDoorTie
import Derived.Test.YtekglhikojondaaDoorCards
import Derived.Test.YtekglhikojondaaDoorShLaid
import Derived.Test.YtekglhikojondaaDoorShRe
import Derived.WalkKit
import Derived.ProofKit
import Derived.OpenShut
import Derived.ShutString
import Derived.ChangeOld
import Derived.Below
import Derived.WalkSmall
import Derived.LaidMore
import Derived.Stop.Joined
import Derived.Stop.LaidErr
import Derived.Lib.LaidTab
import Derived.Lib.LaidU8
import Derived.SevenTiedAt
namespace Go.Proofs.YtekglhikojondaaDoor.fnExactReached
open Go.ChangeShapes Go.WideShapes Go.ChangeAt Go.RowKit
open Go.ChangeMaps (open_string shut_string)
set_option linter.unusedVariables false

theorem own : ownKnob Tryd.prog.godebug = none := by kernel_rfl
theorem laidOut : laidOutB Tryd.prog = true := by kernel_rfl
theorem gVals : Tryd.prog.globalNamed "loop.example/g00619/impl.fanWeights" = some 0 := by kernel_rfl
theorem gValsType : (Tryd.prog.globals[0]?).map (·.type) = some 58 := by kernel_rfl

theorem walk (a0 : Option Addr) (cap0 : Nat) (z0 : List Int) (w : World) (w0 : il.Ints w a0 z0) (l0 : z0.length ≤ maxLen) (y0 : ∀ n ∈ z0, (Lit.int .i64 n).wf = true) (hv : sh.Wts w) :
    Calls Tryd.prog 7 #[.slice a0 z0.length cap0] w fun e w' => e = .returned (.bool true) ∧ Below w.heap.size w w' := by
  by_cases h : z0.length ≤ 1048576
  · have hm : z0.length ≤ maxLen := l0
    obtain ⟨x, hx⟩ : ∃ x, x = sh.reL z0 := ⟨_, rfl⟩
    obtain ⟨y, hy⟩ : ∃ y, y = sh.reR z0 := ⟨_, rfl⟩
    obtain ⟨u, hu⟩ : ∃ u, u = sh.reP z0 := ⟨_, rfl⟩
    have cS : ∀ (a : Option Addr) (cap : Nat) (W : World), il.Ints W a z0 → Calls Tryd.prog 25 #[.slice a z0.length cap] W (sh.RetD x y u W) := fun a cap W hA => by
      rw [hx, hy, hu]; exact sh.specReached a cap z0 W hA l0
    have cI : ∀ (a : Option Addr) (cap : Nat) (W : World), sh.Wts W → il.Ints W a z0 → Calls Tryd.prog 20 #[.slice a z0.length cap] W (sh.RetD x y u W) := fun a cap W hW hA => by
      rw [hx, hy, hu]; exact sh.implReached a cap z0 W hW hA l0
    clear hx hy hu
    have hd : decide (1048576 < (z0.length : Int)) = false := by simp; omega
    have hd2 : ¬ (1048576 < (z0.length : Int)) := by omega
    go_enter Tryd.func7, Tryd.ntmps7
    go_wp2_with fail
    refine (il.toInts _ _ _ _ w0 h).mono ?_
    rintro e w1 ⟨a1, c1, rfl, g1, o1, _⟩
    go_wp2_with fail
    refine (cS _ _ _ o1.ints).mono ?_
    rintro e w2 ⟨rfl, g2⟩
    replace g2 := mem.gr_trans g1 g2
    clear g1 o1
    have k2 := mem.Has.fresh w2 25 #[.int .i64 x, .int .i64 y, .int .i64 u]
    replace g2 := mem.gr_alloc g2 (Obj.cells #[.int .i64 x, .int .i64 y, .int .i64 u] 25)
    go_wp2_with fail
    refine (il.toInts _ _ _ _ (w0.kept g2) h).mono ?_
    rintro e w3 ⟨a3, c3, rfl, g3, o3, b3⟩
    replace k2 := k2.grown g3 (by simp)
    replace g2 := mem.gr_trans g2 g3
    go_wp2_with fail
    refine (cI _ _ _ (hv.kept g2) o3.ints).mono ?_
    rintro e w4 ⟨rfl, g4⟩
    replace k2 := (k2.grown g4 (by simp)).alloc (Obj.cells #[.int .i64 x, .int .i64 y, .int .i64 u] 25)
    have k4 := mem.Has.fresh w4 25 #[.int .i64 x, .int .i64 y, .int .i64 u]
    replace o3 := (o3.kept g4).kept (World.grownBy_alloc w4 (Obj.cells #[.int .i64 x, .int .i64 y, .int .i64 u] 25) none)
    replace g2 := mem.gr_alloc (mem.gr_trans g2 g4) (Obj.cells #[.int .i64 x, .int .i64 y, .int .i64 u] 25)
    clear g3 g4 b3
    go_upto_region 6 with fail
    generalize w4.alloc (Obj.cells #[.int .i64 x, .int .i64 y, .int .i64 u] 25) = w5 at *
    obtain ⟨p0, p1, p2, _, _, _⟩ := sh.three k2
    obtain ⟨q0, q1, q2, _, _, _⟩ := sh.three k4
    go_wp2_with fail
    refine (sh.eqDemand x y u _).mono ?_
    rintro e w6 ⟨rfl, g6⟩
    replace g2 := mem.gr_trans g2 g6
    replace o3 := o3.kept g6
    clear p0 p1 p2 q0 q1 q2 k2 k4 g6
    go_wp2_with fail
    refine (il.toInts _ _ _ _ (w0.kept g2) h).mono ?_
    rintro e w7 ⟨a7, c7, rfl, g7, o7, _⟩
    replace g2 := mem.gr_trans g2 g7
    replace o3 := o3.kept g7
    go_wp2_with fail
    refine (il.eqInts _ _ _ _ _ _ o3.ints o7.ints h).mono ?_
    rintro e w8 ⟨rfl, g8⟩
    go_wp2_with fail
    go_ret
    exact ⟨rfl, mem.below_of_none (mem.gr_trans g2 g8)⟩
  · have hd : decide (1048576 < (z0.length : Int)) = true := by simp; omega
    have hm : z0.length ≤ 9223372036854775807 := by unfold maxLen at l0; exact l0
    go_enter Tryd.func7, Tryd.ntmps7
    go_wp2_with fail
    go_ret
    exact ⟨rfl, Below.refl _ _⟩

/-- The door's own heap meets the condition. -/
theorem door_met (os : Os) (args : Array Value) : laidMetH Tryd.prog Rows.fnExactReachedRow.laid ((World.doorLaid Tryd.prog 400 os).forCall (fun _ _ => 0) ⟨#[], args, []⟩).memory :=
  laidMetH_of_parts3 (fuel := 8) (laidMet_of_run' 8 (by kernel_rfl) (by kernel_rfl)) (by kernel_rfl) (by kernel_rfl)

theorem of_laid {W : World} (h : laidMetH Tryd.prog Rows.fnExactReachedRow.laid W) : sh.Wts W := by
  rw [MakeChecks.laidMetH_plain _ _ _ (by kernel_rfl)] at h
  exact sh.wts_of_head gVals gValsType h

set_option maxRecDepth 100000 in
set_option maxHeartbeats 4000000 in
theorem lifted (os : Os) (started : os.Started) (H : Type) (enc : TypeId × Value → H) :
    ReturnsInHanded {} Tryd.checked os 7 .any (fun w args => (Rows.fnExactReachedSpec.pre enc Tryd.prog Tryd.f7 [] false w args ∧ laidMetH Tryd.prog Rows.fnExactReachedRow.laid w) ∧ sizedMet enc Tryd.prog Tryd.f7 (OpenSpec.ofChange Rows.fnExactReachedSpec) false w args)
      (Rows.fnExactReachedSpec.post enc Tryd.prog Tryd.f7 false true false false) := by
  refine returnsInHanded_of_change_and (C := Tryd.checked) (X := fun w _ => laidMetH Tryd.prog Rows.fnExactReachedRow.laid w) (fun _ _ _ hh h => h.of_heap hh) own started (by kernel_rfl) Tryd.func7
    (ChangeSpec.witness_shaped (enc := enc) (C := Tryd.checked) (os := os) (X := fun w _ => laidMetH Tryd.prog Rows.fnExactReachedRow.laid w) false (World.doorLaid Tryd.prog 400 os) #[.slice none 0 0] 8 rfl (World.shaped_of_RefB (by kernel_rfl) (by kernel_rfl)) (by kernel_rfl) (by kernel_rfl) (by kernel_rfl) (door_met os _)) ?_
  intro W base args ds gs before hval0 hW _ _ hL _
  have hval : ∀ (j : Nat) t v, Tryd.f7.params[j]? = some t → args[j]? = some v → Value.okWide Tryd.prog W .any base t v := hval0
  have hW' := hW
  obtain ⟨p, q, hA0, hV, rfl, hfz, hnd⟩ := hW
  have hA : DataW.TrodAll enc Tryd.prog W 0 (fun _ => true) true Tryd.f7.params.toList args.toList ds p := hA0
  rw [Tryd.params7] at hA hval
  obtain ⟨v0, vs0, d0, ds0, p0, q0, hargs, rfl, rfl, h0, r0⟩ := trodAll_cons hA
  obtain ⟨rfl, rfl, rfl⟩ := trodAll_nil r0
  obtain rfl : args = #[v0] := by cases args; simp_all
  obtain ⟨gg, tt, cs, fuel, dv, pv, rfl, hg, ht, hvar, hd, rfl⟩ := trodVars_one hV
  have k0 := h0
  have lt0 : ∀ x ∈ p0, x.block < W.heap.size := by obtain ⟨m, hm⟩ := k0; exact DataW.trod_lt m _ _ _ hm
  obtain ⟨a0, len0, cap0, rfl⟩ := okWide_slice Tryd.underlying28 (hval 0 28 v0 rfl rfl)
  obtain ⟨z0, e0, l0, w0, y0⟩ := il.open_ints' h0
  subst e0
  have hVals := of_laid hL
  clear hA0 hval0
  have hltv : ∀ x ∈ pv, x.block < W.heap.size := DataW.trod_lt fuel _ _ _ hd
  obtain rfl := Option.some.inj (gVals.symm.trans hg)
  obtain rfl := Option.some.inj (gValsType.symm.trans ht)
  have hd2 : DataW.trod enc Tryd.prog W 0 (fun _ => true) true fuel 58 cs.toList = some (dv, pv) := hd
  have hgg : 0 < W.heap.size := hVals.1
  refine (walk a0 cap0 z0 W w0 l0 y0 hVals).mono fun e W' ⟨he, bel⟩ => ?_
  subst he
  obtain ⟨fuel', hd'⟩ := Below.trod laidOut (by kernel_rfl) (of_decide_eq_true (by kernel_rfl)) (v := .agg cs) (⟨fuel, by simpa [Value.cells] using hd2⟩ : DataW.Trod enc Tryd.prog W 0 (fun _ => true) true 58 (.agg cs) dv pv) bel hltv
  have hv' : DataW.TrodVars enc Tryd.prog W' (fun b => decide (b < W.heap.size)) ["loop.example/g00619/impl.fanWeights"] [dv] (MemPlace.row ⟨0, 0, none⟩ cs.size ++ pv) := trodVars_mk1 hg ht (var?_below bel hg hgg hvar) (by simpa [Value.cells] using hd')
  exact ⟨_, rfl, _, _, _, [], _, _, hW', trodAll_mk1 (shut_bool Tryd.underlying4 _), (trodAll_cons_mk (Below.trod laidOut (by kernel_rfl) (of_decide_eq_true (by kernel_rfl)) k0 bel lt0) trodAll_mk0), hv', bel.frame _, fun h => by cases h⟩

theorem over : Rows.fnExactReachedRow.holds Tryd.pinned (OpenSpec.ofChange Rows.fnExactReachedSpec) :=
  OpenClaim.holds_of_wide 7 Tryd.f7 rfl rfl rfl rfl rfl rfl rfl ⟨rfl, rfl, rfl, rfl, rfl⟩ rfl rfl rfl rfl rfl (by kernel_rfl) Tryd.func7 (by kernel_rfl)
    (of_decide_eq_true (by kernel_rfl)) (by unfold Func.isWrapper; first | (rw [if_pos (by decide +kernel)]; kernel_rfl) | (rw [if_neg (by decide +kernel)]; exact ⟨rfl, rfl⟩))
    (fun os started H enc _ => lifted os started H enc)

theorem proved : Rows.FnExactReachedCardSaid :=
  Claim7.holds_tied_plain_at .later [] [.data] true (true, "7dc7babcab558d1beccfa0bbc32ba9568bfa0ab7224e5d371573208b837e129e") false
    over (fun _ h => by cases h) (by kernel_rfl) (fun _ h => by cases h) fnExactReached_row_tie rfl ⟨rfl, rfl⟩ (by kernel_rfl) rfl
    (fun f fn hf hfn => by
      obtain rfl : f = 7 := Option.some.inj ((show Tryd.prog.funcNamed "loop.example/g00619/laws.FnExactReached" = some 7 by kernel_rfl).symm.trans hf) |>.symm
      obtain rfl : fn = Tryd.f7 := (Option.some.inj (Tryd.func7.symm.trans hfn)).symm
      exact ⟨by kernel_rfl, fun j t ht => by
        rw [Tryd.params7] at ht
        have hm : t ∈ [28] := by simpa using Array.mem_of_getElem? ht
        have hall : ([28].all fun u => !Tryd.prog.wantsStandIn u) = true := by kernel_rfl
        exact (show Tryd.prog.wantsStandIn t = false by simpa using List.all_eq_true.1 hall t hm)⟩)
    (by kernel_rfl)
end Go.Proofs.YtekglhikojondaaDoor.fnExactReached
