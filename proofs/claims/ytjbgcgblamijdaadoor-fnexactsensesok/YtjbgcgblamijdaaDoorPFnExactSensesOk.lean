/- At every argument the program's SensesOk answers as its model and leaves what it was given. Its condition: the program's own table valuesOf holds what its initialiser lays (the card ties that to the text). -/
import Derived.Test.YtjbgcgblamijdaaDoorRows
import Derived.Test.YtjbgcgblamijdaaDoorTie
import Derived.Test.YtjbgcgblamijdaaDoorCards
import Derived.Test.YtjbgcgblamijdaaDoorSeOk
import Derived.Test.YtjbgcgblamijdaaDoorSeCopy
import Derived.Test.YtjbgcgblamijdaaDoorSeNew
import Derived.WalkKit
import Derived.ProofKit
import Derived.OpenShut
import Derived.ShutString
import Derived.ChangeOld
import Derived.Below
import Derived.WalkSmall
import Derived.LaidMore
import Derived.Stop.Joined
import Derived.Stop.LaidErr
import Derived.Lib.LaidTab
import Derived.SevenTiedAt
namespace Go.Proofs.YtjbgcgblamijdaaDoor.fnExactSensesOk
open Go.ChangeShapes Go.WideShapes Go.ChangeAt Go.RowKit
open Go.ChangeMaps (open_string shut_string)
set_option linter.unusedVariables false

theorem own : ownKnob Tryd.prog.godebug = none := by kernel_rfl
theorem laidOut : laidOutB Tryd.prog = true := by kernel_rfl
theorem gVals : Tryd.prog.globalNamed "loop.example/g00619/impl.valuesOf" = some 0 := by kernel_rfl
theorem gValsType : (Tryd.prog.globals[0]?).map (·.type) = some 50 := by kernel_rfl

theorem walk (s0 : se.S) (pl0 : se.P) (w : World) (w0 : se.Arg w s0 pl0) (l0 : se.Lim s0) (hv : se.Vals w) :
    Calls Tryd.prog 3 #[se.sv s0 pl0] w fun e w' => e = .returned (.bool true) ∧ Below w.heap.size w w' := by
  have k0 := mem.Has.fresh w 25 (se.cs6 s0 pl0)
  have g0 : w.grownBy (w.alloc (Obj.cells (se.cs6 s0 pl0) 25)) none := World.grownBy_alloc _ _ _
  obtain ⟨⟨c0, c1, c2⟩, c3, c4, c5⟩ := se.six k0
  have lb := k0.lt
  by_cases hb : se.bulk s0 ≤ 1048576
  · have B := se.bd_bulk hb
    have hz := fun W => se.szSenses_yes s0 pl0 W l0 hb
    obtain ⟨r, hr⟩ : ∃ r, se.ok s0 = r := ⟨_, rfl⟩
    have cS : ∀ p W, se.Arg W s0 p → Calls Tryd.prog 7 #[se.sv s0 p] W (tab.Ret (.bool r) W) := fun p W h => hr ▸ se.specSensesOk s0 p W h B
    have cI : ∀ p W, se.Arg W s0 p → se.Vals W → Calls Tryd.prog 9 #[se.sv s0 p] W (tab.Ret (.bool r) W) := fun p W h k => hr ▸ se.implSensesOk s0 p W h B k
    clear hr
    have nn : decide ((1048576 - (se.bulk s0 : Int)) < 0) = false := by simp; omega
    generalize (se.bulk s0 : Int) = bk at *
    go_enter Tryd.func3, Tryd.ntmps3
    go_wp2_with fail
    refine (hz _).mono ?_
    rintro e w1 ⟨rfl, h⟩
    replace k0 := k0.grown h (by simp)
    replace g0 := mem.gr_trans g0 h
    clear c0 c1 c2 c3 c4 c5 h
    obtain ⟨⟨c0, c1, c2⟩, c3, c4, c5⟩ := se.six k0
    go_wp2_with fail
    refine (se.toSenses s0 pl0 _ (w0.kept g0) B).mono ?_
    rintro e w2 ⟨q, rfl, h, O⟩
    replace k0 := k0.grown h (by simp)
    replace g0 := mem.gr_trans g0 h
    clear c0 c1 c2 c3 c4 c5 h
    go_wp2_with fail
    refine (cS q _ O.arg).mono ?_
    rintro e w3 ⟨rfl, h⟩
    replace k0 := k0.grown h (by simp)
    replace g0 := mem.gr_trans g0 h
    clear O h
    obtain ⟨⟨c0, c1, c2⟩, c3, c4, c5⟩ := se.six k0
    go_wp2_with fail
    refine (se.toSenses s0 pl0 _ (w0.kept g0) B).mono ?_
    rintro e w4 ⟨q1, rfl, h, O⟩
    replace g0 := mem.gr_alloc (mem.gr_trans g0 h) (Obj.cells (se.cs6 s0 q1) 30)
    replace k0 := (k0.grown h (by simp)).alloc (Obj.cells (se.cs6 s0 q1) 30)
    have k1 := mem.Has.fresh w4 30 (se.cs6 s0 q1)
    replace O := O.kept (World.grownBy_alloc w4 (Obj.cells (se.cs6 s0 q1) 30) none)
    clear c0 c1 c2 c3 c4 c5 h
    obtain ⟨⟨d0, d1, d2⟩, d3, d4, d5⟩ := se.six k1
    go_wp2_with fail
    refine (cI q1 _ O.arg (hv.kept g0)).mono ?_
    rintro e w5 ⟨rfl, h⟩
    replace k0 := k0.grown h (by simp)
    replace k1 := k1.grown h (by simp)
    replace g0 := mem.gr_trans g0 h
    replace O := O.kept h
    generalize w4.heap.size = bx at *
    clear d0 d1 d2 d3 d4 d5 h cS cI
    go_wp2_with fail
    have KS : ∀ W, w5.grownBy W none → ((W.cell? ⟨w.heap.size, 0, none⟩ = some (.slice pl0.a1 s0.sp.length pl0.c1) ∧ W.cell? ⟨w.heap.size, 1, none⟩ = some (.slice pl0.a2 s0.he.length pl0.c2) ∧ W.cell? ⟨w.heap.size, 2, none⟩ = some (.slice pl0.a3 s0.fa.length pl0.c3)) ∧ W.cell? ⟨w.heap.size, 3, none⟩ = some (.int .i64 s0.wn) ∧ W.cell? ⟨w.heap.size, 4, none⟩ = some (.bool s0.ar) ∧ W.cell? ⟨w.heap.size, 5, none⟩ = some (.slice pl0.a4 s0.sq.length pl0.c4)) ∧ ((W.cell? ⟨bx, 0, none⟩ = some (.slice q1.a1 s0.sp.length q1.c1) ∧ W.cell? ⟨bx, 1, none⟩ = some (.slice q1.a2 s0.he.length q1.c2) ∧ W.cell? ⟨bx, 2, none⟩ = some (.slice q1.a3 s0.fa.length q1.c3)) ∧ W.cell? ⟨bx, 3, none⟩ = some (.int .i64 s0.wn) ∧ W.cell? ⟨bx, 4, none⟩ = some (.bool s0.ar) ∧ W.cell? ⟨bx, 5, none⟩ = some (.slice q1.a4 s0.sq.length q1.c4)) := fun W h => ⟨se.six (k0.grown h (by simp)), se.six (k1.grown h (by simp))⟩
    go_region_held3 (fun W => ((W.cell? ⟨w.heap.size, 0, none⟩ = some (.slice pl0.a1 s0.sp.length pl0.c1) ∧ W.cell? ⟨w.heap.size, 1, none⟩ = some (.slice pl0.a2 s0.he.length pl0.c2) ∧ W.cell? ⟨w.heap.size, 2, none⟩ = some (.slice pl0.a3 s0.fa.length pl0.c3)) ∧ W.cell? ⟨w.heap.size, 3, none⟩ = some (.int .i64 s0.wn) ∧ W.cell? ⟨w.heap.size, 4, none⟩ = some (.bool s0.ar) ∧ W.cell? ⟨w.heap.size, 5, none⟩ = some (.slice pl0.a4 s0.sq.length pl0.c4)) ∧ ((W.cell? ⟨bx, 0, none⟩ = some (.slice q1.a1 s0.sp.length q1.c1) ∧ W.cell? ⟨bx, 1, none⟩ = some (.slice q1.a2 s0.he.length q1.c2) ∧ W.cell? ⟨bx, 2, none⟩ = some (.slice q1.a3 s0.fa.length q1.c3)) ∧ W.cell? ⟨bx, 3, none⟩ = some (.int .i64 s0.wn) ∧ W.cell? ⟨bx, 4, none⟩ = some (.bool s0.ar) ∧ W.cell? ⟨bx, 5, none⟩ = some (.slice q1.a4 s0.sq.length q1.c4)))
      (first | (refine KS _ ?_; (repeat (first | with_reducible exact mem.gr_refl _ _ | with_reducible exact E2 | with_reducible exact E1 | with_reducible refine se.gr_drew1 ?_)); done) | fail)
      (first | (go_at_call 8; refine (se.toSenses s0 pl0 _ ((w0.kept g0).kept (by (repeat (first | with_reducible exact mem.gr_refl _ _ | with_reducible exact E2 | with_reducible exact E1 | with_reducible refine se.gr_drew1 ?_)))) B).mono ?_; rintro e w6 ⟨q2, rfl, r1, O2⟩; have E1 : w5.grownBy w6 none := mem.gr_trans (by (repeat (first | with_reducible exact mem.gr_refl _ _ | with_reducible exact E2 | with_reducible exact E1 | with_reducible refine se.gr_drew1 ?_))) r1) | (go_at_call 10; refine (se.eqSenses s0 q1 q2 _ (O.arg.kept E1) O2.arg B).mono ?_; rintro e w7 ⟨rfl, r2⟩; have E2 : w5.grownBy w7 none := mem.gr_trans E1 r2) | fail)
    go_wp2_with fail
    go_ret
    exact ⟨rfl, mem.below_of_none (mem.gr_trans g0 E2)⟩
  · go_enter Tryd.func3, Tryd.ntmps3
    go_wp2_with fail
    refine (se.szSenses_no s0 pl0 _ l0 hb).mono ?_
    rintro e w1 ⟨rfl, r⟩
    go_wp2_with fail
    go_ret
    exact ⟨rfl, mem.below_of_none (mem.gr_trans g0 r)⟩

/-- The door's own heap meets the condition. -/
theorem door_met (os : Os) (args : Array Value) : laidMetH Tryd.prog Rows.fnExactSensesOkRow.laid ((World.doorLaid Tryd.prog 400 os).forCall (fun _ _ => 0) ⟨#[], args, []⟩).memory :=
  laidMetH_of_parts3 (fuel := 8) (laidMet_of_run' 8 (by kernel_rfl) (by kernel_rfl)) (by kernel_rfl) (by kernel_rfl)

theorem of_laid {W : World} (h : laidMetH Tryd.prog Rows.fnExactSensesOkRow.laid W) : se.Vals W := by
  rw [MakeChecks.laidMetH_plain _ _ _ (by kernel_rfl)] at h
  have h3 := h
  have hT : Lib.TabIs Tryd.prog W "loop.example/g00619/impl.valuesOf" .i64 [0, 3, 2, 6, 2] := Lib.tabIs_of_head (P := Tryd.prog) (k := .i64) (zs := [0, 3, 2, 6, 2]) gVals gValsType Tryd.underlying50 Tryd.underlying3 (by kernel_rfl) (by kernel_rfl) h3
  have c : ∀ i, i < 5 → W.cell? ⟨0, i, none⟩ = some (.int .i64 (il.nth [0, 3, 2, 6, 2] i)) := fun i hi => hT.cell gVals i (by simpa using hi)
  refine ⟨?_, c⟩
  have c0 := c 0 (by omega)
  by_cases hs : 0 < W.heap.size
  · omega
  · have hn : W.heap[0]? = none := Array.getElem?_eq_none (by omega)
    simp [World.cell?, hn] at c0

set_option maxRecDepth 100000 in
set_option maxHeartbeats 4000000 in
theorem lifted (os : Os) (started : os.Started) (H : Type) (enc : TypeId × Value → H) :
    ReturnsInHanded {} Tryd.checked os 3 .any (fun w args => (Rows.fnExactSensesOkSpec.pre enc Tryd.prog Tryd.f3 [] false w args ∧ laidMetH Tryd.prog Rows.fnExactSensesOkRow.laid w) ∧ sizedMet enc Tryd.prog Tryd.f3 (OpenSpec.ofChange Rows.fnExactSensesOkSpec) false w args)
      (Rows.fnExactSensesOkSpec.post enc Tryd.prog Tryd.f3 false true false false) := by
  refine returnsInHanded_of_change_and (C := Tryd.checked) (X := fun w _ => laidMetH Tryd.prog Rows.fnExactSensesOkRow.laid w) (fun _ _ _ hh h => h.of_heap hh) own started (by kernel_rfl) Tryd.func3
    (ChangeSpec.witness_shaped (enc := enc) (C := Tryd.checked) (os := os) (X := fun w _ => laidMetH Tryd.prog Rows.fnExactSensesOkRow.laid w) false (World.doorLaid Tryd.prog 400 os) #[.agg #[.slice none 0 0, .slice none 0 0, .slice none 0 0, .int .i64 0, .bool false, .slice none 0 0]] 8 rfl (World.shaped_of_RefB (by kernel_rfl) (by kernel_rfl)) (by kernel_rfl) (by kernel_rfl) (by kernel_rfl) (door_met os _)) ?_
  intro W base args ds gs before hval0 hW _ _ hL _
  have hval : ∀ (j : Nat) t v, Tryd.f3.params[j]? = some t → args[j]? = some v → Value.okWide Tryd.prog W .any base t v := hval0
  have hW' := hW
  obtain ⟨p, q, hA0, hV, rfl, hfz, hnd⟩ := hW
  have hA : DataW.TrodAll enc Tryd.prog W 0 (fun _ => true) true Tryd.f3.params.toList args.toList ds p := hA0
  rw [Tryd.params3] at hA hval
  obtain ⟨v0, vs0, d0, ds0, p0, q0, hargs, rfl, rfl, h0, r0⟩ := trodAll_cons hA
  obtain ⟨rfl, rfl, rfl⟩ := trodAll_nil r0
  obtain rfl : args = #[v0] := by cases args; simp_all
  obtain ⟨gg, tt, cs, fuel, dv, pv, rfl, hg, ht, hvar, hd, rfl⟩ := trodVars_one hV
  have k0 := h0
  have lt0 : ∀ x ∈ p0, x.block < W.heap.size := by obtain ⟨m, hm⟩ := k0; exact DataW.trod_lt m _ _ _ hm
  obtain ⟨s0, pl0, rfl, w0, l0⟩ := se.open_senses (hval 0 25 v0 rfl rfl) h0
  have hVals := of_laid hL

  clear hA0 hval0
  have hltv : ∀ x ∈ pv, x.block < W.heap.size := DataW.trod_lt fuel _ _ _ hd
  obtain rfl := Option.some.inj (gVals.symm.trans hg)
  obtain rfl := Option.some.inj (gValsType.symm.trans ht)
  have hd2 : DataW.trod enc Tryd.prog W 0 (fun _ => true) true fuel 50 cs.toList = some (dv, pv) := hd
  have hgg : 0 < W.heap.size := hVals.1
  refine (walk s0 pl0 W w0 l0 hVals).mono fun e W' ⟨he, bel⟩ => ?_
  subst he
  obtain ⟨fuel', hd'⟩ := Below.trod laidOut (by kernel_rfl) (of_decide_eq_true (by kernel_rfl)) (v := .agg cs) (⟨fuel, by simpa [Value.cells] using hd2⟩ : DataW.Trod enc Tryd.prog W 0 (fun _ => true) true 50 (.agg cs) dv pv) bel hltv
  have hv' : DataW.TrodVars enc Tryd.prog W' (fun b => decide (b < W.heap.size)) ["loop.example/g00619/impl.valuesOf"] [dv] (MemPlace.row ⟨0, 0, none⟩ cs.size ++ pv) := trodVars_mk1 hg ht (var?_below bel hg hgg hvar) (by simpa [Value.cells] using hd')
  exact ⟨_, rfl, _, _, _, [], _, _, hW', trodAll_mk1 (shut_bool Tryd.underlying4 _), (trodAll_cons_mk (Below.trod laidOut (by kernel_rfl) (of_decide_eq_true (by kernel_rfl)) k0 bel lt0) trodAll_mk0), hv', bel.frame _, fun h => by cases h⟩

theorem over : Rows.fnExactSensesOkRow.holds Tryd.pinned (OpenSpec.ofChange Rows.fnExactSensesOkSpec) :=
  OpenClaim.holds_of_wide 3 Tryd.f3 rfl rfl rfl rfl rfl rfl rfl ⟨rfl, rfl, rfl, rfl, rfl⟩ rfl rfl rfl rfl rfl (by kernel_rfl) Tryd.func3 (by kernel_rfl)
    (of_decide_eq_true (by kernel_rfl)) (by unfold Func.isWrapper; first | (rw [if_pos (by decide +kernel)]; kernel_rfl) | (rw [if_neg (by decide +kernel)]; exact ⟨rfl, rfl⟩))
    (fun os started H enc _ => lifted os started H enc)

theorem proved : Rows.FnExactSensesOkCardSaid :=
  Claim7.holds_tied_plain_at .later [] [.data] true (true, "a7b829611ab6694caab0e2fa40ea08cafb905b472117640eb550020c2074d25a") false
    over (fun _ h => by cases h) (by kernel_rfl) (fun _ h => by cases h) fnExactSensesOk_row_tie rfl ⟨rfl, rfl⟩ (by kernel_rfl) rfl
    (fun f fn hf hfn => by
      obtain rfl : f = 3 := Option.some.inj ((show Tryd.prog.funcNamed "loop.example/g00619/laws.FnExactSensesOk" = some 3 by kernel_rfl).symm.trans hf) |>.symm
      obtain rfl : fn = Tryd.f3 := (Option.some.inj (Tryd.func3.symm.trans hfn)).symm
      exact ⟨by kernel_rfl, fun j t ht => by
        rw [Tryd.params3] at ht
        have hm : t ∈ [25] := by simpa using Array.mem_of_getElem? ht
        have hall : ([25].all fun u => !Tryd.prog.wantsStandIn u) = true := by kernel_rfl
        exact (show Tryd.prog.wantsStandIn t = false by simpa using List.all_eq_true.1 hall t hm)⟩)
    (by kernel_rfl)
end Go.Proofs.YtjbgcgblamijdaaDoor.fnExactSensesOk
