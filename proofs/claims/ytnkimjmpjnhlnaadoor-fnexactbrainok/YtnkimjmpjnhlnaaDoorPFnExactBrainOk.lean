/- At every argument the program's BrainOk answers as its model and leaves what it was given. Its condition: the program's own table valuesOf and its error errCannotBe hold what their initialisers lay (the card ties that to the text). -/
import Derived.Test.YtnkimjmpjnhlnaaDoorRows
import Derived.Test.YtnkimjmpjnhlnaaDoorTie
import Derived.Test.YtnkimjmpjnhlnaaDoorCards
import Derived.Test.YtnkimjmpjnhlnaaDoorSeNew
import Derived.Test.YtnkimjmpjnhlnaaDoorBrArg
import Derived.Test.YtnkimjmpjnhlnaaDoorBrOkA
import Derived.Test.YtnkimjmpjnhlnaaDoorBrFace
import Derived.Test.YtnkimjmpjnhlnaaDoorBrLaid
import Derived.WalkKit
import Derived.ProofKit
import Derived.OpenShut
import Derived.ShutString
import Derived.ChangeOld
import Derived.Below
import Derived.WalkSmall
import Derived.LaidMore
import Derived.Stop.Joined
import Derived.Stop.LaidErr
import Derived.Lib.LaidTab
import Derived.SevenTiedAt
namespace Go.Proofs.YtnkimjmpjnhlnaaDoor.fnExactBrainOk
open Go.ChangeShapes Go.WideShapes Go.ChangeAt Go.RowKit
open Go.ChangeMaps (open_string shut_string)
set_option linter.unusedVariables false

theorem own : ownKnob Tryd.prog.godebug = none := by kernel_rfl
theorem laidOut : laidOutB Tryd.prog = true := by kernel_rfl

theorem walk (b0 : br.B) (pl0 : br.P) (w : World) (w0 : br.Arg w b0 pl0) (l0 : br.LimB b0) (u : TypeId) (pv : Value) (hv : se.Vals w) (he : br.Err w u pv) :
    Calls Tryd.prog 3 #[br.bv b0 pl0] w fun e w' => e = .returned (.bool true) ∧ Below w.heap.size w w' := by
  have k0 := mem.Has.fresh w 30 (br.cs13 b0 pl0)
  have g0 : w.grownBy (w.alloc (Obj.cells (br.cs13 b0 pl0) 30)) none := World.grownBy_alloc _ _ _
  obtain ⟨⟨⟨c0, c1, c2⟩, c3, c4⟩, ⟨⟨c5, c6, c7⟩, c8, c9, c10⟩, c11, c12⟩ := br.thirteen k0
  have lb := k0.lt
  by_cases hb : br.bulkB b0 ≤ 1048576
  · have B := br.bd_bulkB hb
    have hz := fun W => br.szBrain_yes b0 pl0 W l0 hb
    obtain ⟨r, hr⟩ : ∃ r, br.okB b0 = r := ⟨_, rfl⟩
    have cS : ∀ p W, br.Arg W b0 p → Calls Tryd.prog 6 #[br.bv b0 p] W (tab.Ret (.bool r) W) := fun p W h => hr ▸ br.specBrainOkA b0 p W h B
    have cI : ∀ p W, br.Arg W b0 p → se.Vals W → br.Err W u pv → Calls Tryd.prog 8 #[br.bv b0 p] W (tab.Ret (.bool r) W) := fun p W h k k2 => hr ▸ br.implBrainOk b0 p W h B k u pv k2
    clear hr
    have nn : decide ((1048576 - (br.bulkB b0 : Int)) < 0) = false := by simp; omega
    generalize (br.bulkB b0 : Int) = bk at *
    go_enter Tryd.func3, Tryd.ntmps3
    go_wp2_with fail
    refine (hz _).mono ?_
    rintro e w1 ⟨rfl, h⟩
    replace k0 := k0.grown h (by simp)
    replace g0 := mem.gr_trans g0 h
    clear c0 c1 c2 c3 c4 c5 c6 c7 c8 c9 c10 c11 c12 h
    obtain ⟨⟨⟨c0, c1, c2⟩, c3, c4⟩, ⟨⟨c5, c6, c7⟩, c8, c9, c10⟩, c11, c12⟩ := br.thirteen k0
    go_wp2_with fail
    refine (br.toBrain b0 pl0 _ (w0.kept g0) B).mono ?_
    rintro e w2 ⟨q, rfl, h, O⟩
    replace k0 := k0.grown h (by simp)
    replace g0 := mem.gr_trans g0 h
    clear c0 c1 c2 c3 c4 c5 c6 c7 c8 c9 c10 c11 c12 h
    go_wp2_with fail
    refine (cS q _ O.arg).mono ?_
    rintro e w3 ⟨rfl, h⟩
    replace k0 := k0.grown h (by simp)
    replace g0 := mem.gr_trans g0 h
    clear O h
    obtain ⟨⟨⟨c0, c1, c2⟩, c3, c4⟩, ⟨⟨c5, c6, c7⟩, c8, c9, c10⟩, c11, c12⟩ := br.thirteen k0
    go_wp2_with fail
    refine (br.toBrain b0 pl0 _ (w0.kept g0) B).mono ?_
    rintro e w4 ⟨q1, rfl, h, O⟩
    replace g0 := mem.gr_alloc (mem.gr_trans g0 h) (Obj.cells (br.cs13 b0 q1) 39)
    replace k0 := (k0.grown h (by simp)).alloc (Obj.cells (br.cs13 b0 q1) 39)
    have k1 := mem.Has.fresh w4 39 (br.cs13 b0 q1)
    replace O := O.kept (World.grownBy_alloc w4 (Obj.cells (br.cs13 b0 q1) 39) none)
    clear c0 c1 c2 c3 c4 c5 c6 c7 c8 c9 c10 c11 c12 h
    obtain ⟨⟨⟨d0, d1, d2⟩, d3, d4⟩, ⟨⟨d5, d6, d7⟩, d8, d9, d10⟩, d11, d12⟩ := br.thirteen k1
    go_wp2_with fail
    refine (cI q1 _ O.arg (hv.kept g0) (he.kept g0)).mono ?_
    rintro e w5 ⟨rfl, h⟩
    replace k0 := k0.grown h (by simp)
    replace k1 := k1.grown h (by simp)
    replace g0 := mem.gr_trans g0 h
    replace O := O.kept h
    generalize w4.heap.size = bx at *
    clear d0 d1 d2 d3 d4 d5 d6 d7 d8 d9 d10 d11 d12 h cS cI
    go_wp2_with fail
    have KS : ∀ W, w5.grownBy W none → (((W.cell? ⟨w.heap.size, 0, none⟩ = some (.int .i64 b0.md) ∧ W.cell? ⟨w.heap.size, 1, none⟩ = some (.int .i64 b0.tm) ∧ W.cell? ⟨w.heap.size, 2, none⟩ = some (.slice pl0.fa b0.fa.length pl0.fc)) ∧ (W.cell? ⟨w.heap.size, 3, none⟩ = some (.int .i64 b0.ga.1) ∧ W.cell? ⟨w.heap.size, 4, none⟩ = some (.bool b0.ga.2))) ∧ (((W.cell? ⟨w.heap.size, 5, none⟩ = some (.slice pl0.se.a1 b0.se.sp.length pl0.se.c1) ∧ W.cell? ⟨w.heap.size, 6, none⟩ = some (.slice pl0.se.a2 b0.se.he.length pl0.se.c2) ∧ W.cell? ⟨w.heap.size, 7, none⟩ = some (.slice pl0.se.a3 b0.se.fa.length pl0.se.c3)) ∧ W.cell? ⟨w.heap.size, 8, none⟩ = some (.int .i64 b0.se.wn) ∧ W.cell? ⟨w.heap.size, 9, none⟩ = some (.bool b0.se.ar) ∧ W.cell? ⟨w.heap.size, 10, none⟩ = some (.slice pl0.se.a4 b0.se.sq.length pl0.se.c4)) ∧ W.cell? ⟨w.heap.size, 11, none⟩ = some (.slice pl0.ou b0.ou.length pl0.oc) ∧ W.cell? ⟨w.heap.size, 12, none⟩ = some (br.str b0.ta))) ∧ (((W.cell? ⟨bx, 0, none⟩ = some (.int .i64 b0.md) ∧ W.cell? ⟨bx, 1, none⟩ = some (.int .i64 b0.tm) ∧ W.cell? ⟨bx, 2, none⟩ = some (.slice q1.fa b0.fa.length q1.fc)) ∧ (W.cell? ⟨bx, 3, none⟩ = some (.int .i64 b0.ga.1) ∧ W.cell? ⟨bx, 4, none⟩ = some (.bool b0.ga.2))) ∧ (((W.cell? ⟨bx, 5, none⟩ = some (.slice q1.se.a1 b0.se.sp.length q1.se.c1) ∧ W.cell? ⟨bx, 6, none⟩ = some (.slice q1.se.a2 b0.se.he.length q1.se.c2) ∧ W.cell? ⟨bx, 7, none⟩ = some (.slice q1.se.a3 b0.se.fa.length q1.se.c3)) ∧ W.cell? ⟨bx, 8, none⟩ = some (.int .i64 b0.se.wn) ∧ W.cell? ⟨bx, 9, none⟩ = some (.bool b0.se.ar) ∧ W.cell? ⟨bx, 10, none⟩ = some (.slice q1.se.a4 b0.se.sq.length q1.se.c4)) ∧ W.cell? ⟨bx, 11, none⟩ = some (.slice q1.ou b0.ou.length q1.oc) ∧ W.cell? ⟨bx, 12, none⟩ = some (br.str b0.ta))) := fun W h => ⟨br.thirteen (k0.grown h (by simp)), br.thirteen (k1.grown h (by simp))⟩
    go_region_held3 (fun W => (((W.cell? ⟨w.heap.size, 0, none⟩ = some (.int .i64 b0.md) ∧ W.cell? ⟨w.heap.size, 1, none⟩ = some (.int .i64 b0.tm) ∧ W.cell? ⟨w.heap.size, 2, none⟩ = some (.slice pl0.fa b0.fa.length pl0.fc)) ∧ (W.cell? ⟨w.heap.size, 3, none⟩ = some (.int .i64 b0.ga.1) ∧ W.cell? ⟨w.heap.size, 4, none⟩ = some (.bool b0.ga.2))) ∧ (((W.cell? ⟨w.heap.size, 5, none⟩ = some (.slice pl0.se.a1 b0.se.sp.length pl0.se.c1) ∧ W.cell? ⟨w.heap.size, 6, none⟩ = some (.slice pl0.se.a2 b0.se.he.length pl0.se.c2) ∧ W.cell? ⟨w.heap.size, 7, none⟩ = some (.slice pl0.se.a3 b0.se.fa.length pl0.se.c3)) ∧ W.cell? ⟨w.heap.size, 8, none⟩ = some (.int .i64 b0.se.wn) ∧ W.cell? ⟨w.heap.size, 9, none⟩ = some (.bool b0.se.ar) ∧ W.cell? ⟨w.heap.size, 10, none⟩ = some (.slice pl0.se.a4 b0.se.sq.length pl0.se.c4)) ∧ W.cell? ⟨w.heap.size, 11, none⟩ = some (.slice pl0.ou b0.ou.length pl0.oc) ∧ W.cell? ⟨w.heap.size, 12, none⟩ = some (br.str b0.ta))) ∧ (((W.cell? ⟨bx, 0, none⟩ = some (.int .i64 b0.md) ∧ W.cell? ⟨bx, 1, none⟩ = some (.int .i64 b0.tm) ∧ W.cell? ⟨bx, 2, none⟩ = some (.slice q1.fa b0.fa.length q1.fc)) ∧ (W.cell? ⟨bx, 3, none⟩ = some (.int .i64 b0.ga.1) ∧ W.cell? ⟨bx, 4, none⟩ = some (.bool b0.ga.2))) ∧ (((W.cell? ⟨bx, 5, none⟩ = some (.slice q1.se.a1 b0.se.sp.length q1.se.c1) ∧ W.cell? ⟨bx, 6, none⟩ = some (.slice q1.se.a2 b0.se.he.length q1.se.c2) ∧ W.cell? ⟨bx, 7, none⟩ = some (.slice q1.se.a3 b0.se.fa.length q1.se.c3)) ∧ W.cell? ⟨bx, 8, none⟩ = some (.int .i64 b0.se.wn) ∧ W.cell? ⟨bx, 9, none⟩ = some (.bool b0.se.ar) ∧ W.cell? ⟨bx, 10, none⟩ = some (.slice q1.se.a4 b0.se.sq.length q1.se.c4)) ∧ W.cell? ⟨bx, 11, none⟩ = some (.slice q1.ou b0.ou.length q1.oc) ∧ W.cell? ⟨bx, 12, none⟩ = some (br.str b0.ta))))
      (first | (refine KS _ ?_; (repeat (first | with_reducible exact mem.gr_refl _ _ | with_reducible exact E2 | with_reducible exact E1 | with_reducible refine se.gr_drew1 ?_)); done) | fail)
      (first | (go_at_call 7; refine (br.toBrain b0 pl0 _ ((w0.kept g0).kept (by (repeat (first | with_reducible exact mem.gr_refl _ _ | with_reducible exact E2 | with_reducible exact E1 | with_reducible refine se.gr_drew1 ?_)))) B).mono ?_; rintro e w6 ⟨q2, rfl, r1, O2⟩; have E1 : w5.grownBy w6 none := mem.gr_trans (by (repeat (first | with_reducible exact mem.gr_refl _ _ | with_reducible exact E2 | with_reducible exact E1 | with_reducible refine se.gr_drew1 ?_))) r1) | (go_at_call 9; refine (br.eqBrain b0 q1 q2 _ (O.arg.kept E1) O2.arg B).mono ?_; rintro e w7 ⟨rfl, r2⟩; have E2 : w5.grownBy w7 none := mem.gr_trans E1 r2) | fail)
    go_wp2_with fail
    go_ret
    exact ⟨rfl, mem.below_of_none (mem.gr_trans g0 E2)⟩
  · go_enter Tryd.func3, Tryd.ntmps3
    go_wp2_with fail
    refine (br.szBrain_no b0 pl0 _ l0 hb).mono ?_
    rintro e w1 ⟨rfl, r⟩
    go_wp2_with fail
    go_ret
    exact ⟨rfl, mem.below_of_none (mem.gr_trans g0 r)⟩

/-- The door's own heap meets the condition. -/
theorem door_met (os : Os) (args : Array Value) : laidMetH Tryd.prog Rows.fnExactBrainOkRow.laid ((World.doorLaid Tryd.prog 400 os).forCall (fun _ _ => 0) ⟨#[], args, []⟩).memory :=
  laidMetH_of_parts3 (fuel := 8) (laidMet_of_run' 8 (by kernel_rfl) (by kernel_rfl)) (by kernel_rfl) (by kernel_rfl)

theorem of_laid {W : World} (h : laidMetH Tryd.prog Rows.fnExactBrainOkRow.laid W) : se.Vals W ∧ ∃ (u : TypeId) (pv : Value), br.Err W u pv := by
  rw [MakeChecks.laidMetH_plain _ _ _ (by kernel_rfl)] at h
  exact br.of_two h

set_option maxRecDepth 100000 in
set_option maxHeartbeats 4000000 in
theorem lifted (os : Os) (started : os.Started) (H : Type) (enc : TypeId × Value → H) :
    ReturnsInHanded {} Tryd.checked os 3 .any (fun w args => (Rows.fnExactBrainOkSpec.pre enc Tryd.prog Tryd.f3 [] false w args ∧ laidMetH Tryd.prog Rows.fnExactBrainOkRow.laid w) ∧ sizedMet enc Tryd.prog Tryd.f3 (OpenSpec.ofChange Rows.fnExactBrainOkSpec) false w args)
      (Rows.fnExactBrainOkSpec.post enc Tryd.prog Tryd.f3 false true false false) := by
  refine returnsInHanded_of_change_and (C := Tryd.checked) (X := fun w _ => laidMetH Tryd.prog Rows.fnExactBrainOkRow.laid w) (fun _ _ _ hh h => h.of_heap hh) own started (by kernel_rfl) Tryd.func3
    (ChangeSpec.witness_shaped (enc := enc) (C := Tryd.checked) (os := os) (X := fun w _ => laidMetH Tryd.prog Rows.fnExactBrainOkRow.laid w) false (World.doorLaid Tryd.prog 400 os) #[.agg #[.int .i64 0, .int .i64 0, .slice none 0 0, .int .i64 0, .bool false, .slice none 0 0, .slice none 0 0, .slice none 0 0, .int .i64 0, .bool false, .slice none 0 0, .slice none 0 0, .string ⟨#[]⟩]] 8 rfl (World.shaped_of_RefB (by kernel_rfl) (by kernel_rfl)) (by kernel_rfl) (by kernel_rfl) (by kernel_rfl) (door_met os _)) ?_
  intro W base args ds gs before hval0 hW _ _ hL _
  have hval : ∀ (j : Nat) t v, Tryd.f3.params[j]? = some t → args[j]? = some v → Value.okWide Tryd.prog W .any base t v := hval0
  have hW' := hW
  obtain ⟨p, q0, hA0, hV, rfl, hfz, hnd⟩ := hW
  have hA : DataW.TrodAll enc Tryd.prog W 0 (fun _ => true) true Tryd.f3.params.toList args.toList ds p := hA0
  rw [Tryd.params3] at hA hval
  obtain ⟨v0, vs0, d0, ds0, p0, q0, hargs, rfl, rfl, h0, r0⟩ := trodAll_cons hA
  obtain ⟨rfl, rfl, rfl⟩ := trodAll_nil r0
  obtain rfl : args = #[v0] := by cases args; simp_all
  have k0 := h0
  have lt0 : ∀ x ∈ p0, x.block < W.heap.size := by obtain ⟨m, hm⟩ := k0; exact DataW.trod_lt m _ _ _ hm
  obtain ⟨b0, pl0, rfl, w0, l0⟩ := br.open_brain (hval 0 30 v0 rfl rfl) h0
  obtain ⟨hVals, u, pv, hE⟩ := of_laid hL
  clear hA0 hval0
  obtain ⟨y1, y2, rfl⟩ := br.two_of (br.len_of (enc := enc) hV)
  refine (walk b0 pl0 W w0 l0 u pv hVals hE).mono fun e W' ⟨he, bel⟩ => ?_
  subst he
  exact ⟨_, rfl, _, _, _, [], _, _, hW', trodAll_mk1 (shut_bool Tryd.underlying4 _), (trodAll_cons_mk (Below.trod laidOut (by kernel_rfl) (of_decide_eq_true (by kernel_rfl)) k0 bel lt0) trodAll_mk0), br.vars_stay bel hV br.two_ok, bel.frame _, fun h => by cases h⟩

theorem over : Rows.fnExactBrainOkRow.holds Tryd.pinned (OpenSpec.ofChange Rows.fnExactBrainOkSpec) :=
  OpenClaim.holds_of_wide 3 Tryd.f3 rfl rfl rfl rfl rfl rfl rfl ⟨rfl, rfl, rfl, rfl, rfl⟩ rfl rfl rfl rfl rfl (by kernel_rfl) Tryd.func3 (by kernel_rfl)
    (of_decide_eq_true (by kernel_rfl)) (by unfold Func.isWrapper; first | (rw [if_pos (by decide +kernel)]; kernel_rfl) | (rw [if_neg (by decide +kernel)]; exact ⟨rfl, rfl⟩))
    (fun os started H enc _ => lifted os started H enc)

theorem proved : Rows.FnExactBrainOkCardSaid :=
  Claim7.holds_tied_plain_at .later [] [.data, .sentinel] true (true, "cc0a05ecd456db3f7b5519c8c9cc4de86d82865c29561dd42bb6fcf77e2ed6b0") false
    over (fun _ h => by cases h) (by kernel_rfl) (fun _ h => by cases h) fnExactBrainOk_row_tie rfl ⟨rfl, rfl⟩ (by kernel_rfl) rfl
    (fun f fn hf hfn => by
      obtain rfl : f = 3 := Option.some.inj ((show Tryd.prog.funcNamed "loop.example/g00619/laws.FnExactBrainOk" = some 3 by kernel_rfl).symm.trans hf) |>.symm
      obtain rfl : fn = Tryd.f3 := (Option.some.inj (Tryd.func3.symm.trans hfn)).symm
      exact ⟨by kernel_rfl, fun j t ht => by
        rw [Tryd.params3] at ht
        have hm : t ∈ [30] := by simpa using Array.mem_of_getElem? ht
        have hall : ([30].all fun u => !Tryd.prog.wantsStandIn u) = true := by kernel_rfl
        exact (show Tryd.prog.wantsStandIn t = false by simpa using List.all_eq_true.1 hall t hm)⟩)
    (by kernel_rfl)
end Go.Proofs.YtnkimjmpjnhlnaaDoor.fnExactBrainOk
