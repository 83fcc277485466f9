/- The program's NewBrain answers as its model, and its answer owns its memory. Its condition: the program's own table valuesOf holds what its initialiser lays (the card ties that to the text). -/
import Derived.Test.YtnkimjmpjnhlnaaDoorRows
import Derived.Test.YtnkimjmpjnhlnaaDoorTie
import Derived.Test.YtnkimjmpjnhlnaaDoorCards
import Derived.Test.YtnkimjmpjnhlnaaDoorBrArg
import Derived.Test.YtnkimjmpjnhlnaaDoorBrNewI
import Derived.WalkKit
import Derived.ProofKit
import Derived.OpenShut
import Derived.ShutString
import Derived.ChangeOld
import Derived.Below
import Derived.WalkSmall
import Derived.LaidMore
import Derived.Stop.Joined
import Derived.Stop.LaidErr
import Derived.Lib.LaidTab
import Derived.SevenTiedAt
namespace Go.Proofs.YtnkimjmpjnhlnaaDoor.fnExactNewBrain
open Go.ChangeShapes Go.WideShapes Go.ChangeAt Go.RowKit
open Go.ChangeMaps (open_string shut_string)
set_option linter.unusedVariables false

theorem own : ownKnob Tryd.prog.godebug = none := by kernel_rfl
theorem laidOut : laidOutB Tryd.prog = true := by kernel_rfl
theorem gVals : Tryd.prog.globalNamed "loop.example/g00619/impl.valuesOf" = some 0 := by kernel_rfl
theorem gValsType : (Tryd.prog.globals[0]?).map (·.type) = some 83 := by kernel_rfl

theorem walk  (w : World)  (hv : se.Vals w) :
    Calls Tryd.prog 4 #[] w fun e w' => e = .returned (.bool true) ∧ Below w.heap.size w w' := by
  have B0 : br.BdB br.newB := ⟨by decide, ⟨by decide, by decide, by decide, by decide⟩, by decide, by decide⟩
  have cS := br.specNewBrain
  have cI := br.implNewBrain
  generalize br.newB = s at *
  have nn : decide ((br.mB3 1 s : Int) < 0) = false := by simp
  go_enter Tryd.func4, Tryd.ntmps4
  go_wp2_with fail
  refine (cS _).mono ?_
  rintro e w1 ⟨p0, rfl, h, O0⟩
  have g0 := mem.gr_alloc h (Obj.cells (br.cs13 s p0) 39)
  have kA := mem.Has.fresh w1 39 (br.cs13 s p0)
  replace O0 := O0.kept (World.grownBy_alloc w1 (Obj.cells (br.cs13 s p0) 39) none)
  have lA := kA.lt
  clear h
  go_wp2_with fail
  generalize w1.heap.size = bA at *
  generalize w1.alloc (Obj.cells (br.cs13 s p0) 39) = w2 at *
  refine (cI _ (hv.kept g0)).mono ?_
  rintro e w3 ⟨p1, rfl, h, O1, AP⟩
  have lO1 : ∀ c, br.blkB s p1 c → w2.heap.size ≤ c ∧ c < w3.heap.size := fun c hc => O1.lt hc
  have lO0 : ∀ c, br.blkB s p0 c → c < w2.heap.size := fun c hc => (O0.lt hc).2
  have l2 := g0.size
  replace g0 := mem.gr_alloc (mem.gr_trans g0 h) (Obj.cells (br.cs13 s p1) 39)
  replace kA := (kA.grown h (by simp)).alloc (Obj.cells (br.cs13 s p1) 39)
  replace O0 := (O0.kept h).kept (World.grownBy_alloc w3 (Obj.cells (br.cs13 s p1) 39) none)
  replace O1 := O1.kept (World.grownBy_alloc w3 (Obj.cells (br.cs13 s p1) 39) none)
  have kB := mem.Has.fresh w3 39 (br.cs13 s p1)
  clear h
  obtain ⟨⟨⟨c0, c1, c2⟩, c3, c4⟩, ⟨⟨c5, c6, c7⟩, c8, c9, c10⟩, c11, c12⟩ := br.thirteen kA
  obtain ⟨⟨⟨d0, d1, d2⟩, d3, d4⟩, ⟨⟨d5, d6, d7⟩, d8, d9, d10⟩, d11, d12⟩ := br.thirteen kB
  go_wp2_with fail
  generalize w3.heap.size = bB at *
  generalize w3.alloc (Obj.cells (br.cs13 s p1) 39) = w4 at *
  refine (br.eqBrain s p1 p0 _ O1.arg O0.arg B0).mono ?_
  rintro e w5 ⟨rfl, h⟩
  replace g0 := mem.gr_trans g0 h
  replace kA := kA.grown h (by simp)
  replace kB := kB.grown h (by simp)
  replace O0 := O0.kept h
  replace O1 := O1.kept h
  clear h c0 c1 c2 c3 c4 c5 c6 c7 c8 c9 c10 c11 c12 d0 d1 d2 d3 d4 d5 d6 d7 d8 d9 d10 d11 d12
  obtain ⟨⟨⟨d0, d1, d2⟩, d3, d4⟩, ⟨⟨d5, d6, d7⟩, d8, d9, d10⟩, d11, d12⟩ := br.thirteen kB
  go_wp2_with fail
  refine (br.markBrain 1 _ s p1 _ O1 AP B0 (by omega)).mono ?_
  rintro e w6 ⟨rfl, C, A1⟩
  replace g0 : w.grownBy w6 none := C.gr g0 (fun i hi => by have := (lO1 i hi).1; omega)
  replace kA := C.has kA (fun hc => by have := (lO1 _ hc).1; omega)
  replace kB := C.has kB (fun hc => by have := (lO1 _ hc).2; omega)
  replace O0 := O0.chg C (fun c hc hd => by have := (lO1 _ hd).1; have := lO0 _ hc; omega)
  clear C O1 d0 d1 d2 d3 d4 d5 d6 d7 d8 d9 d10 d11 d12
  obtain ⟨⟨⟨d0, d1, d2⟩, d3, d4⟩, ⟨⟨d5, d6, d7⟩, d8, d9, d10⟩, d11, d12⟩ := br.thirteen kB
  go_wp2_with fail
  refine (br.heldBrain 1 s p1 _ A1 B0 (by omega)).mono ?_
  rintro e w7 ⟨rfl, h⟩
  replace g0 := mem.gr_trans g0 h
  replace kA := kA.grown h (by simp)
  replace kB := kB.grown h (by simp)
  replace O0 := O0.kept h
  replace A1 := A1.kept h
  clear h d0 d1 d2 d3 d4 d5 d6 d7 d8 d9 d10 d11 d12
  go_wp2_with fail
  refine (cI _ (hv.kept g0)).mono ?_
  rintro e w8 ⟨p2, rfl, h, O2, _⟩
  replace g0 := mem.gr_alloc (mem.gr_trans g0 h) (Obj.cells (br.cs13 s p2) 39)
  replace kA := (kA.grown h (by simp)).alloc (Obj.cells (br.cs13 s p2) 39)
  replace kB := (kB.grown h (by simp)).alloc (Obj.cells (br.cs13 s p2) 39)
  replace O0 := (O0.kept h).kept (World.grownBy_alloc w8 (Obj.cells (br.cs13 s p2) 39) none)
  replace A1 := (A1.kept h).kept (World.grownBy_alloc w8 (Obj.cells (br.cs13 s p2) 39) none)
  replace O2 := O2.kept (World.grownBy_alloc w8 (Obj.cells (br.cs13 s p2) 39) none)
  have kC := mem.Has.fresh w8 39 (br.cs13 s p2)
  clear h
  obtain ⟨⟨⟨c0, c1, c2⟩, c3, c4⟩, ⟨⟨c5, c6, c7⟩, c8, c9, c10⟩, c11, c12⟩ := br.thirteen kA
  obtain ⟨⟨⟨d0, d1, d2⟩, d3, d4⟩, ⟨⟨d5, d6, d7⟩, d8, d9, d10⟩, d11, d12⟩ := br.thirteen kC
  go_wp2_with fail
  generalize w8.heap.size = bC at *
  generalize w8.alloc (Obj.cells (br.cs13 s p2) 39) = w9 at *
  refine (br.eqBrain s p2 p0 _ O2.arg O0.arg B0).mono ?_
  rintro e w10 ⟨rfl, h⟩
  replace g0 := mem.gr_trans g0 h
  replace kB := kB.grown h (by simp)
  replace A1 := A1.kept h
  clear h c0 c1 c2 c3 c4 c5 c6 c7 c8 c9 c10 c11 c12 d0 d1 d2 d3 d4 d5 d6 d7 d8 d9 d10 d11 d12 kA kC O0 O2
  obtain ⟨⟨⟨d0, d1, d2⟩, d3, d4⟩, ⟨⟨d5, d6, d7⟩, d8, d9, d10⟩, d11, d12⟩ := br.thirteen kB
  go_wp2_with fail
  refine (br.heldBrain 1 s p1 _ A1 B0 (by omega)).mono ?_
  rintro e w11 ⟨rfl, h⟩
  go_wp2_with fail
  go_ret
  exact ⟨rfl, mem.below_of_none (mem.gr_trans g0 h)⟩

/-- The door's own heap meets the condition. -/
theorem door_met (os : Os) (args : Array Value) : laidMetH Tryd.prog Rows.fnExactNewBrainRow.laid ((World.doorLaid Tryd.prog 400 os).forCall (fun _ _ => 0) ⟨#[], args, []⟩).memory :=
  laidMetH_of_parts3 (fuel := 8) (laidMet_of_run' 8 (by kernel_rfl) (by kernel_rfl)) (by kernel_rfl) (by kernel_rfl)

theorem of_laid {W : World} (h : laidMetH Tryd.prog Rows.fnExactNewBrainRow.laid W) : se.Vals W := by
  rw [MakeChecks.laidMetH_plain _ _ _ (by kernel_rfl)] at h
  have h3 := h
  have hT : Lib.TabIs Tryd.prog W "loop.example/g00619/impl.valuesOf" .i64 [0, 3, 2, 6, 2] := Lib.tabIs_of_head (P := Tryd.prog) (k := .i64) (zs := [0, 3, 2, 6, 2]) gVals gValsType Tryd.underlying83 Tryd.underlying3 (by kernel_rfl) (by kernel_rfl) h3
  have c : ∀ i, i < 5 → W.cell? ⟨0, i, none⟩ = some (.int .i64 (il.nth [0, 3, 2, 6, 2] i)) := fun i hi => hT.cell gVals i (by simpa using hi)
  refine ⟨?_, c⟩
  have c0 := c 0 (by omega)
  by_cases hs : 0 < W.heap.size
  · omega
  · have hn : W.heap[0]? = none := Array.getElem?_eq_none (by omega)
    simp [World.cell?, hn] at c0

set_option maxRecDepth 100000 in
set_option maxHeartbeats 4000000 in
theorem lifted (os : Os) (started : os.Started) (H : Type) (enc : TypeId × Value → H) :
    ReturnsInHanded {} Tryd.checked os 4 .any (fun w args => (Rows.fnExactNewBrainSpec.pre enc Tryd.prog Tryd.f4 [] false w args ∧ laidMetH Tryd.prog Rows.fnExactNewBrainRow.laid w) ∧ sizedMet enc Tryd.prog Tryd.f4 (OpenSpec.ofChange Rows.fnExactNewBrainSpec) false w args)
      (Rows.fnExactNewBrainSpec.post enc Tryd.prog Tryd.f4 false true false false) := by
  refine returnsInHanded_of_change_and (C := Tryd.checked) (X := fun w _ => laidMetH Tryd.prog Rows.fnExactNewBrainRow.laid w) (fun _ _ _ hh h => h.of_heap hh) own started (by kernel_rfl) Tryd.func4
    (ChangeSpec.witness_shaped (enc := enc) (C := Tryd.checked) (os := os) (X := fun w _ => laidMetH Tryd.prog Rows.fnExactNewBrainRow.laid w) false (World.doorLaid Tryd.prog 400 os) #[] 8 rfl (World.shaped_of_RefB (by kernel_rfl) (by kernel_rfl)) (by kernel_rfl) (by kernel_rfl) (by kernel_rfl) (door_met os _)) ?_
  intro W base args ds gs before hval0 hW _ _ hL _
  have hval : ∀ (j : Nat) t v, Tryd.f4.params[j]? = some t → args[j]? = some v → Value.okWide Tryd.prog W .any base t v := hval0
  have hW' := hW
  obtain ⟨p, q, hA0, hV, rfl, hfz, hnd⟩ := hW
  have hA : DataW.TrodAll enc Tryd.prog W 0 (fun _ => true) true Tryd.f4.params.toList args.toList ds p := hA0
  rw [Tryd.params4] at hA hval
  obtain ⟨hargs, rfl, rfl⟩ := trodAll_nil hA
  obtain rfl : args = #[] := by cases args; simp_all
  obtain ⟨gg, tt, cs, fuel, dv, pv, rfl, hg, ht, hvar, hd, rfl⟩ := trodVars_one hV
  have hVals := of_laid hL

  clear hA0 hval0
  have hltv : ∀ x ∈ pv, x.block < W.heap.size := DataW.trod_lt fuel _ _ _ hd
  obtain rfl := Option.some.inj (gVals.symm.trans hg)
  obtain rfl := Option.some.inj (gValsType.symm.trans ht)
  have hd2 : DataW.trod enc Tryd.prog W 0 (fun _ => true) true fuel 83 cs.toList = some (dv, pv) := hd
  have hgg : 0 < W.heap.size := hVals.1
  refine (walk  W  hVals).mono fun e W' ⟨he, bel⟩ => ?_
  subst he
  obtain ⟨fuel', hd'⟩ := Below.trod laidOut (by kernel_rfl) (of_decide_eq_true (by kernel_rfl)) (v := .agg cs) (⟨fuel, by simpa [Value.cells] using hd2⟩ : DataW.Trod enc Tryd.prog W 0 (fun _ => true) true 83 (.agg cs) dv pv) bel hltv
  have hv' : DataW.TrodVars enc Tryd.prog W' (fun b => decide (b < W.heap.size)) ["loop.example/g00619/impl.valuesOf"] [dv] (MemPlace.row ⟨0, 0, none⟩ cs.size ++ pv) := trodVars_mk1 hg ht (var?_below bel hg hgg hvar) (by simpa [Value.cells] using hd')
  exact ⟨_, rfl, _, _, _, [], _, _, hW', trodAll_mk1 (shut_bool Tryd.underlying4 _), trodAll_mk0, hv', bel.frame _, fun h => by cases h⟩

theorem over : Rows.fnExactNewBrainRow.holds Tryd.pinned (OpenSpec.ofChange Rows.fnExactNewBrainSpec) :=
  OpenClaim.holds_of_wide 4 Tryd.f4 rfl rfl rfl rfl rfl rfl rfl ⟨rfl, rfl, rfl, rfl, rfl⟩ rfl rfl rfl rfl rfl (by kernel_rfl) Tryd.func4 (by kernel_rfl)
    (of_decide_eq_true (by kernel_rfl)) (by unfold Func.isWrapper; first | (rw [if_pos (by decide +kernel)]; kernel_rfl) | (rw [if_neg (by decide +kernel)]; exact ⟨rfl, rfl⟩))
    (fun os started H enc _ => lifted os started H enc)

theorem proved : Rows.FnExactNewBrainCardSaid :=
  Claim7.holds_tied_plain_at .later [] [.data] true (true, "cc0a05ecd456db3f7b5519c8c9cc4de86d82865c29561dd42bb6fcf77e2ed6b0") false
    over (fun _ h => by cases h) (by kernel_rfl) (fun _ h => by cases h) fnExactNewBrain_row_tie rfl ⟨rfl, rfl⟩ (by kernel_rfl) rfl
    (fun f fn hf hfn => by
      obtain rfl : f = 4 := Option.some.inj ((show Tryd.prog.funcNamed "loop.example/g00619/laws.FnExactNewBrain" = some 4 by kernel_rfl).symm.trans hf) |>.symm
      obtain rfl : fn = Tryd.f4 := (Option.some.inj (Tryd.func4.symm.trans hfn)).symm
      exact ⟨by kernel_rfl, fun j t ht => by
        rw [Tryd.params4] at ht
        have hm : t ∈ [] := by simpa using Array.mem_of_getElem? ht
        have hall : ([].all fun u => !Tryd.prog.wantsStandIn u) = true := by kernel_rfl
        exact (show Tryd.prog.wantsStandIn t = false by simpa using List.all_eq_true.1 hall t hm)⟩)
    (by kernel_rfl)
end Go.Proofs.YtnkimjmpjnhlnaaDoor.fnExactNewBrain
