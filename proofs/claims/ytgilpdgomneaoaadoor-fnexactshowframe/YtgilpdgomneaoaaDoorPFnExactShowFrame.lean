/- For every frame ShowFrame answers as its model does, and changes nothing of what it was given; the law FnExactShowFrame returns true at every argument, and its argument reads behind the call as before. Its condition: the program's own table valuesOf and three tables of Go's library hold what their initialisers lay (the card ties that to the text). -/
import Derived.Test.YtgilpdgomneaoaaDoorRows
import Derived.Test.YtgilpdgomneaoaaDoorTie
import Derived.Test.YtgilpdgomneaoaaDoorCards
import Derived.Test.YtgilpdgomneaoaaDoorFrShow2
import Derived.WalkKit
import Derived.ProofKit
import Derived.OpenShut
import Derived.ShutString
import Derived.ChangeOld
import Derived.Below
import Derived.WalkSmall
import Derived.LaidMore
import Derived.Stop.Joined
import Derived.Stop.LaidErr
import Derived.Lib.LaidTab
import Derived.SevenTiedAt
namespace Go.Proofs.YtgilpdgomneaoaaDoor.fnExactShowFrame
open Go.ChangeShapes Go.WideShapes Go.ChangeAt Go.RowKit
open Go.ChangeMaps (open_string shut_string)
set_option linter.unusedVariables false

theorem own : ownKnob Tryd.prog.godebug = none := by kernel_rfl
theorem laidOut : laidOutB Tryd.prog = true := by kernel_rfl
theorem gVals : Tryd.prog.globalNamed "loop.example/g00619/impl.valuesOf" = some 0 := by kernel_rfl
theorem gValsType : (Tryd.prog.globals[0]?).map (·.type) = some 60 := by kernel_rfl

theorem walk (kd0 sq0 : Int) (a0 : Option Addr) (cap0 : Nat) (z0 : List Int) (w : World) (wk0 : (Lit.int .i64 kd0).wf = true) (wq0 : (Lit.int .i64 sq0).wf = true) (l0 : z0.length ≤ maxLen) (w0 : frm.Ints w a0 z0) (wf0 : ∀ n ∈ z0, (Lit.int .i64 n).wf = true) (hv : frm.Vals w) (hp : Lib.TabIs Tryd.prog w "internal/strconv.uint64pow10" .u64 Lib.pow10Tab) :
    Calls Tryd.prog 6 #[frm.fr kd0 sq0 a0 z0.length cap0] w fun e w' => e = .returned (.bool true) ∧ Below w.heap.size w w' := by
  have hsz := fun W => frm.szFrame kd0 sq0 a0 z0.length cap0 W l0
  by_cases hbig : z0.length ≤ 1048576
  · rw [if_pos hbig] at hsz
    have g0 := World.grownBy_alloc w (Obj.cells #[.int .i64 kd0, .int .i64 sq0, .slice a0 z0.length cap0] 36) none
    have hb := mem.Has.fresh w 36 #[.int .i64 kd0, .int .i64 sq0, .slice a0 z0.length cap0]
    go_enter Tryd.func6, Tryd.ntmps6
    go_wp2_with fail
    refine (hsz _).mono ?_
    rintro e w1 ⟨rfl, hg1⟩
    replace hb := hb.grown hg1 (by simp)
    replace g0 := mem.gr_trans g0 hg1
    clear hg1
    obtain ⟨b0, b1, b2, _, _, _⟩ := frm.three hb
    go_wp2_with fail
    refine (frm.toFrame kd0 sq0 a0 cap0 z0 _ (w0.kept g0) hbig).mono ?_
    rintro e w2 ⟨g, rfl, hge, hg2, hI⟩
    replace hb := hb.grown hg2 (by simp)
    replace g0 := mem.gr_trans g0 hg2
    clear hg2 b0 b1 b2
    go_wp2_with fail
    refine (frm.specShow kd0 sq0 _ _ z0 _ hI l0).mono ?_
    rintro e w3 ⟨rfl, hg3⟩
    replace hb := hb.grown hg3 (by simp)
    replace g0 := mem.gr_trans g0 hg3
    clear hg3 hI hge
    obtain ⟨b0, b1, b2, _, _, _⟩ := frm.three hb
    go_wp2_with fail
    refine (frm.toFrame kd0 sq0 a0 cap0 z0 _ (w0.kept g0) hbig).mono ?_
    rintro e w4 ⟨g', rfl, hge, hg4, hI⟩
    replace hb := (hb.grown hg4 (by simp)).alloc (Obj.cells #[.int .i64 kd0, .int .i64 sq0, .slice (some ⟨g', 0, none⟩) z0.length z0.length] 26)
    have hx := mem.Has.fresh w4 26 #[.int .i64 kd0, .int .i64 sq0, .slice (some ⟨g', 0, none⟩) z0.length z0.length]
    replace g0 := mem.gr_alloc (mem.gr_trans g0 hg4) (Obj.cells #[.int .i64 kd0, .int .i64 sq0, .slice (some ⟨g', 0, none⟩) z0.length z0.length] 26)
    replace hI := hI.kept (World.grownBy_alloc w4 (Obj.cells #[.int .i64 kd0, .int .i64 sq0, .slice (some ⟨g', 0, none⟩) z0.length z0.length] 26) none)
    clear hg4 b0 b1 b2
    go_wp2_with fail
    refine (frm.implShow kd0 sq0 _ _ z0 _ (hv.kept g0) (frm.Pow.kept hp g0) hI l0).mono ?_
    rintro e w5 ⟨rfl, hg5⟩
    replace hb := hb.grown hg5 (by simp)
    replace hx := hx.grown hg5 (by simp)
    replace g0 := mem.gr_trans g0 hg5
    replace hI := hI.kept hg5
    clear hg5
    obtain ⟨b0, b1, b2, _, _, _⟩ := frm.three hb
    obtain ⟨c0, c1, c2, _, _, _⟩ := frm.three hx
    generalize w4.heap.size = x4 at *
    clear hge
    go_wp2_with fail
    have e0 : mem.Has w5.drew _ _ _ := hb
    have x0 : mem.Has w5.drew _ _ _ := hx
    have I0 : frm.Ints w5.drew _ _ := hI
    have A0 : frm.Ints w5.drew a0 z0 := (w0.kept g0).drewN 1
    go_region_held3 (fun W => W.cell? ⟨w.heap.size, 0, none⟩ = some (.int .i64 kd0) ∧ W.cell? ⟨w.heap.size, 1, none⟩ = some (.int .i64 sq0) ∧ W.cell? ⟨w.heap.size, 2, none⟩ = some (.slice a0 z0.length cap0) ∧ W.cell? ⟨x4, 0, none⟩ = some (.int .i64 kd0) ∧ W.cell? ⟨x4, 1, none⟩ = some (.int .i64 sq0) ∧ W.cell? ⟨x4, 2, none⟩ = some (.slice (some ⟨g', 0, none⟩) z0.length z0.length))
      (first | exact ⟨(frm.three e2).1, (frm.three e2).2.1, (frm.three e2).2.2.1, (frm.three x2).1, (frm.three x2).2.1, (frm.three x2).2.2.1⟩ | exact ⟨(frm.three e1).1, (frm.three e1).2.1, (frm.three e1).2.2.1, (frm.three x1).1, (frm.three x1).2.1, (frm.three x1).2.2.1⟩ | exact ⟨(frm.three e0).1, (frm.three e0).2.1, (frm.three e0).2.2.1, (frm.three x0).1, (frm.three x0).2.1, (frm.three x0).2.2.1⟩)
      (first | (go_at_call 23; refine (frm.toFrame kd0 sq0 a0 cap0 z0 _ A0 hbig).mono ?_; rintro e v1 ⟨gn, rfl, hgn, hg6, I2⟩; have e1 := e0.grown hg6 (by simp); have x1 := x0.grown hg6 (by simp); have I1 := I0.kept hg6) | (go_at_call 24; refine (frm.eqFrame kd0 sq0 _ _ _ _ z0 _ I1 I2 l0).mono ?_; rintro e v2 ⟨rfl, hg7⟩; have e2 := e1.grown hg7 (by simp); have x2 := x1.grown hg7 (by simp)))
    go_wp2_with fail
    go_ret
    exact ⟨rfl, mem.below_of_none (mem.gr_trans (mem.gr_trans (mem.gr_drewN g0 1) hg6) hg7)⟩
  · rw [if_neg hbig] at hsz
    go_enter Tryd.func6, Tryd.ntmps6
    go_wp2_with fail
    refine (hsz _).mono ?_
    rintro e w1 ⟨rfl, hg1⟩
    go_wp2_with fail
    go_ret
    exact ⟨rfl, mem.below_of_none (mem.gr_trans (World.grownBy_alloc _ _ _) hg1)⟩

/-- The door's own heap meets the condition. -/
theorem door_met (os : Os) (args : Array Value) : laidMetH Tryd.prog Rows.fnExactShowFrameRow.laid ((World.doorLaid Tryd.prog 400 os).forCall (fun _ _ => 0) ⟨#[], args, []⟩).memory :=
  laidMetH_of_parts3 (fuel := 8) (laidMet_of_run' 8 (by kernel_rfl) (by kernel_rfl)) (by kernel_rfl) (by kernel_rfl)

theorem of_laid_pow {W : World} (h : laidMetH Tryd.prog Rows.fnExactShowFrameRow.laid W) : Lib.TabIs Tryd.prog W "internal/strconv.uint64pow10" .u64 Lib.pow10Tab := by
  rw [MakeChecks.laidMetH_plain _ _ _ (by kernel_rfl)] at h
  have h3 := h.tail.tail
  exact Lib.tabIs_of_head (P := Tryd.prog) (k := .u64) (zs := Lib.pow10Tab) (by kernel_rfl : Tryd.prog.globalNamed "internal/strconv.uint64pow10" = some 1) (by kernel_rfl) Tryd.underlying100 Tryd.underlying89 (by kernel_rfl) (by kernel_rfl) h3
theorem of_laid {W : World} (h : laidMetH Tryd.prog Rows.fnExactShowFrameRow.laid W) : frm.Vals W := by
  rw [MakeChecks.laidMetH_plain _ _ _ (by kernel_rfl)] at h
  have h3 := h.tail.tail.tail
  have hT : Lib.TabIs Tryd.prog W "loop.example/g00619/impl.valuesOf" .i64 [0, 3, 2, 6, 2] := Lib.tabIs_of_head (P := Tryd.prog) (k := .i64) (zs := [0, 3, 2, 6, 2]) gVals gValsType Tryd.underlying60 Tryd.underlying3 (by kernel_rfl) (by kernel_rfl) h3
  have c : ∀ i, i < 5 → W.cell? ⟨0, i, none⟩ = some (.int .i64 (txt.nth [0, 3, 2, 6, 2] i)) := fun i hi => hT.cell gVals i (by simpa using hi)
  refine ⟨?_, c⟩
  have c0 := c 0 (by omega)
  by_cases hs : 0 < W.heap.size
  · omega
  · have hn : W.heap[0]? = none := Array.getElem?_eq_none (by omega)
    simp [World.cell?, hn] at c0

set_option maxRecDepth 100000 in
set_option maxHeartbeats 4000000 in
theorem lifted (os : Os) (started : os.Started) (H : Type) (enc : TypeId × Value → H) :
    ReturnsInHanded {} Tryd.checked os 6 .any (fun w args => (Rows.fnExactShowFrameSpec.pre enc Tryd.prog Tryd.f6 [] false w args ∧ laidMetH Tryd.prog Rows.fnExactShowFrameRow.laid w) ∧ sizedMet enc Tryd.prog Tryd.f6 (OpenSpec.ofChange Rows.fnExactShowFrameSpec) false w args)
      (Rows.fnExactShowFrameSpec.post enc Tryd.prog Tryd.f6 false true false false) := by
  refine returnsInHanded_of_change_and (C := Tryd.checked) (X := fun w _ => laidMetH Tryd.prog Rows.fnExactShowFrameRow.laid w) (fun _ _ _ hh h => h.of_heap hh) own started (by kernel_rfl) Tryd.func6
    (ChangeSpec.witness_shaped (enc := enc) (C := Tryd.checked) (os := os) (X := fun w _ => laidMetH Tryd.prog Rows.fnExactShowFrameRow.laid w) false (World.doorLaid Tryd.prog 400 os) #[.agg #[.int .i64 0, .int .i64 0, .slice none 0 0]] 8 rfl (World.shaped_of_RefB (by kernel_rfl) (by kernel_rfl)) (by kernel_rfl) (by kernel_rfl) (by kernel_rfl) (door_met os _)) ?_
  intro W base args ds gs before hval0 hW _ _ hL _
  have hval : ∀ (j : Nat) t v, Tryd.f6.params[j]? = some t → args[j]? = some v → Value.okWide Tryd.prog W .any base t v := hval0
  have hW' := hW
  obtain ⟨p, q, hA0, hV, rfl, hfz, hnd⟩ := hW
  have hA : DataW.TrodAll enc Tryd.prog W 0 (fun _ => true) true Tryd.f6.params.toList args.toList ds p := hA0
  rw [Tryd.params6] at hA hval
  obtain ⟨v0, vs0, d0, ds0, p0, q0, hargs, rfl, rfl, h0, r0⟩ := trodAll_cons hA
  obtain ⟨rfl, rfl, rfl⟩ := trodAll_nil r0
  obtain rfl : args = #[v0] := by cases args; simp_all
  obtain ⟨gg, tt, cs, fuel, dv, pv, rfl, hg, ht, hvar, hd, rfl⟩ := trodVars_one hV
  have k0 := h0
  have lt0 : ∀ x ∈ p0, x.block < W.heap.size := by obtain ⟨m, hm⟩ := k0; exact DataW.trod_lt m _ _ _ hm
  obtain ⟨kd0, sq0, a0, cap0, z0, rfl, wk0, wq0, l0, w0, wf0⟩ := frm.open_frame (hval 0 36 v0 rfl rfl) h0
  have hVals := of_laid hL
  have hPow := of_laid_pow hL
  clear hA0 hval0
  have hltv : ∀ x ∈ pv, x.block < W.heap.size := DataW.trod_lt fuel _ _ _ hd
  obtain rfl := Option.some.inj (gVals.symm.trans hg)
  obtain rfl := Option.some.inj (gValsType.symm.trans ht)
  have hd2 : DataW.trod enc Tryd.prog W 0 (fun _ => true) true fuel 60 cs.toList = some (dv, pv) := hd
  have hgg : 0 < W.heap.size := hVals.1
  refine (walk kd0 sq0 a0 cap0 z0 W wk0 wq0 l0 w0 wf0 hVals hPow).mono fun e W' ⟨he, bel⟩ => ?_
  subst he
  obtain ⟨fuel', hd'⟩ := Below.trod laidOut (by kernel_rfl) (of_decide_eq_true (by kernel_rfl)) (v := .agg cs) (⟨fuel, by simpa [Value.cells] using hd2⟩ : DataW.Trod enc Tryd.prog W 0 (fun _ => true) true 60 (.agg cs) dv pv) bel hltv
  have hv' : DataW.TrodVars enc Tryd.prog W' (fun b => decide (b < W.heap.size)) ["loop.example/g00619/impl.valuesOf"] [dv] (MemPlace.row ⟨0, 0, none⟩ cs.size ++ pv) := trodVars_mk1 hg ht (var?_below bel hg hgg hvar) (by simpa [Value.cells] using hd')
  exact ⟨_, rfl, _, _, _, [], _, _, hW', trodAll_mk1 (shut_bool Tryd.underlying4 _), (trodAll_cons_mk (Below.trod laidOut (by kernel_rfl) (of_decide_eq_true (by kernel_rfl)) k0 bel lt0) trodAll_mk0), hv', bel.frame _, fun h => by cases h⟩

theorem over : Rows.fnExactShowFrameRow.holds Tryd.pinned (OpenSpec.ofChange Rows.fnExactShowFrameSpec) :=
  OpenClaim.holds_of_wide 6 Tryd.f6 rfl rfl rfl rfl rfl rfl rfl ⟨rfl, rfl, rfl, rfl, rfl⟩ rfl rfl rfl rfl rfl (by kernel_rfl) Tryd.func6 (by kernel_rfl)
    (of_decide_eq_true (by kernel_rfl)) (by unfold Func.isWrapper; first | (rw [if_pos (by decide +kernel)]; kernel_rfl) | (rw [if_neg (by decide +kernel)]; exact ⟨rfl, rfl⟩))
    (fun os started H enc _ => lifted os started H enc)

theorem proved : Rows.FnExactShowFrameCardSaid :=
  Claim7.holds_tied_plain_at .later [] [.data, .data, .data, .data] true (true, "436b1280a4c2c36e5da5eab85ed4c9e7cc4cfb48db515791a114f1f7d9fb9c97") false
    over (fun _ h => by cases h) (by kernel_rfl) (fun _ h => by cases h) fnExactShowFrame_row_tie rfl ⟨rfl, rfl⟩ (by kernel_rfl) rfl
    (fun f fn hf hfn => by
      obtain rfl : f = 6 := Option.some.inj ((show Tryd.prog.funcNamed "loop.example/g00619/laws.FnExactShowFrame" = some 6 by kernel_rfl).symm.trans hf) |>.symm
      obtain rfl : fn = Tryd.f6 := (Option.some.inj (Tryd.func6.symm.trans hfn)).symm
      exact ⟨by kernel_rfl, fun j t ht => by
        rw [Tryd.params6] at ht
        have hm : t ∈ [36] := by simpa using Array.mem_of_getElem? ht
        have hall : ([36].all fun u => !Tryd.prog.wantsStandIn u) = true := by kernel_rfl
        exact (show Tryd.prog.wantsStandIn t = false by simpa using List.all_eq_true.1 hall t hm)⟩)
    (by kernel_rfl)
end Go.Proofs.YtgilpdgomneaoaaDoor.fnExactShowFrame
