/- The program's At. -/
import Derived.Test.YtgclhjfjoiiclaaTabImpl3
namespace Go.Proofs.Ytgclhjfjoiiclaa.tab
open Go.ChangeShapes Go.WideShapes Go.ChangeAt Go.RowKit Go.Shelf
open Go.Proofs.Ytgclhjfjoiiclaa.nums Go.Proofs.Ytgclhjfjoiiclaa.mem
set_option linter.unusedVariables false
attribute [local go_sem] Oper.semAt_some

set_option maxHeartbeats 1000000 in
theorem implAt_no (g cap : Nat) (ps : Pts) (z : Int) (w : World) (hT : Tab w g ps) (ho : okB ps = false) :
    Calls Try.prog 36 #[.slice (some ⟨g, 0, none⟩) ps.length cap, .int .i64 z] w (Ret (.int .i64 0) w) := by
  have hh := gr_alloc (World.grownBy_alloc w (.cells #[.int .i64 z] 2) none) (.cells #[.int .i64 0] 2)
  have hf := Has.fresh (w.alloc (.cells #[.int .i64 z] 2)) 2 #[.int .i64 0]
  simp only [World.size_alloc] at hf
  go_enter Try.func36, Try.ntmps36
  go_wp2_with fail
  refine (implTableOk g cap ps _ (hT.kept hh)).mono ?_
  rintro e w1 ⟨rfl, hg⟩
  have hc := hf.grown hg (by simp)
  have c0 := hc.cell 0
  have f0 := hc.frozen 0
  have c5 := (hc.put 0 (.int .i64 0) rfl).cell 0
  simp at c0 c5
  go_wp2_with fail
  exact bodyPost_ret (v := .int .i64 0) (by simp [results, Try.results36, go_sem, c5]) rfl ⟨rfl, gr_new (gr_trans hh hg) (by omega) _ _⟩

set_option maxHeartbeats 1000000 in
theorem implAt_first (g cap : Nat) (ps : Pts) (z : Int) (w : World) (hT : Tab w g ps) (ho : OkT ps) (hz : z ≤ px ps 0) :
    Calls Try.prog 36 #[.slice (some ⟨g, 0, none⟩) ps.length cap, .int .i64 z] w (RetAt ps z w) := by
  have hb := okB_true ho
  have h2 := ho.1
  have hh := gr_alloc (World.grownBy_alloc w (.cells #[.int .i64 z] 2) none) (.cells #[.int .i64 0] 2)
  have hf := Has.fresh (w.alloc (.cells #[.int .i64 z] 2)) 2 #[.int .i64 0]
  have hx := (Has.fresh w 2 #[.int .i64 z]).alloc (.cells #[.int .i64 0] 2)
  simp only [World.size_alloc] at hf
  go_enter Try.func36, Try.ntmps36
  go_wp2_with fail
  refine (implTableOk g cap ps _ (hT.kept hh)).mono ?_
  rintro e w1 ⟨rfl, hg⟩
  have hT1 := (hT.kept hh).kept hg
  obtain ⟨tx, ty⟩ := hT1.2 0 (by omega)
  have hc := hf.grown hg (by simp)
  have hxc := (hx.grown hg (by simp)).cell 0
  have c0 := hc.cell 0
  have f0 := hc.frozen 0
  simp at c0 hxc tx ty
  have hd : decide (z ≤ px ps 0) = true := by simp [hz]
  go_wp2_with fail
  go_quiet (fail)
  have c5 := ((hc.drewN nq).put 0 (.int .i64 (py ps 0)) rfl).cell 0
  simp at c5
  go_wp2_with fail
  refine bodyPost_ret (v := .int .i64 (py ps 0)) ?_ rfl ⟨_, .inl ⟨hz, rfl⟩, rfl, gr_new (gr_drewN (gr_trans hh hg) _) (by omega) _ _⟩
  simp [results, Try.results36, go_sem, c5]

set_option maxRecDepth 100000 in
set_option maxHeartbeats 2000000 in
theorem implAt_in (F : Fence) (n : Nat) (hro : F.round = none) (hF : Hid (F = Fence.wide)) (hn : 3 ≤ n) (f1 : F.fn 36) (f2 : F.fn 58) (f3 : F.fn 66) (f4 : F.fn 57) (f5 : F.fn 59)
    (g cap : Nat) (ps : Pts) (z : Int) (w : World) (hTO : ∀ (n : Nat) (w : World), Tab w g ps → CallsIn F n Try.prog 57 #[.slice (some ⟨g, 0, none⟩) ps.length cap] w (Ret (.bool (okB ps)) w))
    (hYB : ∀ (n k : Nat) (w : World), -1000000 ≤ z → z ≤ 1000000 → CallsIn F n Try.prog 59 #[ptv ps k, ptv ps (k + 1), .int .i64 z] w (Ret (.int .i64 (mid ps k z)) w))
    (hT : Tab w g ps) (ho : OkT ps) (hz : px ps 0 < z) :
    CallsIn F n Try.prog 36 #[.slice (some ⟨g, 0, none⟩) ps.length cap, .int .i64 z] w (RetAt ps z w) := by
  have h1 : 1 ≤ n := by omega
  have hgb := hT.1
  have hb := okB_true ho
  have h2 := ho.1
  have h8 := ho.2.1
  have hh := gr_alloc (World.grownBy_alloc w (.cells #[.int .i64 z] 2) none) (.cells #[.int .i64 0] 2)
  have bR0 := Boxed.new (w.alloc (.cells #[.int .i64 z] 2)) 2 (.int .i64 0)
  have bX0 := (Boxed.new w 2 (.int .i64 z)).alloc (.cells #[.int .i64 0] 2)
  simp only [World.size_alloc] at bR0
  refine callsIn_of_wp_marks Try.func36 rfl f1 ?_ hro
  simp only [Try.ntmps36, List.size_toArray, List.length_cons, List.length_nil, Nat.reduceAdd, Nat.reduceSub, Array.replicate_succ, Array.replicate_zero, List.push_toArray, List.append_toArray, List.nil_append, List.cons_append]
  gi_wp2_with fail
  refine (hTO _ _ (hT.kept hh)).mono ?_
  rintro e w1 ⟨rfl, hg⟩
  have hT1 := (hT.kept hh).kept hg
  obtain ⟨tx, ty⟩ := hT1.2 0 (by omega)
  have bR1 := bR0.kept hg (by simp)
  have bX1 := bX0.kept hg (by simp)
  have cX := bX1.cell
  simp at tx ty
  have hd : decide (z ≤ px ps 0) = false := by simp; omega
  have hmx : Try.prog.follows .mixedOrders = true := by kernel_rfl
  have hp0 : 0 < ps.length := by omega
  gi_wp2_with fail
  refine wide.region_tail hF 5 hmx (by kernel_rfl) ?_
  simp only [List.take_succ_cons, List.take_zero, List.drop_succ_cons, List.drop_zero]
  repeat still_step
  refine wpStill_nil ?_
  gi_wp2_with fail
  refine (pairs_in F _ f2 hro _ _ _ _).mono ?_
  rintro e w2 ⟨rfl, rfl⟩
  gi_wp2_with fail
  clear cX tx ty
  have hg1 : w.grownBy w1.drew none := gr_drewN (gr_trans hh hg) 1
  have bN := Boxed.new w1.drew 56 (.slice (some ⟨g, 0, none⟩) ps.length cap)
  replace bR1 : Boxed w1.drew (w.heap.size + 1) 2 (.int .i64 0) := bR1
  replace bX1 : Boxed w1.drew w.heap.size 2 (.int .i64 z) := bX1
  have hsz := hg.size
  have hds : w1.drew.heap.size = w1.heap.size := rfl
  have hB0 : Below w.heap.size w (w1.drew.alloc (.cells #[.slice (some ⟨g, 0, none⟩) ps.length cap] 56)) := below_of_none (gr_alloc hg1 _)
  simp at hsz
  rw [hds] at bN
  refine wpIn_rangeFunc_ownH hro h1 (gf := 66) (lb := #[.pointer (some ⟨w1.heap.size, 0, none⟩)]) rfl f3 (enters_of Try.func66 (by kernel_rfl) rfl)
    (pairs_stops F (n - 1) f3 hro hF (by omega) w1.heap.size g cap ps (by omega) _ (by simp) bN.cell (hT.below hB0 hgb)) Kp2.trans (kp2_b (by simp; omega) (by simp)) (Below.refl _ _) (fun _ => rfl)
    (fun pre W => ((∀ k ∈ pre, px ps (k + 1) ≤ z) ∧ (Boxed W (w.heap.size + 1) 2 (.int .i64 0) ∧ Boxed W w.heap.size 2 (.int .i64 z)) ∧ Boxed W w1.heap.size 56 (.slice (some ⟨g, 0, none⟩) ps.length cap)) ∧ Below w.heap.size w W)
    (fun c pre W => (∃ k, (c = .ret ∧ ∃ ini, pre = ini ++ [k] ∧ (∀ j ∈ ini, px ps (j + 1) ≤ z) ∧ z < px ps (k + 1)) ∧ Boxed W (w.heap.size + 1) 2 (.int .i64 (mid ps k z))) ∧ Below w.heap.size w W)
    (OwnFrom.and (OwnFrom.and (ownFrom_pure _ _) (OwnFrom.and (OwnFrom.and (Own.from (boxed_own _ _ _) _) (Own.from (boxed_own _ _ _) _)) (Own.from (boxed_own _ _ _) _))) (ownFrom_below (Nat.le_refl _) (by simp; omega)))
    (fun c => OwnFrom.and (fun s X Y row hs hg hr => by
      obtain ⟨k, h1, h2⟩ := hs
      exact ⟨k, h1, boxed_own (w.heap.size + 1) 2 (fun (_ : Unit) => .int .i64 (mid ps k z)) () X Y row h2 hg (fun r e => (hr r e).2)⟩) (ownFrom_below (Nat.le_refl _) (by simp; omega)))
    ⟨⟨by simp, ⟨bR1.alloc _, bX1.alloc _⟩, bN⟩, hB0⟩
    (fun x a' W => ∃ Bp Bq, (w.heap.size + 1 < Bp ∧ w.heap.size + 1 < Bq) ∧ Has W Bp 55 #[.int .i64 (px ps x), .int .i64 (py ps x)] ∧ Has W Bq 55 #[.int .i64 (px ps (x + 1)), .int .i64 (py ps (x + 1))] ∧ a' = { tmps := #[.slice (some ⟨g, 0, none⟩) ps.length cap, .int .i64 z, undef, .pointer (some ⟨w.heap.size, 0, none⟩), .pointer (some ⟨w.heap.size + 1, 0, none⟩), .pointer (some ⟨Bp, 0, none⟩), .pointer (some ⟨Bq, 0, none⟩), .slice (some ⟨g, 0, none⟩) ps.length cap, .bool true, .bool false, .int .i64 z, .slice (some ⟨g, 0, none⟩) ps.length cap, .pointer (some ⟨g, 0, none⟩), .pointer (some ⟨g, 0, none⟩), .int .i64 (px ps 0), .bool false, undef, undef, undef, undef, .slice (some ⟨g, 0, none⟩) ps.length cap, .func (.func 66) #[] #[.pointer (some ⟨w1.heap.size, 0, none⟩)], .agg #[.int .i64 (px ps x), .int .i64 (py ps x)], .agg #[.int .i64 (px ps (x + 1)), .int .i64 (py ps (x + 1))], undef, undef, undef, undef, undef, undef, undef, undef, undef, undef, undef, undef, undef, undef, undef], defers := [] })
    (fun x a' _ X Y row hs hg hr => by obtain ⟨Bp, Bq, h1, h2, h3, h4⟩ := hs; exact ⟨Bp, Bq, h1, has_own Bp 55 (fun (_ : Unit) => #[.int .i64 (px ps x), .int .i64 (py ps x)]) () X Y row h2 hg (fun r e => (hr r e).2), has_own Bq 55 (fun (_ : Unit) => #[.int .i64 (px ps (x + 1)), .int .i64 (py ps (x + 1))]) () X Y row h3 hg (fun r e => (hr r e).2), h4⟩)
    ?assign ?body ?done ?stop
  case assign =>
    rintro l pre x W K ⟨⟨hp, ⟨bR1, bX1⟩, bN1⟩, hB1⟩ hK
    have hsW := hB1.size
    have hbn := bN1.lt
    gi_wp2
    refine hK _ _ (((KeepsOthers.alloc _ _).trans (KeepsOthers.alloc _ _)).from _) (Kp2.grown (row := none) (gr_alloc (World.grownBy_alloc _ _ _) _) (by omega) hbn (by simp) (by simp)) ⟨⟨hp, ⟨(bR1.alloc _).alloc _, (bX1.alloc _).alloc _⟩, (bN1.alloc _).alloc _⟩, (hB1.alloc hsW _).alloc (by simp; omega) _⟩
      ⟨W.heap.size, W.heap.size + 1, ⟨bR1.lt, by have := bR1.lt; omega⟩, (Has.fresh W _ _).alloc _, ?_, rfl⟩
    have := Has.fresh (W.alloc (Obj.cells #[Value.int IntKind.i64 (px ps x), Value.int IntKind.i64 (py ps x)] 55)) 55 #[Value.int IntKind.i64 (px ps (x + 1)), Value.int IntKind.i64 (py ps (x + 1))]
    simpa using this
  case body =>
    rintro l pre x a' W hl ⟨r, hr⟩ ⟨⟨hp, ⟨bR1, bX1⟩, bN1⟩, hB1⟩ ⟨Bp, Bq, ⟨hlp, hlq⟩, hP, hQ, rfl⟩ hlen
    have h1' : 1 ≤ n - 1 - 1 := by omega
    have hsW := hB1.size
    have hbn := bN1.lt
    have q0 := hQ.cell 0; have q1 := hQ.cell 1; have p0 := hP.cell 0; have p1 := hP.cell 1
    simp at p0 p1 q0 q1
    have cX := bX1.cell
    by_cases hx : z < px ps (x + 1)
    · have hd : decide (z < px ps (x + 1)) = true := by simp [hx]
      obtain ⟨⟨a1, a2⟩, _⟩ := ho.sz (k := 0)
      obtain ⟨⟨c1, c2⟩, _⟩ := ho.sz (k := x + 1)
      gi_wp2_with fail
      refine (CallsIn.inRound l (hYB _ x _ (by omega) (by omega))).mono ?_
      rintro e w3 ⟨rfl, hg3⟩
      have bR3 := bR1.kept hg3 (by simp)
      have cR := bR3.cell
      have fR := bR3.frozen
      have hB3 : Below w.heap.size w w3 := hB1.trans ((below_of_none hg3).mono hsW)
      have hk3 := KeepsOthers.of_grownBy hg3 (fun j o e => by cases e)
      gi_wp2_with fail
      exact ⟨(hk3.trans (KeepsOthers.setCell _ _ _)).from _, ⟨x, ⟨rfl, pre, rfl, hp, hx⟩, bR3.set _⟩, hB3.setCell (p := ⟨w.heap.size + 1, 0, none⟩) (by show w.heap.size ≤ w.heap.size + 1; omega) _⟩
    · have hd : decide (z < px ps (x + 1)) = false := by simp; omega
      gi_wp2_with fail
      exact ⟨KeepsFrom.refl _ _, Kp2.refl _ _ _, ⟨all_snoc hp (by omega), ⟨bR1, bX1⟩, bN1⟩, hB1⟩
  case done =>
    rintro D ys W hD rfl ⟨⟨hp, ⟨bR1, bX1⟩, bN1⟩, hB1⟩ hK
    have cR := bR1.cell
    have fR := bR1.frozen
    obtain ⟨m, hm⟩ : ∃ m, ps.length = m + 2 := ⟨ps.length - 2, by omega⟩
    have HA : Hid (AtIs ps z (py ps (m + 1))) := Lib.hid (.inr (.inl ⟨hz, by rw [hm]; exact hp m (by rw [hm]; simp), by rw [hm]; rfl⟩))
    obtain ⟨lx, ly⟩ := (hT.below hB1 hgb).2 (m + 1) (by omega)
    have hm6 : m ≤ 6 := by omega
    clear hp
    rw [hm]
    gi_wp2_with fail
    have hK' := (KeepsOthers.setCell W ⟨w.heap.size + 1, 0, none⟩ (.int .i64 (py ps (m + 1)))).same D _ hK rfl
    refine ⟨by simp, .inl ⟨_, _, rfl, run_takeDeferred hK', ?_⟩⟩
    have hc5 := cell_kept (bR1.set (.int .i64 (py ps (m + 1)))).cell (grownBy_putObj' _ D (.deferred none)) (fun r e => by cases e; exact ⟨_, hK', rfl⟩)
    refine ⟨.int .i64 (py ps (m + 1)), ?_, _, HA.out, rfl, gr_of_below ((hB1.setCell (p := ⟨w.heap.size + 1, 0, none⟩) (by show w.heap.size ≤ w.heap.size + 1; omega) _).trans (belowK_b (w := w) (Nat.le_refl _) _ D _ _ (by simp at hD; omega) hK' rfl rfl)) _⟩
    simp [results, Try.f36, go_sem, hc5]
  case stop =>
    rintro D c pre W hD ⟨j, hj, rfl⟩ ⟨⟨k, ⟨rfl, ini, e1, e2, e3⟩, bR1⟩, hB1⟩ hK
    obtain ⟨rfl, rfl⟩ := last_of e1
    have HA : Hid (AtIs ps z (mid ps k z)) := Lib.hid (.inr (.inr ⟨k, hj, hz, by
      cases k with
      | zero => omega
      | succ k => exact e2 k (by simp), e3, rfl⟩))
    clear e1 e2 e3
    gi_wp2
    refine ⟨by simp, .inl ⟨_, _, rfl, run_takeDeferred hK, ?_⟩⟩
    have hc5 := cell_kept bR1.cell (grownBy_putObj' _ D (.deferred none)) (fun r e => by cases e; exact ⟨_, hK, rfl⟩)
    refine ⟨.int .i64 (mid ps k z), ?_, _, HA.out, rfl, gr_of_below (hB1.trans (belowK_b (w := w) (Nat.le_refl _) W D _ _ (by simp at hD; omega) hK rfl rfl)) _⟩
    simp [results, Try.f36, go_sem, hc5]

theorem implAt_ok (g cap : Nat) (ps : Pts) (z : Int) (w : World) (hT : Tab w g ps) (ho : OkT ps) : Calls Try.prog 36 #[.slice (some ⟨g, 0, none⟩) ps.length cap, .int .i64 z] w (RetAt ps z w) := by
  by_cases hz : z ≤ px ps 0
  · exact implAt_first g cap ps z w hT ho hz
  · exact callsIn_wide.1 (implAt_in Fence.wide 3 rfl (Lib.hid rfl) (Nat.le_refl _) trivial trivial trivial trivial trivial g cap ps z w (fun n w h => callsIn_wide.2 (implTableOk g cap ps w h)) (fun n k w h1 h2 => callsIn_wide.2 (implYBetween ps k z w ho h1 h2)) hT ho (by omega))
end Go.Proofs.Ytgclhjfjoiiclaa.tab
