/- The program's TableOk, where it goes through the points. -/
import Derived.Test.YtgclhjfjoiiclaaTabImpl
namespace Go.Proofs.Ytgclhjfjoiiclaa.tab
open Go.ChangeShapes Go.WideShapes Go.ChangeAt Go.RowKit Go.Shelf
open Go.Proofs.Ytgclhjfjoiiclaa.nums Go.Proofs.Ytgclhjfjoiiclaa.mem
set_option linter.unusedVariables false
attribute [local go_sem] Oper.semAt_some

theorem okT_of {ps : Pts} (h2 : 2 ≤ ps.length) (h8 : ps.length ≤ 8) (hs : szB ps 0 = true) (h : ∀ k ∈ List.range (ps.length - 1), szB ps (k + 1) = true ∧ px ps k < px ps (k + 1)) : OkT ps := by
  refine ⟨h2, h8, fun k hk => ?_, fun k hk => (h k (by simp; omega)).2⟩
  cases k with
  | zero => exact hs
  | succ k => exact (h k (by simp; omega)).1
theorem last_of {ini : List Nat} {k j : Nat} (h : List.range (j + 1) = ini ++ [k]) : k = j ∧ ini = List.range j := by
  rw [List.range_succ] at h
  obtain ⟨e1, e2⟩ := List.append_inj' h rfl
  exact ⟨by simpa using e2.symm, e1.symm⟩
theorem all_snoc {p : Nat → Prop} {pre : List Nat} {x : Nat} (h : ∀ k ∈ pre, p k) (hx : p x) : ∀ k ∈ pre ++ [x], p k := fun k hk =>
  (List.mem_append.1 hk).elim (h k) (fun e => by simp at e; subst e; exact hx)

set_option maxRecDepth 100000 in
set_option maxHeartbeats 2000000 in
theorem implTableOk_in (F : Fence) (n : Nat) (hro : F.round = none) (hF : Hid (F = Fence.wide)) (hn : 3 ≤ n) (f1 : F.fn 57) (f2 : F.fn 58) (f3 : F.fn 66) (f4 : F.fn 65)
    (hPO : ∀ (n : Nat) (ps : Pts) (k : Nat) (w : World), CallsIn F n Try.prog 65 #[ptv ps k] w (Ret (.bool (szB ps k)) w))
    (g cap : Nat) (ps : Pts) (w : World) (hT : Tab w g ps) (h2 : 2 ≤ ps.length) (h8 : ps.length ≤ 8) (hs : szB ps 0 = true) :
    CallsIn F n Try.prog 57 #[.slice (some ⟨g, 0, none⟩) ps.length cap] w (Ret (.bool (okB ps)) w) := by
  have h1 : 1 ≤ n := by omega
  obtain ⟨cx, cy⟩ := hT.2 0 (by omega)
  have hgb := hT.1
  simp at cx cy
  have hd1 : decide ((ps.length : Int) < 2) = false := by simp; omega
  have hd2 : decide (8 < (ps.length : Int)) = false := by simp; omega
  refine callsIn_of_wp_marks Try.func57 rfl f1 ?_ hro
  simp only [Try.ntmps57, List.size_toArray, List.length_cons, List.length_nil, Nat.reduceAdd, Nat.reduceSub, Array.replicate_succ, Array.replicate_zero, List.push_toArray, List.append_toArray, List.nil_append, List.cons_append]
  gi_wp2_with fail
  refine (hPO _ ps 0 _).mono ?_
  rintro e w1 ⟨rfl, hg⟩
  gi_wp2_with fail
  refine (pairs_in F _ f2 hro _ _ _ _).mono ?_
  rintro e w2 ⟨rfl, rfl⟩
  gi_wp2_with fail
  have bR : Boxed w1 w.heap.size 4 (.bool false) := (Boxed.new w 4 (.bool false)).kept hg (by simp)
  have bN := Boxed.new w1 56 (.slice (some ⟨g, 0, none⟩) ps.length cap)
  have hsz := hg.size
  have hg1 : w.grownBy w1 none := gr_trans (World.grownBy_alloc _ _ _) hg
  have hB0 : Below w.heap.size w (w1.alloc (.cells #[.slice (some ⟨g, 0, none⟩) ps.length cap] 56)) := below_of_none (gr_alloc hg1 _)
  simp at hsz
  refine wpIn_rangeFunc_ownH hro h1 (gf := 66) (lb := #[.pointer (some ⟨w1.heap.size, 0, none⟩)]) rfl f3 (enters_of Try.func66 (by kernel_rfl) rfl)
    (pairs_stops F (n - 1) f3 hro hF (by omega) w1.heap.size g cap ps (by omega) _ (by simp) bN.cell (hT.below hB0 hgb)) Kp2.trans (kp2_b (by simp; omega) (by simp)) (Below.refl _ _) (fun _ => rfl)
    (fun pre W => ((∀ k ∈ pre, szB ps (k + 1) = true ∧ px ps k < px ps (k + 1)) ∧ Boxed W w.heap.size 4 (.bool false) ∧ Boxed W w1.heap.size 56 (.slice (some ⟨g, 0, none⟩) ps.length cap)) ∧ Below w.heap.size w W)
    (fun c pre W => ((c = .ret ∧ ∃ ini k, pre = ini ++ [k] ∧ (szB ps (k + 1) = true → px ps (k + 1) ≤ px ps k)) ∧ Boxed W w.heap.size 4 (.bool false)) ∧ Below w.heap.size w W)
    (OwnFrom.and (OwnFrom.and (ownFrom_pure _ _) (OwnFrom.and (Own.from (boxed_own _ _ _) _) (Own.from (boxed_own _ _ _) _))) (ownFrom_below (Nat.le_refl _) (by simp; omega)))
    (fun c => OwnFrom.and (OwnFrom.and (ownFrom_pure _ _) (Own.from (boxed_own _ _ _) _)) (ownFrom_below (Nat.le_refl _) (by simp; omega)))
    ⟨⟨by simp, bR.alloc _, bN⟩, hB0⟩
    (fun x a' W => ∃ Bp Bq, (w.heap.size < Bp ∧ w.heap.size < Bq) ∧ Has W Bp 55 #[.int .i64 (px ps x), .int .i64 (py ps x)] ∧ Has W Bq 55 #[.int .i64 (px ps (x + 1)), .int .i64 (py ps (x + 1))] ∧ a' = { tmps := #[.slice (some ⟨g, 0, none⟩) ps.length cap, undef, .pointer (some ⟨w.heap.size, 0, none⟩), .pointer (some ⟨Bp, 0, none⟩), .pointer (some ⟨Bq, 0, none⟩), .slice (some ⟨g, 0, none⟩) ps.length cap, .int .i64 (ps.length : Int), .bool false, .bool false, .slice (some ⟨g, 0, none⟩) ps.length cap, .int .i64 (ps.length : Int), .bool false, .bool false, .bool false, .slice (some ⟨g, 0, none⟩) ps.length cap, .pointer (some ⟨g, 0, none⟩), .agg #[.int .i64 (px ps 0), .int .i64 (py ps 0)], .bool true, .bool false, .bool false, .slice (some ⟨g, 0, none⟩) ps.length cap, .func (.func 66) #[] #[.pointer (some ⟨w1.heap.size, 0, none⟩)], .agg #[.int .i64 (px ps x), .int .i64 (py ps x)], .agg #[.int .i64 (px ps (x + 1)), .int .i64 (py ps (x + 1))], undef, undef, undef, undef, undef, undef, undef, undef, undef, undef], defers := [] })
    (fun x a' _ X Y row hs hg hr => by obtain ⟨Bp, Bq, h1, h2, h3, h4⟩ := hs; exact ⟨Bp, Bq, h1, has_own Bp 55 (fun (_ : Unit) => #[.int .i64 (px ps x), .int .i64 (py ps x)]) () X Y row h2 hg (fun r e => (hr r e).2), has_own Bq 55 (fun (_ : Unit) => #[.int .i64 (px ps (x + 1)), .int .i64 (py ps (x + 1))]) () X Y row h3 hg (fun r e => (hr r e).2), h4⟩)
    ?assign ?body ?done ?stop
  case assign =>
    rintro l pre x W K ⟨⟨hp, bR1, bN1⟩, hB1⟩ hK
    have hsW := hB1.size
    have hbn := bN1.lt
    gi_wp2
    refine hK _ _ (((KeepsOthers.alloc _ _).trans (KeepsOthers.alloc _ _)).from _) (Kp2.grown (row := none) (gr_alloc (World.grownBy_alloc _ _ _) _) (by omega) hbn (by simp) (by simp)) ⟨⟨hp, (bR1.alloc _).alloc _, (bN1.alloc _).alloc _⟩, (hB1.alloc hsW _).alloc (by simp; omega) _⟩
      ⟨W.heap.size, W.heap.size + 1, ⟨bR1.lt, by have := bR1.lt; omega⟩, (Has.fresh W _ _).alloc _, ?_, rfl⟩
    have := Has.fresh (W.alloc (Obj.cells #[Value.int IntKind.i64 (px ps x), Value.int IntKind.i64 (py ps x)] 55)) 55 #[Value.int IntKind.i64 (px ps (x + 1)), Value.int IntKind.i64 (py ps (x + 1))]
    simpa using this
  case body =>
    rintro l pre x a' W hl ⟨r, hr⟩ ⟨⟨hp, bR1, bN1⟩, hB1⟩ ⟨Bp, Bq, ⟨hlp, hlq⟩, hP, hQ, rfl⟩ hlen
    have h1' : 1 ≤ n - 1 - 1 := by omega
    have hsW := hB1.size
    have hbn := bN1.lt
    have q0 := hQ.cell 0; have q1 := hQ.cell 1
    simp at q0 q1
    gi_wp2_with fail
    refine (CallsIn.inRound l (hPO _ ps (x + 1) _)).mono ?_
    rintro e w3 ⟨rfl, hg3⟩
    have hP3 := hP.grown hg3 (by simp)
    have hQ3 := hQ.grown hg3 (by simp)
    have bR3 := bR1.kept hg3 (by simp)
    have bN3 := bN1.kept hg3 (by simp)
    have cR := bR3.cell
    have fR := bR3.frozen
    have p0 := hP3.cell 0; have r0 := hQ3.cell 0
    simp at p0 r0
    have hB3 : Below w.heap.size w w3 := hB1.trans ((below_of_none hg3).mono hsW)
    have hk3 := KeepsOthers.of_grownBy hg3 (fun j o e => by cases e)
    clear q0 q1
    by_cases hz : szB ps (x + 1) = true
    · by_cases hx : px ps (x + 1) ≤ px ps x
      · have hd : decide (px ps (x + 1) ≤ px ps x) = true := by simp [hx]
        gi_wp2_with fail
        exact ⟨(hk3.trans (KeepsOthers.setCell _ _ _)).from _, ⟨⟨rfl, pre, x, rfl, fun _ => hx⟩, bR3.set _⟩, hB3.setCell (p := ⟨w.heap.size, 0, none⟩) (Nat.le_refl _) _⟩
      · have hd : decide (px ps (x + 1) ≤ px ps x) = false := by simp; omega
        gi_wp2_with fail
        exact ⟨hk3.from _, Kp2.grown hg3 (by omega) hbn (by simp) (by simp), ⟨all_snoc hp ⟨hz, by omega⟩, bR3, bN3⟩, hB3⟩
    · have hz' : szB ps (x + 1) = false := by simpa using hz
      clear hz
      gi_wp2_with fail
      exact ⟨(hk3.trans (KeepsOthers.setCell _ _ _)).from _, ⟨⟨rfl, pre, x, rfl, fun h => by rw [hz'] at h; cases h⟩, bR3.set _⟩, hB3.setCell (p := ⟨w.heap.size, 0, none⟩) (Nat.le_refl _) _⟩
  case done =>
    rintro D ys W hD rfl ⟨⟨hp, bR1, bN1⟩, hB1⟩ hK
    have cR := bR1.cell
    have fR := bR1.frozen
    have HO := Lib.hid (okB_true (okT_of h2 h8 hs hp))
    clear hp
    gi_wp2
    have hK' := (KeepsOthers.setCell W ⟨w.heap.size, 0, none⟩ (.bool true)).same D _ hK rfl
    refine ⟨by simp, .inl ⟨_, _, rfl, run_takeDeferred hK', ?_⟩⟩
    have hc5 := cell_kept (bR1.set (.bool true)).cell (grownBy_putObj' _ D (.deferred none)) (fun r e => by cases e; exact ⟨_, hK', rfl⟩)
    refine ⟨.bool true, ?_, by rw [HO.out], gr_of_below ((hB1.setCell (p := ⟨w.heap.size, 0, none⟩) (Nat.le_refl _) _).trans (belowK_b (w := w) (Nat.le_refl _) _ D _ _ (by simp at hD; omega) hK' rfl rfl)) _⟩
    simp [results, Try.f57, go_sem, hc5]
  case stop =>
    rintro D c pre W hD ⟨j, hj, rfl⟩ ⟨⟨⟨rfl, ini, k, e1, e2⟩, bR1⟩, hB1⟩ hK
    obtain ⟨rfl, _⟩ := last_of e1
    have HO : Hid (okB ps = false) := Lib.hid (by
      by_cases hz : szB ps (k + 1) = true
      · exact okB_fall hj (e2 hz)
      · exact okB_bad hj (by simpa using hz))
    clear e1 e2
    gi_wp2
    refine ⟨by simp, .inl ⟨_, _, rfl, run_takeDeferred hK, ?_⟩⟩
    have hc5 := cell_kept bR1.cell (grownBy_putObj' _ D (.deferred none)) (fun r e => by cases e; exact ⟨_, hK, rfl⟩)
    refine ⟨.bool false, ?_, by rw [HO.out], gr_of_below (hB1.trans (belowK_b (w := w) (Nat.le_refl _) W D _ _ (by simp at hD; omega) hK rfl rfl)) _⟩
    simp [results, Try.f57, go_sem, hc5]
end Go.Proofs.Ytgclhjfjoiiclaa.tab
