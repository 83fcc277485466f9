/- The program's TableOk whole; IsRising, At and GreatestY. -/
import Derived.Test.YtjnkmmdkpdkalaaTabImpl2
namespace Go.Proofs.Ytjnkmmdkpdkalaa.tab
open Go.ChangeShapes Go.WideShapes Go.ChangeAt Go.RowKit Go.Shelf
open Go.Proofs.Ytjnkmmdkpdkalaa.nums Go.Proofs.Ytjnkmmdkpdkalaa.mem
set_option linter.unusedVariables false
attribute [local go_sem] Oper.semAt_some

theorem implTableOk (g cap : Nat) (ps : Pts) (w : World) (hT : Tab w g ps) : Calls Try.prog 16 #[.slice (some ⟨g, 0, none⟩) ps.length cap] w (Ret (.bool (okB ps)) w) := by
  by_cases h : ps.length < 2 ∨ 8 < ps.length
  · exact implTableOk_short g cap ps w h
  · by_cases hs : szB ps 0 = true
    · exact callsIn_wide.1 (implTableOk_in Fence.wide 3 rfl (Lib.hid rfl) (Nat.le_refl _) trivial trivial trivial trivial (fun n ps k w => callsIn_wide.2 (implPointOk ps k w)) g cap ps w hT (by omega) (by omega) hs)
    · exact implTableOk_first g cap ps w hT (by omega) (by omega) (by simpa using hs)

set_option maxHeartbeats 1000000 in
theorem implIsRising_no (g cap : Nat) (ps : Pts) (w : World) (hT : Tab w g ps) (ho : okB ps = false) :
    Calls Try.prog 12 #[.slice (some ⟨g, 0, none⟩) ps.length cap] w (Ret (.bool (riseB ps)) w) := by
  have hb : riseB ps = false := riseB_notOk fun h => by rw [okB_true h] at ho; cases ho
  have HB := Lib.hid hb; clear hb
  go_enter Try.func12, Try.ntmps12
  go_wp2_with fail
  refine (implTableOk g cap ps _ (hT.kept (World.grownBy_alloc _ _ _))).mono ?_
  rintro e w1 ⟨rfl, hg⟩
  have hc := (Has.fresh w 4 #[.bool false]).grown hg (by simp)
  have c0 := hc.cell 0
  have f0 := hc.frozen 0
  have c5 := (hc.put 0 (.bool false) rfl).cell 0
  simp at c0 c5
  go_wp2_with fail
  exact bodyPost_ret (v := .bool false) (by simp [results, Try.results12, go_sem, c5]) rfl ⟨by rw [HB.out], gr_new (gr_trans (World.grownBy_alloc _ _ _) hg) (Nat.le_refl _) _ _⟩

set_option maxRecDepth 100000 in
set_option maxHeartbeats 2000000 in
theorem implIsRising_in (F : Fence) (n : Nat) (hro : F.round = none) (hF : Hid (F = Fence.wide)) (hn : 3 ≤ n) (f1 : F.fn 12) (f2 : F.fn 24) (f3 : F.fn 37) (f4 : F.fn 16)
    (g cap : Nat) (ps : Pts) (w : World) (hTO : ∀ (n : Nat) (w : World), Tab w g ps → CallsIn F n Try.prog 16 #[.slice (some ⟨g, 0, none⟩) ps.length cap] w (Ret (.bool (okB ps)) w)) (hT : Tab w g ps) (ho : OkT ps) :
    CallsIn F n Try.prog 12 #[.slice (some ⟨g, 0, none⟩) ps.length cap] w (Ret (.bool (riseB ps)) w) := by
  have h1 : 1 ≤ n := by omega
  have hgb := hT.1
  have hb := okB_true ho
  have h2 := ho.1
  have h8 := ho.2.1
  refine callsIn_of_wp_marks Try.func12 rfl f1 ?_ hro
  simp only [Try.ntmps12, List.size_toArray, List.length_cons, List.length_nil, Nat.reduceAdd, Nat.reduceSub, Array.replicate_succ, Array.replicate_zero, List.push_toArray, List.append_toArray, List.nil_append, List.cons_append]
  gi_wp2_with fail
  refine (hTO _ _ (hT.kept (World.grownBy_alloc _ _ _))).mono ?_
  rintro e w1 ⟨rfl, hg⟩
  gi_wp2_with fail
  refine (pairs_in F _ f2 hro _ _ _ _).mono ?_
  rintro e w2 ⟨rfl, rfl⟩
  gi_wp2_with fail
  have bR : Boxed w1 w.heap.size 4 (.bool false) := (Boxed.new w 4 (.bool false)).kept hg (by simp)
  have bN := Boxed.new w1 24 (.slice (some ⟨g, 0, none⟩) ps.length cap)
  have hsz := hg.size
  have hg1 : w.grownBy w1 none := gr_trans (World.grownBy_alloc _ _ _) hg
  have hB0 : Below w.heap.size w (w1.alloc (.cells #[.slice (some ⟨g, 0, none⟩) ps.length cap] 24)) := below_of_none (gr_alloc hg1 _)
  simp at hsz
  refine wpIn_rangeFunc_ownH hro h1 (gf := 37) (lb := #[.pointer (some ⟨w1.heap.size, 0, none⟩)]) rfl f3 (enters_of Try.func37 (by kernel_rfl) rfl)
    (pairs_stops F (n - 1) f3 hro hF (by omega) w1.heap.size g cap ps (by omega) _ (by simp) bN.cell (hT.below hB0 hgb)) Kp2.trans (kp2_b (by simp; omega) (by simp)) (Below.refl _ _) (fun _ => rfl)
    (fun pre W => ((∀ k ∈ pre, py ps k ≤ py ps (k + 1)) ∧ Boxed W w.heap.size 4 (.bool false) ∧ Boxed W w1.heap.size 24 (.slice (some ⟨g, 0, none⟩) ps.length cap)) ∧ Below w.heap.size w W)
    (fun c pre W => ((c = .ret ∧ ∃ ini k, pre = ini ++ [k] ∧ py ps (k + 1) < py ps k) ∧ Boxed W w.heap.size 4 (.bool false)) ∧ Below w.heap.size w W)
    (OwnFrom.and (OwnFrom.and (ownFrom_pure _ _) (OwnFrom.and (Own.from (boxed_own _ _ _) _) (Own.from (boxed_own _ _ _) _))) (ownFrom_below (Nat.le_refl _) (by simp; omega)))
    (fun c => OwnFrom.and (OwnFrom.and (ownFrom_pure _ _) (Own.from (boxed_own _ _ _) _)) (ownFrom_below (Nat.le_refl _) (by simp; omega)))
    ⟨⟨by simp, bR.alloc _, bN⟩, hB0⟩
    (fun x a' W => ∃ Bp Bq, (w.heap.size < Bp ∧ w.heap.size < Bq) ∧ Has W Bp 31 #[.int .i64 (px ps x), .int .i64 (py ps x)] ∧ Has W Bq 31 #[.int .i64 (px ps (x + 1)), .int .i64 (py ps (x + 1))] ∧ a' = { tmps := #[.slice (some ⟨g, 0, none⟩) ps.length cap, undef, .pointer (some ⟨w.heap.size, 0, none⟩), .pointer (some ⟨Bp, 0, none⟩), .pointer (some ⟨Bq, 0, none⟩), .slice (some ⟨g, 0, none⟩) ps.length cap, .bool true, .bool false, .slice (some ⟨g, 0, none⟩) ps.length cap, .func (.func 37) #[] #[.pointer (some ⟨w1.heap.size, 0, none⟩)], .agg #[.int .i64 (px ps x), .int .i64 (py ps x)], .agg #[.int .i64 (px ps (x + 1)), .int .i64 (py ps (x + 1))], undef, undef, undef, undef, undef], defers := [] })
    (fun x a' _ X Y row hs hg hr => by obtain ⟨Bp, Bq, h1, h2, h3, h4⟩ := hs; exact ⟨Bp, Bq, h1, has_own Bp 31 (fun (_ : Unit) => #[.int .i64 (px ps x), .int .i64 (py ps x)]) () X Y row h2 hg (fun r e => (hr r e).2), has_own Bq 31 (fun (_ : Unit) => #[.int .i64 (px ps (x + 1)), .int .i64 (py ps (x + 1))]) () X Y row h3 hg (fun r e => (hr r e).2), h4⟩)
    ?assign ?body ?done ?stop
  case assign =>
    rintro l pre x W K ⟨⟨hp, bR1, bN1⟩, hB1⟩ hK
    have hsW := hB1.size
    have hbn := bN1.lt
    gi_wp2
    refine hK _ _ (((KeepsOthers.alloc _ _).trans (KeepsOthers.alloc _ _)).from _) (Kp2.grown (row := none) (gr_alloc (World.grownBy_alloc _ _ _) _) (by omega) hbn (by simp) (by simp)) ⟨⟨hp, (bR1.alloc _).alloc _, (bN1.alloc _).alloc _⟩, (hB1.alloc hsW _).alloc (by simp; omega) _⟩
      ⟨W.heap.size, W.heap.size + 1, ⟨bR1.lt, by have := bR1.lt; omega⟩, (Has.fresh W _ _).alloc _, ?_, rfl⟩
    have := Has.fresh (W.alloc (Obj.cells #[Value.int IntKind.i64 (px ps x), Value.int IntKind.i64 (py ps x)] 31)) 31 #[Value.int IntKind.i64 (px ps (x + 1)), Value.int IntKind.i64 (py ps (x + 1))]
    simpa using this
  case body =>
    rintro l pre x a' W hl ⟨r, hr⟩ ⟨⟨hp, bR1, bN1⟩, hB1⟩ ⟨Bp, Bq, ⟨hlp, hlq⟩, hP, hQ, rfl⟩ hlen
    have h1' : 1 ≤ n - 1 - 1 := by omega
    have hsW := hB1.size
    have hbn := bN1.lt
    have q1 := hQ.cell 1; have p1 := hP.cell 1
    simp at p1 q1
    have cR := bR1.cell
    have fR := bR1.frozen
    by_cases hx : py ps (x + 1) < py ps x
    · have hd : decide (py ps (x + 1) < py ps x) = true := by simp [hx]
      gi_wp2_with fail
      exact ⟨(KeepsOthers.setCell _ _ _).from _, ⟨⟨rfl, pre, x, rfl, hx⟩, bR1.set _⟩, hB1.setCell (p := ⟨w.heap.size, 0, none⟩) (Nat.le_refl _) _⟩
    · have hd : decide (py ps (x + 1) < py ps x) = false := by simp; omega
      gi_wp2_with fail
      exact ⟨KeepsFrom.refl _ _, Kp2.refl _ _ _, ⟨all_snoc hp (by omega), bR1, bN1⟩, hB1⟩
  case done =>
    rintro D ys W hD rfl ⟨⟨hp, bR1, bN1⟩, hB1⟩ hK
    have cR := bR1.cell
    have fR := bR1.frozen
    have HO := Lib.hid (riseB_true ho (fun k hk => hp k (by simp; omega)))
    clear hp
    gi_wp2
    have hK' := (KeepsOthers.setCell W ⟨w.heap.size, 0, none⟩ (.bool true)).same D _ hK rfl
    refine ⟨by simp, .inl ⟨_, _, rfl, run_takeDeferred hK', ?_⟩⟩
    have hc5 := cell_kept (bR1.set (.bool true)).cell (grownBy_putObj' _ D (.deferred none)) (fun r e => by cases e; exact ⟨_, hK', rfl⟩)
    refine ⟨.bool true, ?_, by rw [HO.out], gr_of_below ((hB1.setCell (p := ⟨w.heap.size, 0, none⟩) (Nat.le_refl _) _).trans (belowK_b (w := w) (Nat.le_refl _) _ D _ _ (by simp at hD; omega) hK' rfl rfl)) _⟩
    simp [results, Try.f12, go_sem, hc5]
  case stop =>
    rintro D c pre W hD ⟨j, hj, rfl⟩ ⟨⟨⟨rfl, ini, k, e1, e2⟩, bR1⟩, hB1⟩ hK
    obtain ⟨rfl, _⟩ := last_of e1
    have HO := Lib.hid (riseB_false hj e2)
    clear e1 e2
    gi_wp2
    refine ⟨by simp, .inl ⟨_, _, rfl, run_takeDeferred hK, ?_⟩⟩
    have hc5 := cell_kept bR1.cell (grownBy_putObj' _ D (.deferred none)) (fun r e => by cases e; exact ⟨_, hK, rfl⟩)
    refine ⟨.bool false, ?_, by rw [HO.out], gr_of_below (hB1.trans (belowK_b (w := w) (Nat.le_refl _) W D _ _ (by simp at hD; omega) hK rfl rfl)) _⟩
    simp [results, Try.f12, go_sem, hc5]

theorem implIsRising (g cap : Nat) (ps : Pts) (w : World) (hT : Tab w g ps) : Calls Try.prog 12 #[.slice (some ⟨g, 0, none⟩) ps.length cap] w (Ret (.bool (riseB ps)) w) := by
  by_cases h : OkT ps
  · exact callsIn_wide.1 (implIsRising_in Fence.wide 3 rfl (Lib.hid rfl) (Nat.le_refl _) trivial trivial trivial trivial g cap ps w (fun n w h => callsIn_wide.2 (implTableOk g cap ps w h)) hT h)
  · exact implIsRising_no g cap ps w hT (okB_false h)
end Go.Proofs.Ytjnkmmdkpdkalaa.tab
