/- The program's GreatestY. -/
import Derived.Test.YtjnkmmdkpdkalaaTabImpl3
namespace Go.Proofs.Ytjnkmmdkpdkalaa.tab
open Go.ChangeShapes Go.WideShapes Go.ChangeAt Go.RowKit Go.Shelf
open Go.Proofs.Ytjnkmmdkpdkalaa.nums Go.Proofs.Ytjnkmmdkpdkalaa.mem
set_option linter.unusedVariables false
attribute [local go_sem] Oper.semAt_some

def mx (ps : Pts) (pre : List Nat) : Int := pre.foldl (fun m k => max m (py ps (k + 1))) (py ps 0)
theorem mx_snoc (ps : Pts) (pre : List Nat) (k : Nat) : mx ps (pre ++ [k]) = max (mx ps pre) (py ps (k + 1)) := by simp [mx]
theorem mx_range (ps : Pts) : ∀ n, mx ps (List.range n) = gr ps n
  | 0 => rfl
  | n + 1 => by rw [range_snoc, mx_snoc, mx_range ps n]; rfl

set_option maxHeartbeats 1000000 in
theorem implGreatest_no (g cap : Nat) (ps : Pts) (w : World) (hT : Tab w g ps) (ho : okB ps = false) :
    Calls Try.prog 11 #[.slice (some ⟨g, 0, none⟩) ps.length cap] w (Ret (.int .i64 0) w) := by
  go_enter Try.func11, Try.ntmps11
  go_wp2_with fail
  refine (implTableOk g cap ps _ hT).mono ?_
  rintro e w1 ⟨rfl, hg⟩
  go_wp2_with fail
  go_ret
  exact ⟨rfl, hg⟩

set_option maxRecDepth 100000 in
set_option maxHeartbeats 2000000 in
theorem implGreatest_in (F : Fence) (n : Nat) (hro : F.round = none) (hF : Hid (F = Fence.wide)) (hn : 3 ≤ n) (f1 : F.fn 11) (f2 : F.fn 24) (f3 : F.fn 37) (f4 : F.fn 16)
    (g cap : Nat) (ps : Pts) (w : World) (hTO : ∀ (n : Nat) (w : World), Tab w g ps → CallsIn F n Try.prog 16 #[.slice (some ⟨g, 0, none⟩) ps.length cap] w (Ret (.bool (okB ps)) w)) (hT : Tab w g ps) (ho : OkT ps) :
    CallsIn F n Try.prog 11 #[.slice (some ⟨g, 0, none⟩) ps.length cap] w (Ret (.int .i64 (gr ps (ps.length - 1))) w) := by
  have h1 : 1 ≤ n := by omega
  have hgb := hT.1
  have hb := okB_true ho
  have h2 := ho.1
  have h8 := ho.2.1
  refine callsIn_of_wp_marks Try.func11 rfl f1 ?_ hro
  simp only [Try.ntmps11, List.size_toArray, List.length_cons, List.length_nil, Nat.reduceAdd, Nat.reduceSub, Array.replicate_succ, Array.replicate_zero, List.push_toArray, List.append_toArray, List.nil_append, List.cons_append]
  gi_wp2_with fail
  refine (hTO _ _ hT).mono ?_
  rintro e w1 ⟨rfl, hg⟩
  have hT1 := hT.kept hg
  obtain ⟨_, cy⟩ := hT1.2 0 (by omega)
  simp at cy
  gi_wp2_with fail
  refine (pairs_in F _ f2 hro _ _ _ _).mono ?_
  rintro e w2 ⟨rfl, rfl⟩
  gi_wp2_with fail
  have bG := Boxed.new w1 2 (.int .i64 (py ps 0))
  have bN := Boxed.new (w1.alloc (.cells #[.int .i64 (py ps 0)] 2)) 24 (.slice (some ⟨g, 0, none⟩) ps.length cap)
  have hsz := hg.size
  have hB0 : Below w.heap.size w ((w1.alloc (.cells #[.int .i64 (py ps 0)] 2)).alloc (.cells #[.slice (some ⟨g, 0, none⟩) ps.length cap] 24)) := below_of_none (gr_alloc (gr_alloc hg _) _)
  simp only [World.size_alloc] at bN
  refine wpIn_rangeFunc_ownH hro h1 (gf := 37) (lb := #[.pointer (some ⟨w1.heap.size + 1, 0, none⟩)]) rfl f3 (enters_of Try.func37 (by kernel_rfl) rfl)
    (pairs_stops F (n - 1) f3 hro hF (by omega) (w1.heap.size + 1) g cap ps (by omega) _ (by simp) bN.cell (hT.below hB0 hgb)) Kp2.trans (kp2_b (by simp; omega) (by simp)) (Below.refl _ _) (fun _ => rfl)
    (fun pre W => (Boxed W w1.heap.size 2 (.int .i64 (mx ps pre)) ∧ Boxed W (w1.heap.size + 1) 24 (.slice (some ⟨g, 0, none⟩) ps.length cap)) ∧ Below w.heap.size w W)
    (fun _ _ _ => False)
    (OwnFrom.and (OwnFrom.and (Own.from (boxed_own _ _ _) _) (Own.from (boxed_own _ _ _) _)) (ownFrom_below (Nat.le_refl _) (by simp; omega)))
    (fun _ _ _ _ _ hs _ _ => hs)
    ⟨⟨bG.alloc _, bN⟩, hB0⟩
    (fun x a' W => ∃ Bq, w1.heap.size + 1 < Bq ∧ Has W Bq 31 #[.int .i64 (px ps (x + 1)), .int .i64 (py ps (x + 1))] ∧ a' = { tmps := #[.slice (some ⟨g, 0, none⟩) ps.length cap, undef, .int .i64 0, .pointer (some ⟨w1.heap.size, 0, none⟩), undef, .pointer (some ⟨Bq, 0, none⟩), .slice (some ⟨g, 0, none⟩) ps.length cap, .bool true, .bool false, .slice (some ⟨g, 0, none⟩) ps.length cap, .pointer (some ⟨g, 0, none⟩), .pointer (some ⟨g, 1, none⟩), .int .i64 (py ps 0), .slice (some ⟨g, 0, none⟩) ps.length cap, .func (.func 37) #[] #[.pointer (some ⟨w1.heap.size + 1, 0, none⟩)], .agg #[.int .i64 (px ps x), .int .i64 (py ps x)], .agg #[.int .i64 (px ps (x + 1)), .int .i64 (py ps (x + 1))], undef, undef, undef, undef, undef], defers := [] })
    (fun x a' _ X Y row hs hg hr => by obtain ⟨Bq, h1, h3, h4⟩ := hs; exact ⟨Bq, h1, has_own Bq 31 (fun (_ : Unit) => #[.int .i64 (px ps (x + 1)), .int .i64 (py ps (x + 1))]) () X Y row h3 hg (fun r e => (hr r e).2), h4⟩)
    ?assign ?body ?done ?stop
  case assign =>
    rintro l pre x W K ⟨⟨bG1, bN1⟩, hB1⟩ hK
    have hsW := hB1.size
    have hbn := bN1.lt
    gi_wp2
    exact hK _ _ ((KeepsOthers.alloc _ _).from _) (Kp2.grown (row := none) (World.grownBy_alloc _ _ _) (by omega) hbn (by simp) (by simp)) ⟨⟨bG1.alloc _, bN1.alloc _⟩, hB1.alloc hsW _⟩
      ⟨W.heap.size, hbn, Has.fresh W _ _, rfl⟩
  case body =>
    rintro l pre x a' W hl ⟨r, hr⟩ ⟨⟨bG1, bN1⟩, hB1⟩ ⟨Bq, hlq, hQ, rfl⟩ hlen
    have h1' : 1 ≤ n - 1 - 1 := by omega
    have hsW := hB1.size
    have hbn := bN1.lt
    have q1 := hQ.cell 1
    simp at q1
    have cG := bG1.cell
    have fG := bG1.frozen
    have e1 : g < w1.heap.size := by omega
    have HX := Lib.hid (mx_snoc ps pre x)
    gi_wp2_with fail
    all_goals
      refine ⟨(KeepsOthers.setCell _ _ _).from _, Kp2.grown (grownBy_setCell' W w1.heap.size _) (by omega) hbn (fun e => by injection e with e; omega) (fun e => by injection e with e; omega), ⟨?_, bN1.other (by omega) _⟩, hB1.setCell (p := ⟨w1.heap.size, 0, none⟩) (by show w.heap.size ≤ w1.heap.size; omega) _⟩
      have e2 : ∀ v : Int, v = max (mx ps pre) (py ps (x + 1)) → Boxed (W.setCell ⟨w1.heap.size, 0, none⟩ (.int .i64 v)) w1.heap.size 2 (.int .i64 (mx ps (pre ++ [x]))) := fun v h => by rw [HX.out, h]; exact bG1.set _
      exact e2 _ (by omega)
  case done =>
    rintro D ys W hD rfl ⟨⟨bG1, bN1⟩, hB1⟩ hK
    rw [mx_range] at bG1
    have cG := bG1.cell
    gi_wp2
    refine ⟨by simp, .inl ⟨_, _, rfl, run_takeDeferred hK, ?_⟩⟩
    exact ⟨_, results_tmp rfl _ _ _, rfl, gr_of_below (hB1.trans (belowK_b (w := w) (Nat.le_refl _) W D _ _ (by simp at hD; omega) hK rfl rfl)) _⟩
  case stop =>
    rintro D c pre W _ _ h _
    exact h.elim

theorem implGreatest_ok (g cap : Nat) (ps : Pts) (w : World) (hT : Tab w g ps) (h : OkT ps) : Calls Try.prog 11 #[.slice (some ⟨g, 0, none⟩) ps.length cap] w (Ret (.int .i64 (gr ps (ps.length - 1))) w) :=
  callsIn_wide.1 (implGreatest_in Fence.wide 3 rfl (Lib.hid rfl) (Nat.le_refl _) trivial trivial trivial trivial g cap ps w (fun n w h => callsIn_wide.2 (implTableOk g cap ps w h)) hT h)
end Go.Proofs.Ytjnkmmdkpdkalaa.tab
