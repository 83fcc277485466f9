/- Chapter 14: the law FnExactGated, walked. -/
import Derived.Test.YtkmbfacgigpkmaaGt3
import Derived.Test.YtkmbfacgigpkmaaGtArg
import Derived.Deep.DeepCutAuto
import Derived.Deep.RegionHeld3
namespace Go.Proofs.Ytkmbfacgigpkmaa.gt
open Go.ChangeShapes Go.WideShapes Go.ChangeAt Go.RowKit
open Go.Proofs.Ytkmbfacgigpkmaa.nums Go.Proofs.Ytkmbfacgigpkmaa.mem
open Go.Proofs.Ytkmbfacgigpkmaa.tab (Ret quiet_w)
open Go.Proofs.Ytkmbfacgigpkmaa.md (Fx cs8 fac eight)
set_option linter.unusedVariables false

/-- A gate and facts in their boxes. -/
def Bx (w : World) (p q : Nat) (s t : TypeId) (g : G) (f : Fx) : Prop := Has w p s (cs2 g) ∧ Has w q t (cs8 f)
theorem Bx.kept {w w' : World} {p q : Nat} {s t : TypeId} {g : G} {f : Fx} (k : Bx w p q s t g f) (hg : w.grownBy w' none) : Bx w' p q s t g f := ⟨k.1.grown hg (by simp), k.2.grown hg (by simp)⟩
theorem Bx.cells {w : World} {p q : Nat} {s t : TypeId} {g : G} {f : Fx} (k : Bx w p q s t g f) : (w.cell? ⟨p, 0, none⟩ = some (.int .i64 g.1) ∧ w.cell? ⟨p, 1, none⟩ = some (.bool g.2)) ∧ w.cell? ⟨q, 0, none⟩ = some (.int .i64 f.sp) ∧ w.cell? ⟨q, 1, none⟩ = some (.bool f.so) ∧ w.cell? ⟨q, 2, none⟩ = some (.int .i64 f.h) ∧ w.cell? ⟨q, 3, none⟩ = some (.bool f.ho) ∧ w.cell? ⟨q, 4, none⟩ = some (.int .i64 f.c) ∧ w.cell? ⟨q, 5, none⟩ = some (.bool f.ar) ∧ w.cell? ⟨q, 6, none⟩ = some (.int .i64 f.wn) ∧ w.cell? ⟨q, 7, none⟩ = some (.int .i64 f.tm) :=
  ⟨⟨k.1.cell 0, k.1.cell 1⟩, k.2.cell 0, k.2.cell 1, k.2.cell 2, k.2.cell 3, k.2.cell 4, k.2.cell 5, k.2.cell 6, k.2.cell 7⟩
theorem gr_drew {a w : World} {row : Option Nat} (h : a.grownBy w row) : a.grownBy w.drew row := gr_drewN h 1
set_option maxHeartbeats 1000000 in
theorem walkGated (g : G) (ch st : Bool) (f : Fx) (w : World) : Calls Try.prog 5 #[gv g, .bool ch, .bool st, fac f] w fun e w' => e = .returned (.bool true) ∧ Below w.heap.size w w' := by
  have cS := specGated g ch st f
  have cI := implGated g ch st f
  generalize gated g ch st f = T at *
  have B0 : Bx ((w.alloc (Obj.cells (cs2 g) 34)).alloc (Obj.cells (cs8 f) 37)) w.heap.size (w.heap.size + 1) 34 37 g f :=
    ⟨(Has.fresh w 34 (cs2 g)).alloc _, by simpa using Has.fresh (w.alloc (Obj.cells (cs2 g) 34)) 37 (cs8 f)⟩
  have g0 : w.grownBy ((w.alloc (Obj.cells (cs2 g) 34)).alloc (Obj.cells (cs8 f) 37)) none := gr_alloc (World.grownBy_alloc _ _ _) _
  obtain ⟨⟨c0, c1⟩, d0, d1, d2, d3, d4, d5, d6, d7⟩ := B0.cells
  go_enter Try.func5, Try.ntmps5
  go_upto_region 1 with fail
  generalize ((w.alloc (Obj.cells (cs2 g) 34)).alloc (Obj.cells (cs8 f) 37)) = wb at *
  go_cut [9] (fun p wx => ∃ b, p = .pointer (some ⟨b, 0, none⟩) ∧ wb.grownBy wx none ∧ Has wx b 25 #[.int .i64 T.1, .bool T.2])
  case first =>
    have E0 : wb.grownBy wb.drew none := gr_drewN (gr_refl _ _) 1
    go_region_held3 (fun W => (W.cell? ⟨w.heap.size, 0, none⟩ = some (.int .i64 g.1) ∧ W.cell? ⟨w.heap.size, 1, none⟩ = some (.bool g.2)) ∧ W.cell? ⟨w.heap.size + 1, 0, none⟩ = some (.int .i64 f.sp) ∧ W.cell? ⟨w.heap.size + 1, 1, none⟩ = some (.bool f.so) ∧ W.cell? ⟨w.heap.size + 1, 2, none⟩ = some (.int .i64 f.h) ∧ W.cell? ⟨w.heap.size + 1, 3, none⟩ = some (.bool f.ho) ∧ W.cell? ⟨w.heap.size + 1, 4, none⟩ = some (.int .i64 f.c) ∧ W.cell? ⟨w.heap.size + 1, 5, none⟩ = some (.bool f.ar) ∧ W.cell? ⟨w.heap.size + 1, 6, none⟩ = some (.int .i64 f.wn) ∧ W.cell? ⟨w.heap.size + 1, 7, none⟩ = some (.int .i64 f.tm))
      (first | with_reducible exact (B0.kept E3).cells | with_reducible exact (B0.kept (gr_alloc E3 _)).cells | with_reducible exact (B0.kept E2).cells | with_reducible exact (B0.kept (gr_alloc E2 _)).cells | with_reducible exact (B0.kept E1).cells | with_reducible exact (B0.kept (gr_alloc E1 _)).cells | with_reducible exact (B0.kept E0).cells | with_reducible exact (B0.kept (gr_alloc E0 _)).cells | with_reducible exact (B0.kept (gr_trans E0 (gr_new (gr_new C3 (Nat.le_refl _) 0 (.int .i64 T.1)) (Nat.le_refl _) 1 (.bool T.2)))).cells | with_reducible exact (B0.kept (gr_trans E1 (gr_new (gr_new C3 (Nat.le_refl _) 0 (.int .i64 T.1)) (Nat.le_refl _) 1 (.bool T.2)))).cells | with_reducible exact (B0.kept (gr_trans E2 (gr_new (gr_new C3 (Nat.le_refl _) 0 (.int .i64 T.1)) (Nat.le_refl _) 1 (.bool T.2)))).cells | with_reducible exact (B0.kept (gr_new (gr_new C3 (Nat.le_refl _) 0 (.int .i64 T.1)) (Nat.le_refl _) 1 (.bool T.2))).cells | with_reducible exact (B0.kept (gr_drew (World.grownBy_alloc _ _ none))).cells | fail)
      (first | (go_at_call 14; refine (toGate g _).mono ?_; rintro e v1 ⟨rfl, hg1⟩; (first | (have E1 : wb.grownBy v1 none := (by with_reducible exact gr_trans E0 hg1); (try have Z1 := Z0.grown hg1 (by simp)); (try have C1 := gr_trans C0 hg1)) | (have C1 := gr_trans (World.grownBy_alloc _ _ none) hg1; have E1 := gr_trans E0 C1; have Z1 := (Has.fresh _ _ _).grown hg1 (by simp)) | (have C1 := gr_trans (gr_drew (World.grownBy_alloc wb (Obj.cells #[.int .i64 0, .bool false] 25) none)) hg1; have E1 := C1; have Z1 := (show Has (wb.alloc (Obj.cells #[.int .i64 0, .bool false] 25)).drew wb.heap.size 25 #[.int .i64 0, .bool false] from Has.fresh _ _ _).grown hg1 (by simp)))) | (go_at_call 15; refine (md.toFacts f _).mono ?_; rintro e v2 ⟨rfl, hg2⟩; (first | (have E2 : wb.grownBy v2 none := (by with_reducible exact gr_trans E1 hg2); (try have Z2 := Z1.grown hg2 (by simp)); (try have C2 := gr_trans C1 hg2)) | (have C2 := gr_trans (World.grownBy_alloc _ _ none) hg2; have E2 := gr_trans E1 C2; have Z2 := (Has.fresh _ _ _).grown hg2 (by simp)))) | (go_at_call 9; refine (cS _).mono ?_; rintro e v3 ⟨rfl, hg3⟩; (first | (have E3 : wb.grownBy v3 none := (by with_reducible exact gr_trans E2 hg3); (try have Z3 := Z2.grown hg3 (by simp)); (try have C3 := gr_trans C2 hg3)) | (have C3 := gr_trans (World.grownBy_alloc _ _ none) hg3; have E3 := gr_trans E2 C3; have Z3 := (Has.fresh _ _ _).grown hg3 (by simp))); (try (have Zq := two Z3; obtain ⟨zc0, zc1, zf0, zf1⟩ := Zq))) | fail)
    all_goals go_wp2_with fail
    all_goals go_meet
    all_goals first | with_reducible exact ⟨_, rfl, gr_alloc E3 _, Has.fresh v3 25 #[.int .i64 T.1, .bool T.2]⟩ | with_reducible exact ⟨_, rfl, gr_trans E0 (gr_new (gr_new C3 (Nat.le_refl _) 0 (.int .i64 T.1)) (Nat.le_refl _) 1 (.bool T.2)), set2 Z3 _ _⟩ | with_reducible exact ⟨_, rfl, gr_trans E1 (gr_new (gr_new C3 (Nat.le_refl _) 0 (.int .i64 T.1)) (Nat.le_refl _) 1 (.bool T.2)), set2 Z3 _ _⟩ | with_reducible exact ⟨_, rfl, gr_trans E2 (gr_new (gr_new C3 (Nat.le_refl _) 0 (.int .i64 T.1)) (Nat.le_refl _) 1 (.bool T.2)), set2 Z3 _ _⟩ | with_reducible exact ⟨_, rfl, gr_new (gr_new C3 (Nat.le_refl _) 0 (.int .i64 T.1)) (Nat.le_refl _) 1 (.bool T.2), set2 Z3 _ _⟩ | fail
  case rest =>
    obtain ⟨b, rfl, gx, k1⟩ := hcut
    replace B0 := B0.kept gx
    replace g0 := gr_trans g0 gx
    clear c0 c1 d0 d1 d2 d3 d4 d5 d6 d7 gx
    obtain ⟨⟨c0, c1⟩, d0, d1, d2, d3, d4, d5, d6, d7⟩ := B0.cells
    go_upto_region 2 with fail
    go_cut [10] (fun p wx => ∃ b, p = .pointer (some ⟨b, 0, none⟩) ∧ wc.grownBy wx none ∧ Has wx b 25 #[.int .i64 T.1, .bool T.2])
    case first =>
      have E0 : wc.grownBy wc.drew none := gr_drewN (gr_refl _ _) 1
      go_region_held3 (fun W => (W.cell? ⟨w.heap.size, 0, none⟩ = some (.int .i64 g.1) ∧ W.cell? ⟨w.heap.size, 1, none⟩ = some (.bool g.2)) ∧ W.cell? ⟨w.heap.size + 1, 0, none⟩ = some (.int .i64 f.sp) ∧ W.cell? ⟨w.heap.size + 1, 1, none⟩ = some (.bool f.so) ∧ W.cell? ⟨w.heap.size + 1, 2, none⟩ = some (.int .i64 f.h) ∧ W.cell? ⟨w.heap.size + 1, 3, none⟩ = some (.bool f.ho) ∧ W.cell? ⟨w.heap.size + 1, 4, none⟩ = some (.int .i64 f.c) ∧ W.cell? ⟨w.heap.size + 1, 5, none⟩ = some (.bool f.ar) ∧ W.cell? ⟨w.heap.size + 1, 6, none⟩ = some (.int .i64 f.wn) ∧ W.cell? ⟨w.heap.size + 1, 7, none⟩ = some (.int .i64 f.tm))
        (first | with_reducible exact (B0.kept E3).cells | with_reducible exact (B0.kept (gr_alloc E3 _)).cells | with_reducible exact (B0.kept E2).cells | with_reducible exact (B0.kept (gr_alloc E2 _)).cells | with_reducible exact (B0.kept E1).cells | with_reducible exact (B0.kept (gr_alloc E1 _)).cells | with_reducible exact (B0.kept E0).cells | with_reducible exact (B0.kept (gr_alloc E0 _)).cells | with_reducible exact (B0.kept (gr_trans E0 (gr_new (gr_new C3 (Nat.le_refl _) 0 (.int .i64 T.1)) (Nat.le_refl _) 1 (.bool T.2)))).cells | with_reducible exact (B0.kept (gr_trans E1 (gr_new (gr_new C3 (Nat.le_refl _) 0 (.int .i64 T.1)) (Nat.le_refl _) 1 (.bool T.2)))).cells | with_reducible exact (B0.kept (gr_trans E2 (gr_new (gr_new C3 (Nat.le_refl _) 0 (.int .i64 T.1)) (Nat.le_refl _) 1 (.bool T.2)))).cells | with_reducible exact (B0.kept (gr_new (gr_new C3 (Nat.le_refl _) 0 (.int .i64 T.1)) (Nat.le_refl _) 1 (.bool T.2))).cells | with_reducible exact (B0.kept (gr_drew (World.grownBy_alloc _ _ none))).cells | fail)
        (first | (go_at_call 14; refine (toGate g _).mono ?_; rintro e v1 ⟨rfl, hg1⟩; (first | (have E1 : wc.grownBy v1 none := (by with_reducible exact gr_trans E0 hg1); (try have Z1 := Z0.grown hg1 (by simp)); (try have C1 := gr_trans C0 hg1)) | (have C1 := gr_trans (World.grownBy_alloc _ _ none) hg1; have E1 := gr_trans E0 C1; have Z1 := (Has.fresh _ _ _).grown hg1 (by simp)) | (have C1 := gr_trans (gr_drew (World.grownBy_alloc wc (Obj.cells #[.int .i64 0, .bool false] 25) none)) hg1; have E1 := C1; have Z1 := (show Has (wc.alloc (Obj.cells #[.int .i64 0, .bool false] 25)).drew wc.heap.size 25 #[.int .i64 0, .bool false] from Has.fresh _ _ _).grown hg1 (by simp)))) | (go_at_call 15; refine (md.toFacts f _).mono ?_; rintro e v2 ⟨rfl, hg2⟩; (first | (have E2 : wc.grownBy v2 none := (by with_reducible exact gr_trans E1 hg2); (try have Z2 := Z1.grown hg2 (by simp)); (try have C2 := gr_trans C1 hg2)) | (have C2 := gr_trans (World.grownBy_alloc _ _ none) hg2; have E2 := gr_trans E1 C2; have Z2 := (Has.fresh _ _ _).grown hg2 (by simp)))) | (go_at_call 8; refine (cI _).mono ?_; rintro e v3 ⟨rfl, hg3⟩; (first | (have E3 : wc.grownBy v3 none := (by with_reducible exact gr_trans E2 hg3); (try have Z3 := Z2.grown hg3 (by simp)); (try have C3 := gr_trans C2 hg3)) | (have C3 := gr_trans (World.grownBy_alloc _ _ none) hg3; have E3 := gr_trans E2 C3; have Z3 := (Has.fresh _ _ _).grown hg3 (by simp))); (try (have Zq := two Z3; obtain ⟨zc0, zc1, zf0, zf1⟩ := Zq))) | fail)
      all_goals go_wp2_with fail
      all_goals go_meet
      all_goals first | with_reducible exact ⟨_, rfl, gr_alloc E3 _, Has.fresh v3 25 #[.int .i64 T.1, .bool T.2]⟩ | with_reducible exact ⟨_, rfl, gr_trans E0 (gr_new (gr_new C3 (Nat.le_refl _) 0 (.int .i64 T.1)) (Nat.le_refl _) 1 (.bool T.2)), set2 Z3 _ _⟩ | with_reducible exact ⟨_, rfl, gr_trans E1 (gr_new (gr_new C3 (Nat.le_refl _) 0 (.int .i64 T.1)) (Nat.le_refl _) 1 (.bool T.2)), set2 Z3 _ _⟩ | with_reducible exact ⟨_, rfl, gr_trans E2 (gr_new (gr_new C3 (Nat.le_refl _) 0 (.int .i64 T.1)) (Nat.le_refl _) 1 (.bool T.2)), set2 Z3 _ _⟩ | with_reducible exact ⟨_, rfl, gr_new (gr_new C3 (Nat.le_refl _) 0 (.int .i64 T.1)) (Nat.le_refl _) 1 (.bool T.2), set2 Z3 _ _⟩ | fail
    case rest =>
      obtain ⟨b', rfl, gx, k2⟩ := hcut
      replace g0 := gr_trans g0 gx
      replace k1 := k1.grown gx (by simp)
      clear c0 c1 d0 d1 d2 d3 d4 d5 d6 d7 gx B0
      obtain ⟨c0, c1, _, _⟩ := two k1
      obtain ⟨d0, d1, _, _⟩ := two k2
      go_wp2_with fail
      refine (eqGate _ _).mono ?_
      rintro e w7 ⟨rfl, hg⟩
      go_wp2_with fail
      go_ret
      exact ⟨rfl, below_of_none (gr_trans g0 hg)⟩
end Go.Proofs.Ytkmbfacgigpkmaa.gt
