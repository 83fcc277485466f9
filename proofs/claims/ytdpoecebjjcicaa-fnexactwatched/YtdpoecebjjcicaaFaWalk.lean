/- Chapter 9: the law FnExactWatched, walked. -/
import Derived.Test.YtdpoecebjjcicaaFaS
import Derived.Test.YtdpoecebjjcicaaFaLst
import Derived.Test.YtdpoecebjjcicaaRdArg
import Derived.Deep.DeepCutAuto
import Derived.Deep.RegionHeld3
namespace Go.Proofs.Ytdpoecebjjcicaa.fan
open Go.ChangeShapes Go.WideShapes Go.ChangeAt Go.RowKit
open Go.Proofs.Ytdpoecebjjcicaa.nums Go.Proofs.Ytdpoecebjjcicaa.mem
open Go.Proofs.Ytdpoecebjjcicaa.tab (Ret quiet_w)
open Go.Proofs.Ytdpoecebjjcicaa.rd (okR okR_iff RetR)
set_option linter.unusedVariables false

/-- A fan and a reading in their two boxes. -/
def Bx (w : World) (g h : Nat) (s t : TypeId) (N : Int) (on out : Bool) (v a : Int) (o : Bool) : Prop := Has w g s #[.int .i64 N, .bool on, .bool out] ∧ Has w h t #[.int .i64 v, .int .i64 a, .bool o]
theorem Bx.kept {w w' : World} {g h : Nat} {s t : TypeId} {N : Int} {on out : Bool} {v a : Int} {o : Bool} (k : Bx w g h s t N on out v a o) (hg : w.grownBy w' none) : Bx w' g h s t N on out v a o := ⟨k.1.grown hg (by simp), k.2.grown hg (by simp)⟩
theorem Bx.cells {w : World} {g h : Nat} {s t : TypeId} {N : Int} {on out : Bool} {v a : Int} {o : Bool} (k : Bx w g h s t N on out v a o) : (w.cell? ⟨g, 0, none⟩ = some (.int .i64 N) ∧ w.cell? ⟨g, 1, none⟩ = some (.bool on) ∧ w.cell? ⟨g, 2, none⟩ = some (.bool out)) ∧ w.cell? ⟨h, 0, none⟩ = some (.int .i64 v) ∧ w.cell? ⟨h, 1, none⟩ = some (.int .i64 a) ∧ w.cell? ⟨h, 2, none⟩ = some (.bool o) := ⟨⟨k.1.cell 0, k.1.cell 1, k.1.cell 2⟩, k.2.cell 0, k.2.cell 1, k.2.cell 2⟩

theorem gr_drew {a w : World} {row : Option Nat} (h : a.grownBy w row) : a.grownBy w.drew row := gr_drewN h 1
set_option maxHeartbeats 1000000 in
theorem walkWatched (N x v a : Int) (on out o : Bool) (w : World) : Calls Try.prog 6 #[.agg #[.int .i64 N, .bool on, .bool out], .int .i64 x, .agg #[.int .i64 v, .int .i64 a, .bool o]] w fun e w' => e = .returned (.bool true) ∧ Below w.heap.size w w' := by
  obtain ⟨T, hT⟩ : ∃ T, watched (N, on, out) x (v, a, o) = T := ⟨_, rfl⟩
  have cS : ∀ W, Calls Try.prog 13 #[.agg #[.int .i64 N, .bool on, .bool out], .int .i64 x, .agg #[.int .i64 v, .int .i64 a, .bool o]] W (RetF T W) := fun W => hT ▸ specWatched N x v a on out o W
  have cI : ∀ W, Calls Try.prog 10 #[.agg #[.int .i64 N, .bool on, .bool out], .int .i64 x, .agg #[.int .i64 v, .int .i64 a, .bool o]] W (RetF T W) := fun W => hT ▸ implWatched N x v a on out o W
  clear hT
  have B0 : Bx ((w.alloc (Obj.cells #[.int .i64 N, .bool on, .bool out] 43)).alloc (Obj.cells #[.int .i64 v, .int .i64 a, .bool o] 46)) w.heap.size (w.heap.size + 1) 43 46 N on out v a o := ⟨(Has.fresh w 43 #[.int .i64 N, .bool on, .bool out]).alloc _, rd.fresh1 w (Obj.cells #[.int .i64 N, .bool on, .bool out] 43) 46 #[.int .i64 v, .int .i64 a, .bool o]⟩
  have g0 : w.grownBy ((w.alloc (Obj.cells #[.int .i64 N, .bool on, .bool out] 43)).alloc (Obj.cells #[.int .i64 v, .int .i64 a, .bool o] 46)) none := gr_alloc (World.grownBy_alloc _ _ _) _
  obtain ⟨⟨c0, c1, c2⟩, d0, d1, d2⟩ := B0.cells
  go_enter Try.func6, Try.ntmps6
  go_upto_region 1 with fail
  generalize ((w.alloc (Obj.cells #[.int .i64 N, .bool on, .bool out] 43)).alloc (Obj.cells #[.int .i64 v, .int .i64 a, .bool o] 46)) = wb at *
  go_cut [7] (fun p wx => ∃ b, p = .pointer (some ⟨b, 0, none⟩) ∧ wb.grownBy wx none ∧ Has wx b 27 #[.int .i64 T.1, .bool T.2.1, .bool T.2.2])
  case first =>
    have E0 : wb.grownBy wb.drew none := gr_drewN (gr_refl _ _) 1
    go_region_held3 (fun W => (W.cell? ⟨w.heap.size, 0, none⟩ = some (.int .i64 N) ∧ W.cell? ⟨w.heap.size, 1, none⟩ = some (.bool on) ∧ W.cell? ⟨w.heap.size, 2, none⟩ = some (.bool out)) ∧ W.cell? ⟨w.heap.size + 1, 0, none⟩ = some (.int .i64 v) ∧ W.cell? ⟨w.heap.size + 1, 1, none⟩ = some (.int .i64 a) ∧ W.cell? ⟨w.heap.size + 1, 2, none⟩ = some (.bool o))
      (first | with_reducible exact (B0.kept E3).cells | with_reducible exact (B0.kept (gr_alloc E3 _)).cells | with_reducible exact (B0.kept E2).cells | with_reducible exact (B0.kept (gr_alloc E2 _)).cells | with_reducible exact (B0.kept E1).cells | with_reducible exact (B0.kept (gr_alloc E1 _)).cells | with_reducible exact (B0.kept E0).cells | with_reducible exact (B0.kept (gr_alloc E0 _)).cells | with_reducible exact (B0.kept (gr_trans E0 (gr_new (gr_new (gr_new C3 (Nat.le_refl _) 0 (.int .i64 T.1)) (Nat.le_refl _) 1 (.bool T.2.1)) (Nat.le_refl _) 2 (.bool T.2.2)))).cells | with_reducible exact (B0.kept (gr_trans E1 (gr_new (gr_new (gr_new C3 (Nat.le_refl _) 0 (.int .i64 T.1)) (Nat.le_refl _) 1 (.bool T.2.1)) (Nat.le_refl _) 2 (.bool T.2.2)))).cells | with_reducible exact (B0.kept (gr_trans E2 (gr_new (gr_new (gr_new C3 (Nat.le_refl _) 0 (.int .i64 T.1)) (Nat.le_refl _) 1 (.bool T.2.1)) (Nat.le_refl _) 2 (.bool T.2.2)))).cells | with_reducible exact (B0.kept (gr_new (gr_new (gr_new C3 (Nat.le_refl _) 0 (.int .i64 T.1)) (Nat.le_refl _) 1 (.bool T.2.1)) (Nat.le_refl _) 2 (.bool T.2.2))).cells | with_reducible exact (B0.kept (gr_drew (World.grownBy_alloc _ _ none))).cells | fail)
      (first | (go_at_call 20; refine (toFan N on out _).mono ?_; rintro e v1 ⟨rfl, hg1⟩; (first | (have E1 : wb.grownBy v1 none := (by with_reducible exact gr_trans E0 hg1); (try have Z1 := Z0.grown hg1 (by simp)); (try have C1 := gr_trans C0 hg1)) | (have C1 := gr_trans (World.grownBy_alloc _ _ none) hg1; have E1 := gr_trans E0 C1; have Z1 := (Has.fresh _ _ _).grown hg1 (by simp)) | (have C1 := gr_trans (gr_drew (World.grownBy_alloc wb (Obj.cells #[.int .i64 0, .bool false, .bool false] 27) none)) hg1; have E1 := C1; have Z1 := (show Has (wb.alloc (Obj.cells #[.int .i64 0, .bool false, .bool false] 27)).drew wb.heap.size 27 #[.int .i64 0, .bool false, .bool false] from Has.fresh _ _ _).grown hg1 (by simp)))) | (go_at_call 21; refine (rd.toReading v a o _).mono ?_; rintro e v2 ⟨rfl, hg2⟩; (first | (have E2 : wb.grownBy v2 none := (by with_reducible exact gr_trans E1 hg2); (try have Z2 := Z1.grown hg2 (by simp)); (try have C2 := gr_trans C1 hg2)) | (have C2 := gr_trans (World.grownBy_alloc _ _ none) hg2; have E2 := gr_trans E1 C2; have Z2 := (Has.fresh _ _ _).grown hg2 (by simp)))) | (go_at_call 13; refine (cS _).mono ?_; rintro e v3 ⟨rfl, hg3⟩; (first | (have E3 : wb.grownBy v3 none := (by with_reducible exact gr_trans E2 hg3); (try have Z3 := Z2.grown hg3 (by simp)); (try have C3 := gr_trans C2 hg3)) | (have C3 := gr_trans (World.grownBy_alloc _ _ none) hg3; have E3 := gr_trans E2 C3; have Z3 := (Has.fresh _ _ _).grown hg3 (by simp))); (try (have Zq := rd.three Z3; obtain ⟨zc0, zc1, zc2, zf0, zf1, zf2⟩ := Zq))) | fail)
    all_goals go_wp2_with fail
    all_goals go_meet
    all_goals first | with_reducible exact ⟨_, rfl, gr_alloc E3 _, Has.fresh v3 27 #[.int .i64 T.1, .bool T.2.1, .bool T.2.2]⟩ | with_reducible exact ⟨_, rfl, gr_trans E0 (gr_new (gr_new (gr_new C3 (Nat.le_refl _) 0 (.int .i64 T.1)) (Nat.le_refl _) 1 (.bool T.2.1)) (Nat.le_refl _) 2 (.bool T.2.2)), rd.set3 Z3 _ _ _⟩ | with_reducible exact ⟨_, rfl, gr_trans E1 (gr_new (gr_new (gr_new C3 (Nat.le_refl _) 0 (.int .i64 T.1)) (Nat.le_refl _) 1 (.bool T.2.1)) (Nat.le_refl _) 2 (.bool T.2.2)), rd.set3 Z3 _ _ _⟩ | with_reducible exact ⟨_, rfl, gr_trans E2 (gr_new (gr_new (gr_new C3 (Nat.le_refl _) 0 (.int .i64 T.1)) (Nat.le_refl _) 1 (.bool T.2.1)) (Nat.le_refl _) 2 (.bool T.2.2)), rd.set3 Z3 _ _ _⟩ | with_reducible exact ⟨_, rfl, gr_new (gr_new (gr_new C3 (Nat.le_refl _) 0 (.int .i64 T.1)) (Nat.le_refl _) 1 (.bool T.2.1)) (Nat.le_refl _) 2 (.bool T.2.2), rd.set3 Z3 _ _ _⟩ | fail
  case rest =>
    obtain ⟨b, rfl, gx, k1⟩ := hcut
    replace B0 := B0.kept gx
    replace g0 := gr_trans g0 gx
    clear c0 c1 c2 d0 d1 d2 gx
    obtain ⟨⟨c0, c1, c2⟩, d0, d1, d2⟩ := B0.cells
    go_upto_region 2 with fail
    go_cut [8] (fun p wx => ∃ b, p = .pointer (some ⟨b, 0, none⟩) ∧ wc.grownBy wx none ∧ Has wx b 27 #[.int .i64 T.1, .bool T.2.1, .bool T.2.2])
    case first =>
      have E0 : wc.grownBy wc.drew none := gr_drewN (gr_refl _ _) 1
      go_region_held3 (fun W => (W.cell? ⟨w.heap.size, 0, none⟩ = some (.int .i64 N) ∧ W.cell? ⟨w.heap.size, 1, none⟩ = some (.bool on) ∧ W.cell? ⟨w.heap.size, 2, none⟩ = some (.bool out)) ∧ W.cell? ⟨w.heap.size + 1, 0, none⟩ = some (.int .i64 v) ∧ W.cell? ⟨w.heap.size + 1, 1, none⟩ = some (.int .i64 a) ∧ W.cell? ⟨w.heap.size + 1, 2, none⟩ = some (.bool o))
        (first | with_reducible exact (B0.kept E3).cells | with_reducible exact (B0.kept (gr_alloc E3 _)).cells | with_reducible exact (B0.kept E2).cells | with_reducible exact (B0.kept (gr_alloc E2 _)).cells | with_reducible exact (B0.kept E1).cells | with_reducible exact (B0.kept (gr_alloc E1 _)).cells | with_reducible exact (B0.kept E0).cells | with_reducible exact (B0.kept (gr_alloc E0 _)).cells | with_reducible exact (B0.kept (gr_trans E0 (gr_new (gr_new (gr_new C3 (Nat.le_refl _) 0 (.int .i64 T.1)) (Nat.le_refl _) 1 (.bool T.2.1)) (Nat.le_refl _) 2 (.bool T.2.2)))).cells | with_reducible exact (B0.kept (gr_trans E1 (gr_new (gr_new (gr_new C3 (Nat.le_refl _) 0 (.int .i64 T.1)) (Nat.le_refl _) 1 (.bool T.2.1)) (Nat.le_refl _) 2 (.bool T.2.2)))).cells | with_reducible exact (B0.kept (gr_trans E2 (gr_new (gr_new (gr_new C3 (Nat.le_refl _) 0 (.int .i64 T.1)) (Nat.le_refl _) 1 (.bool T.2.1)) (Nat.le_refl _) 2 (.bool T.2.2)))).cells | with_reducible exact (B0.kept (gr_new (gr_new (gr_new C3 (Nat.le_refl _) 0 (.int .i64 T.1)) (Nat.le_refl _) 1 (.bool T.2.1)) (Nat.le_refl _) 2 (.bool T.2.2))).cells | with_reducible exact (B0.kept (gr_drew (World.grownBy_alloc _ _ none))).cells | fail)
        (first | (go_at_call 20; refine (toFan N on out _).mono ?_; rintro e v1 ⟨rfl, hg1⟩; (first | (have E1 : wc.grownBy v1 none := (by with_reducible exact gr_trans E0 hg1); (try have Z1 := Z0.grown hg1 (by simp)); (try have C1 := gr_trans C0 hg1)) | (have C1 := gr_trans (World.grownBy_alloc _ _ none) hg1; have E1 := gr_trans E0 C1; have Z1 := (Has.fresh _ _ _).grown hg1 (by simp)) | (have C1 := gr_trans (gr_drew (World.grownBy_alloc wc (Obj.cells #[.int .i64 0, .bool false, .bool false] 27) none)) hg1; have E1 := C1; have Z1 := (show Has (wc.alloc (Obj.cells #[.int .i64 0, .bool false, .bool false] 27)).drew wc.heap.size 27 #[.int .i64 0, .bool false, .bool false] from Has.fresh _ _ _).grown hg1 (by simp)))) | (go_at_call 21; refine (rd.toReading v a o _).mono ?_; rintro e v2 ⟨rfl, hg2⟩; (first | (have E2 : wc.grownBy v2 none := (by with_reducible exact gr_trans E1 hg2); (try have Z2 := Z1.grown hg2 (by simp)); (try have C2 := gr_trans C1 hg2)) | (have C2 := gr_trans (World.grownBy_alloc _ _ none) hg2; have E2 := gr_trans E1 C2; have Z2 := (Has.fresh _ _ _).grown hg2 (by simp)))) | (go_at_call 10; refine (cI _).mono ?_; rintro e v3 ⟨rfl, hg3⟩; (first | (have E3 : wc.grownBy v3 none := (by with_reducible exact gr_trans E2 hg3); (try have Z3 := Z2.grown hg3 (by simp)); (try have C3 := gr_trans C2 hg3)) | (have C3 := gr_trans (World.grownBy_alloc _ _ none) hg3; have E3 := gr_trans E2 C3; have Z3 := (Has.fresh _ _ _).grown hg3 (by simp))); (try (have Zq := rd.three Z3; obtain ⟨zc0, zc1, zc2, zf0, zf1, zf2⟩ := Zq))) | fail)
      all_goals go_wp2_with fail
      all_goals go_meet
      all_goals first | with_reducible exact ⟨_, rfl, gr_alloc E3 _, Has.fresh v3 27 #[.int .i64 T.1, .bool T.2.1, .bool T.2.2]⟩ | with_reducible exact ⟨_, rfl, gr_trans E0 (gr_new (gr_new (gr_new C3 (Nat.le_refl _) 0 (.int .i64 T.1)) (Nat.le_refl _) 1 (.bool T.2.1)) (Nat.le_refl _) 2 (.bool T.2.2)), rd.set3 Z3 _ _ _⟩ | with_reducible exact ⟨_, rfl, gr_trans E1 (gr_new (gr_new (gr_new C3 (Nat.le_refl _) 0 (.int .i64 T.1)) (Nat.le_refl _) 1 (.bool T.2.1)) (Nat.le_refl _) 2 (.bool T.2.2)), rd.set3 Z3 _ _ _⟩ | with_reducible exact ⟨_, rfl, gr_trans E2 (gr_new (gr_new (gr_new C3 (Nat.le_refl _) 0 (.int .i64 T.1)) (Nat.le_refl _) 1 (.bool T.2.1)) (Nat.le_refl _) 2 (.bool T.2.2)), rd.set3 Z3 _ _ _⟩ | with_reducible exact ⟨_, rfl, gr_new (gr_new (gr_new C3 (Nat.le_refl _) 0 (.int .i64 T.1)) (Nat.le_refl _) 1 (.bool T.2.1)) (Nat.le_refl _) 2 (.bool T.2.2), rd.set3 Z3 _ _ _⟩ | fail
    case rest =>
      obtain ⟨b', rfl, gx, k2⟩ := hcut
      replace g0 := gr_trans g0 gx
      replace k1 := k1.grown gx (by simp)
      clear c0 c1 c2 d0 d1 d2 gx B0
      obtain ⟨c0, c1, c2, _, _, _⟩ := rd.three k1
      obtain ⟨d0, d1, d2, _, _, _⟩ := rd.three k2
      go_wp2_with fail
      refine (eqFan _ _ _ _).mono ?_
      rintro e w7 ⟨rfl, hg⟩
      go_wp2_with fail
      go_ret
      exact ⟨rfl, below_of_none (gr_trans g0 hg)⟩
end Go.Proofs.Ytdpoecebjjcicaa.fan
