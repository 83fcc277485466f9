/- Two lists of readings that hold the same are told alike; what the law of freshness says of plain triples. slices.Repeat of one number four times. NewSenses of the program. -/
import Derived.Test.YtdikhdfpcipdbaaGreatDoorG3
import Derived.Test.YtdikhdfpcipdbaaGreatDoorG16
import Derived.Test.YtdikhdfpcipdbaaGreatDoorG19
import Derived.Test.YtdikhdfpcipdbaaGreatDoorG23
import Derived.Deep.RegionLaw
import Derived.Laws.CopyOwn
import Derived.Test.YtdikhdfpcipdbaaGreatDoorG13
/- Two lists of readings that hold the same are told alike; what the law of freshness says of plain triples. -/
namespace Go.Proofs.YtdikhdfpcipdbaaGreatDoor.rd
open Go.ChangeShapes Go.WideShapes Go.ChangeAt Go.RowKit
open Go.Proofs.YtdikhdfpcipdbaaGreatDoor.nums Go.Proofs.YtdikhdfpcipdbaaGreatDoor.mem Go.Proofs.YtdikhdfpcipdbaaGreatDoor.cur
open Go.Proofs.YtdikhdfpcipdbaaGreatDoor.tab (Ret quiet_w wpList_make_has add_off)
set_option linter.unusedVariables false

theorem eqR_same (r : R) : eqR r r = true := by simp [eqR]
theorem neqR_same (w : World) (v a : Int) (o : Bool) : (binOp .neq 42 (.agg #[.int .i64 v, .int .i64 a, .bool o]) (.agg #[.int .i64 v, .int .i64 a, .bool o])).run Tryz.prog w = .ok (.bool false) w := by
  rw [neqR, eqR_same]; rfl

end Go.Proofs.YtdikhdfpcipdbaaGreatDoor.rd

/- slices.Repeat of one number four times. -/
namespace Go.Proofs.YtdikhdfpcipdbaaGreatDoor.se
open Go.ChangeShapes Go.WideShapes Go.ChangeAt Go.RowKit
open Go.Proofs.YtdikhdfpcipdbaaGreatDoor.nums Go.Proofs.YtdikhdfpcipdbaaGreatDoor.mem
open Go.Proofs.YtdikhdfpcipdbaaGreatDoor.tab (Ret)
set_option linter.unusedVariables false

set_option maxHeartbeats 1000000 in
theorem mul64 (w : World) : Calls Tryz.prog 107 #[.int .u64 1, .int .u64 4] w fun e w' => e = .returned (.tuple #[.int .u64 0, .int .u64 4]) ∧ w = w' := by
  have b1 : bits .and .u64 1 4294967295 = 1 := by kernel_rfl
  have b4 : bits .and .u64 4 4294967295 = 4 := by kernel_rfl
  have b0 : bits .and .u64 0 4294967295 = 0 := by kernel_rfl
  go_enter Tryz.func107, Tryz.ntmps107
  go_wp2
  go_ret2
  exact ⟨rfl, rfl⟩
set_option maxHeartbeats 1000000 in
theorem mul (w : World) : Calls Tryz.prog 85 #[.int .u64 1, .int .u64 4] w fun e w' => e = .returned (.tuple #[.int .u64 0, .int .u64 4]) ∧ w = w' := by
  go_enter Tryz.func85, Tryz.ntmps85
  go_wp2_with fail
  refine (mul64 _).mono ?_
  rintro e w' ⟨rfl, rfl⟩
  go_wp2_with fail
  go_ret2
  exact ⟨rfl, rfl⟩

set_option maxRecDepth 100000 in
set_option maxHeartbeats 600000 in
theorem repeat4 (b : Nat) (w : World) (h : Has w b 2 #[.int .i64 (-1)]) : Calls Tryz.prog 54 #[.slice (some ⟨b, 0, none⟩) 1 1, .int .i64 4] w fun e w' => ∃ g, e = .returned (.slice (some ⟨g, 0, none⟩) 4 4) ∧ w.heap.size ≤ g ∧ w.grownBy w' none ∧ Has w' g 2 #[.int .i64 (-1), .int .i64 (-1), .int .i64 (-1), .int .i64 (-1)] := by
  obtain ⟨i0, hi, hz0, hz1, hz2⟩ := info_parts il.infoInt
  have m4 : ∀ W, (Instr.makeSlice 25 (.int .i64 4) (.int .i64 4)).run Tryz.prog W = .ok (.slice (some ⟨W.heap.size, 0, none⟩) 4 4) (W.alloc (.cells #[.int .i64 0, .int .i64 0, .int .i64 0, .int .i64 0] 2)) := fun W => by
    have h := run_make (P := Tryz.prog) W 25 2 i0 _ Tryz.underlying25 hi hz0 .i64 .i64 4 4 (by omega) (by omega) (by rw [hz2]; omega) (by omega)
    have hm : madeCells (Value.cells (.int .i64 0)) (Int.toNat 4 * 1) = #[.int .i64 0, .int .i64 0, .int .i64 0, .int .i64 0] := by kernel_rfl
    rw [h, hz1, hm]; rfl
  have w2e : IntKind.i64.wrap 2 = 2 := by rw [IntKind.wrap_i64]; rfl
  have w4e : IntKind.i64.wrap 4 = 4 := by rw [IntKind.wrap_i64]; rfl
  go_enter Tryz.func54, Tryz.ntmps54
  go_wp2_with fail
  refine (mul _).mono ?_
  rintro e w' ⟨rfl, rfl⟩
  have hB : Below w.heap.size w (w.alloc (Obj.cells #[.int .i64 0, .int .i64 0, .int .i64 0, .int .i64 0] 2)) := below_of_none (World.grownBy_alloc _ _ _)
  have hA := Has.fresh w 2 #[.int .i64 0, .int .i64 0, .int .i64 0, .int .i64 0]
  have hS := h.alloc (Obj.cells #[.int .i64 0, .int .i64 0, .int .i64 0, .int .i64 0] 2)
  have hsrc : ∀ (j : Nat) (v : Value), ([Value.int .i64 (-1)])[j]? = some v → (w.alloc (Obj.cells #[.int .i64 0, .int .i64 0, .int .i64 0, .int .i64 0] 2)).cell? ((⟨b, 0, none⟩ : Addr).add j) = some v := fun j v hv => by rw [il.add0, hS.cell]; simpa using hv
  go_wp2_with (refine wpList_copy_splice rfl (.tmp 31) (.tmp 32) 25 25 rfl 2 Tryz.underlying25 (by rw [hi]; simpa using hz1) (some ⟨w.heap.size, 0, none⟩) (some ⟨b, 0, none⟩) 4 4 1 1 rfl rfl w.heap.size 0 [.int .i64 0, .int .i64 0, .int .i64 0, .int .i64 0] 2 hA [.int .i64 (-1)] rfl (fun h0 => ⟨rfl, _, rfl, hsrc⟩) (by simp) (by simp [Value.oneCell']) w.heap.size w hB (Nat.le_refl _) ?_; intro w2 HG2 hB2)
  have K2 : Has w2 w.heap.size 2 #[.int .i64 (-1), .int .i64 0, .int .i64 0, .int .i64 0] := HG2.out
  clear HG2 hB hA hS hsrc m4
  go_loopw [8] (fun n wr => Below w.heap.size w wr ∧ ((n = .int .i64 1 ∧ Has wr w.heap.size 2 #[.int .i64 (-1), .int .i64 0, .int .i64 0, .int .i64 0]) ∨ (n = .int .i64 2 ∧ Has wr w.heap.size 2 #[.int .i64 (-1), .int .i64 (-1), .int .i64 0, .int .i64 0]) ∨ (n = .int .i64 4 ∧ Has wr w.heap.size 2 #[.int .i64 (-1), .int .i64 (-1), .int .i64 (-1), .int .i64 (-1)]))) (fun n _ => 4 - (intOf n).toNat)
  case atStart => exact ⟨hB2, Or.inl ⟨rfl, K2⟩⟩
  case round =>
    clear K2 hB2
    obtain ⟨hB, ⟨rfl, K⟩ | ⟨rfl, K⟩ | ⟨rfl, K⟩⟩ := hrel
    · have hsrc : ∀ (j : Nat) (v : Value), ([Value.int .i64 (-1)])[j]? = some v → wr.drew.cell? ((⟨w.heap.size, 0, none⟩ : Addr).add j) = some v := fun j v hv => by
        rw [il.add0]
        have hc := K.cell j
        refine (show wr.drew.cell? _ = _ from hc).trans ?_
        match j, hv with
        | 0, hv => simpa using hv
      have hB' : Below w.heap.size w wr.drew := ⟨hB.os, hB.tape, hB.output, hB.size, hB.block⟩
      have K' : Has wr.drew w.heap.size 2 #[.int .i64 (-1), .int .i64 0, .int .i64 0, .int .i64 0] := K
      go_wp2_with fail
      go_region_law (refine step_copy_splice rfl (.tmp 41) (.tmp 44) 25 25 rfl 2 Tryz.underlying25 (by rw [hi]; simpa using hz1) (some ⟨w.heap.size, 1, none⟩) (some ⟨w.heap.size, 0, none⟩) 3 3 1 4 (by simp [Act.eval, Act.put]) (by simp [Act.eval, Act.put]) w.heap.size 1 [.int .i64 (-1), .int .i64 0, .int .i64 0, .int .i64 0] 2 K' [.int .i64 (-1)] rfl (fun h0 => ⟨rfl, _, rfl, hsrc⟩) (by simp) (by simp [Value.oneCell']) w.heap.size w hB' (Nat.le_refl _) ?_; intro w3 HG3 hB3)
      go_wp2_with fail
      go_roundw
      case rel => exact ⟨.int .i64 2, _, _, _, _, _, _, _, _, _, _, _, _, _, ⟨hB3, Or.inr (Or.inl ⟨rfl, HG3.out⟩)⟩, by simp [Act.put]; exact ⟨rfl, rfl, rfl, rfl, rfl, rfl, rfl, rfl, rfl, rfl, rfl, rfl, rfl⟩⟩
      case measure => simp [intOf, Act.put]
    · have hsrc : ∀ (j : Nat) (v : Value), ([Value.int .i64 (-1), .int .i64 (-1)])[j]? = some v → wr.drew.cell? ((⟨w.heap.size, 0, none⟩ : Addr).add j) = some v := fun j v hv => by
        rw [il.add0]
        have hc := K.cell j
        refine (show wr.drew.cell? _ = _ from hc).trans ?_
        match j, hv with
        | 0, hv => simpa using hv
        | 1, hv => simpa using hv
      have hB' : Below w.heap.size w wr.drew := ⟨hB.os, hB.tape, hB.output, hB.size, hB.block⟩
      have K' : Has wr.drew w.heap.size 2 #[.int .i64 (-1), .int .i64 (-1), .int .i64 0, .int .i64 0] := K
      go_wp2_with fail
      go_region_law (refine step_copy_splice rfl (.tmp 41) (.tmp 44) 25 25 rfl 2 Tryz.underlying25 (by rw [hi]; simpa using hz1) (some ⟨w.heap.size, 2, none⟩) (some ⟨w.heap.size, 0, none⟩) 2 2 2 4 (by simp [Act.eval, Act.put]) (by simp [Act.eval, Act.put]) w.heap.size 2 [.int .i64 (-1), .int .i64 (-1), .int .i64 0, .int .i64 0] 2 K' [.int .i64 (-1), .int .i64 (-1)] rfl (fun h0 => ⟨rfl, _, rfl, hsrc⟩) (by simp) (by simp [Value.oneCell']) w.heap.size w hB' (Nat.le_refl _) ?_; intro w3 HG3 hB3)
      go_wp2_with fail
      go_roundw
      case rel => exact ⟨.int .i64 4, _, _, _, _, _, _, _, _, _, _, _, _, _, ⟨hB3, Or.inr (Or.inr ⟨rfl, HG3.out⟩)⟩, by simp [Act.put]; exact ⟨rfl, rfl, rfl, rfl, rfl, rfl, rfl, rfl, rfl, rfl, rfl, rfl, rfl⟩⟩
      case measure => simp [intOf, Act.put]
    · go_wp2_with fail
      go_ret
      exact ⟨_, rfl, Nat.le_refl _, gr_of_below hB none, K⟩
end Go.Proofs.YtdikhdfpcipdbaaGreatDoor.se

/- NewSenses of the program. -/
namespace Go.Proofs.YtdikhdfpcipdbaaGreatDoor.se
open Go.ChangeShapes Go.WideShapes Go.ChangeAt Go.RowKit
open Go.Proofs.YtdikhdfpcipdbaaGreatDoor.nums Go.Proofs.YtdikhdfpcipdbaaGreatDoor.mem
open Go.Proofs.YtdikhdfpcipdbaaGreatDoor.tab (Ret)
open Go.Proofs.YtdikhdfpcipdbaaGreatDoor.il (nth Ints Own)
set_option linter.unusedVariables false

/-- What each operation of NewSenses leaves. -/
def Left (z : Nat) : Nat → Value → World → Prop
  | 0, v, _ => v = .pointer (some ⟨0, 1, none⟩)
  | 1, v, _ => v = .int .i64 3
  | 2, v, w => ∃ b, v = .slice (some ⟨b, 0, none⟩) 3 3 ∧ z ≤ b ∧ Has w b 42 (zrow 3)
  | 3, v, _ => v = .pointer (some ⟨0, 2, none⟩)
  | 4, v, _ => v = .int .i64 2
  | 5, v, w => ∃ b, v = .slice (some ⟨b, 0, none⟩) 2 2 ∧ z ≤ b ∧ Has w b 42 (zrow 2)
  | 6, v, _ => v = .pointer (some ⟨0, 3, none⟩)
  | 7, v, _ => v = .int .i64 6
  | 8, v, w => ∃ b, v = .slice (some ⟨b, 0, none⟩) 6 6 ∧ z ≤ b ∧ Has w b 42 (zrow 6)
  | 9, v, w => ∃ b, v = .slice (some ⟨b, 0, none⟩) 1 1 ∧ Has w b 2 #[.int .i64 (-1)]
  | 10, v, w => ∃ b, v = .slice (some ⟨b, 0, none⟩) 4 4 ∧ z ≤ b ∧ Has w b 2 #[.int .i64 (-1), .int .i64 (-1), .int .i64 (-1), .int .i64 (-1)]
  | _, _, _ => False
theorem Left.stab (z : Nat) (j : Nat) (v : Value) (w w' : World) (h : Left z j v w) (hg : w.grownBy w' none) : Left z j v w' := by
  match j, h with
  | 0, h => exact h
  | 1, h => exact h
  | 2, ⟨b, h1, h2, h3⟩ => exact ⟨b, h1, h2, h3.grown hg (by simp)⟩
  | 3, h => exact h
  | 4, h => exact h
  | 5, ⟨b, h1, h2, h3⟩ => exact ⟨b, h1, h2, h3.grown hg (by simp)⟩
  | 6, h => exact h
  | 7, h => exact h
  | 8, ⟨b, h1, h2, h3⟩ => exact ⟨b, h1, h2, h3.grown hg (by simp)⟩
  | 9, ⟨b, h1, h3⟩ => exact ⟨b, h1, h3.grown hg (by simp)⟩
  | 10, ⟨b, h1, h2, h3⟩ => exact ⟨b, h1, h2, h3.grown hg (by simp)⟩

theorem impl_end (w W : World) (b1 b2 b3 b4 : Nat) (v x1 x2 x4 x5 x7 x8 x10 : Value) (K : Has W w.heap.size 27 #[.slice (some ⟨b1, 0, none⟩) 3 3, .slice (some ⟨b2, 0, none⟩) 2 2, .slice (some ⟨b3, 0, none⟩) 6 6, .int .i64 0, .bool false, .slice (some ⟨b4, 0, none⟩) 4 4])
    (H1 : Has W b1 42 (zrow 3)) (H2 : Has W b2 42 (zrow 2)) (H3 : Has W b3 42 (zrow 6)) (H4 : Has W b4 2 #[.int .i64 (-1), .int .i64 (-1), .int .i64 (-1), .int .i64 (-1)])
    (n : (b1 ≠ b2 ∧ b1 ≠ b3 ∧ b2 ≠ b3) ∧ w.heap.size ≤ b1 ∧ w.heap.size ≤ b2 ∧ w.heap.size ≤ b3 ∧ w.heap.size ≤ b4) (hg : w.grownBy W none) :
    bodyPost Tryz.prog Tryz.f15 (RetS newS w) Exit.ret { tmps := #[.pointer (some ⟨w.heap.size, 0, none⟩), x1, x2, .slice (some ⟨b1, 0, none⟩) 3 3, x4, x5, .slice (some ⟨b2, 0, none⟩) 2 2, x7, x8, .slice (some ⟨b3, 0, none⟩) 6 6, x10, .slice (some ⟨b4, 0, none⟩) 4 4, v], defers := [] } W := by
  obtain ⟨⟨u0, u1, u2⟩, u3, u4, u5⟩ := six K
  exact bodyPost_ret (v := sv newS ⟨some ⟨b1, 0, none⟩, 3, some ⟨b2, 0, none⟩, 2, some ⟨b3, 0, none⟩, 6, some ⟨b4, 0, none⟩, 4⟩) (by simp [results, Tryz.results15, go_sem, u0, u1, u2, u3, u4, u5, newS, zr]) rfl ⟨_, rfl, hg, own_new w W b1 b2 b3 b4 3 2 6 4 H1 H2 H3 (own_q H4 rfl) n⟩

set_option maxRecDepth 100000 in
set_option maxHeartbeats 2000000 in
theorem implNew (w : World) (hv : Vals w) : Calls Tryz.prog 15 #[] w (RetS newS w) := by
  have k0 := Has.fresh w 27 #[.slice none 0 0, .slice none 0 0, .slice none 0 0, .int .i64 0, .bool false, .slice none 0 0]
  have gwb := World.grownBy_alloc w (Obj.cells #[.slice none 0 0, .slice none 0 0, .slice none 0 0, .int .i64 0, .bool false, .slice none 0 0] 27) none
  have m3 : ∀ W, (Instr.makeSlice 24 (.int .i64 3) (.int .i64 3)).run Tryz.prog W = .ok (.slice (some ⟨W.heap.size, 0, none⟩) 3 3) (W.alloc (.cells (zrow 3) 42)) := run_mk 3 (by omega)
  have m2 : ∀ W, (Instr.makeSlice 24 (.int .i64 2) (.int .i64 2)).run Tryz.prog W = .ok (.slice (some ⟨W.heap.size, 0, none⟩) 2 2) (W.alloc (.cells (zrow 2) 42)) := run_mk 2 (by omega)
  have m6 : ∀ W, (Instr.makeSlice 24 (.int .i64 6) (.int .i64 6)).run Tryz.prog W = .ok (.slice (some ⟨W.heap.size, 0, none⟩) 6 6) (W.alloc (.cells (zrow 6) 42)) := run_mk 6 (by omega)
  have hv' := hv.kept gwb
  go_enter Tryz.func15, Tryz.ntmps15
  go_wp2_with fail
  generalize w.alloc (Obj.cells #[.slice none 0 0, .slice none 0 0, .slice none 0 0, .int .i64 0, .bool false, .slice none 0 0] 27) = wb at *
  have lb := k0.lt
  refine iv.region_inv 11 (fun i => i + 1) (Left wb.heap.size) (by kernel_rfl) (by kernel_rfl) (by kernel_rfl) (by decide) (by kernel_rfl) (by kernel_rfl) (fun i j _ _ e => by simpa using e) (fun i hi => by simp; omega) (Left.stab wb.heap.size) ?_ ?_
  · intro i o a W hi ho hg hsz hdf hold hdeps
    obtain ⟨⟨tl⟩, df⟩ := a
    match tl, hsz with
    | [x0, x1, x2, x3, x4, x5, x6, x7, x8, x9, x10, x11, x12], _ =>
      have e0 : x0 = .pointer (some ⟨w.heap.size, 0, none⟩) := by simpa using hold 0 (fun j _ => by omega)
      have e1 : df = [] := by simpa using hdf
      subst e0 e1
      clear hold hdf
      rcases (show i = 0 ∨ i = 1 ∨ i = 2 ∨ i = 3 ∨ i = 4 ∨ i = 5 ∨ i = 6 ∨ i = 7 ∨ i = 8 ∨ i = 9 ∨ i = 10 by omega) with rfl | rfl | rfl | rfl | rfl | rfl | rfl | rfl | rfl | rfl | rfl
      all_goals simp at ho
      all_goals subst ho
      all_goals simp [Region.binds, Left] at hdeps
      · go_wp2_with fail
        exact ⟨gr_refl _ _, rfl⟩
      · subst hdeps
        obtain ⟨v1, v2, v3⟩ := (hv'.kept hg).three
        go_wp2_with fail
        exact ⟨gr_refl _ _, rfl⟩
      · subst hdeps
        go_wp2_with fail
        exact ⟨World.grownBy_alloc _ _ _, _, rfl, hg.size, Has.fresh _ _ _⟩
      · go_wp2_with fail
        exact ⟨gr_refl _ _, rfl⟩
      · subst hdeps
        obtain ⟨v1, v2, v3⟩ := (hv'.kept hg).three
        go_wp2_with fail
        exact ⟨gr_refl _ _, rfl⟩
      · subst hdeps
        go_wp2_with fail
        exact ⟨World.grownBy_alloc _ _ _, _, rfl, hg.size, Has.fresh _ _ _⟩
      · go_wp2_with fail
        exact ⟨gr_refl _ _, rfl⟩
      · subst hdeps
        obtain ⟨v1, v2, v3⟩ := (hv'.kept hg).three
        go_wp2_with fail
        exact ⟨gr_refl _ _, rfl⟩
      · subst hdeps
        go_wp2_with fail
        exact ⟨World.grownBy_alloc _ _ _, _, rfl, hg.size, Has.fresh _ _ _⟩
      · go_wp2_with fail
        exact ⟨World.grownBy_alloc _ _ _, _, rfl, Has.fresh _ _ _⟩
      · obtain ⟨b, rfl, hb⟩ := hdeps
        go_wp2_with fail
        refine (repeat4 b _ hb).mono ?_
        rintro e w1 ⟨g, rfl, l, r, hk⟩
        go_wp2_with fail
        exact ⟨g, rfl, Nat.le_trans hg.size l, hk⟩
  · intro a W hg hsz hdf hold hnew
    obtain ⟨⟨tl⟩, df⟩ := a
    match tl, hsz with
    | [x0, x1, x2, x3, x4, x5, x6, x7, x8, x9, x10, x11, x12], _ =>
      have e0 : x0 = .pointer (some ⟨w.heap.size, 0, none⟩) := by simpa using hold 0 (fun j _ => by omega)
      have e1 : df = [] := by simpa using hdf
      subst e0 e1
      obtain ⟨v, h1, b1, h2, l1, H1⟩ := hnew 2 (by omega)
      obtain rfl : x3 = v := by simpa using h1
      subst h2
      obtain ⟨v, h1, b2, h2, l2, H2⟩ := hnew 5 (by omega)
      obtain rfl : x6 = v := by simpa using h1
      subst h2
      obtain ⟨v, h1, b3, h2, l3, H3⟩ := hnew 8 (by omega)
      obtain rfl : x9 = v := by simpa using h1
      subst h2
      obtain ⟨v, h1, b4, h2, l4, H4⟩ := hnew 10 (by omega)
      obtain rfl : x11 = v := by simpa using h1
      subst h2
      clear hnew hold hdf h1
      have K := k0.grown hg (by simp)
      obtain ⟨⟨c0, c1, c2⟩, c3, c4, c5⟩ := six K
      obtain ⟨⟨f0, f1, f2⟩, f3, f4, f5⟩ := free6 K
      have n12 : b1 ≠ b2 := fun e => by
        subst e; have := H1.symm.trans H2; simp at this; have := congrArg Array.size this; simp [zrow, size_madeCells] at this
      have n13 : b1 ≠ b3 := fun e => by
        subst e; have := H1.symm.trans H3; simp at this; have := congrArg Array.size this; simp [zrow, size_madeCells] at this
      have n23 : b2 ≠ b3 := fun e => by
        subst e; have := H2.symm.trans H3; simp at this; have := congrArg Array.size this; simp [zrow, size_madeCells] at this
      simp only [List.drop_succ_cons, List.drop_zero]
      go_wp2_with fail
      have m1 : w.heap.size ≠ b1 := by omega
      have m2 : w.heap.size ≠ b2 := by omega
      have m3 : w.heap.size ≠ b3 := by omega
      have m4 : w.heap.size ≠ b4 := by omega
      have past : ∀ (b : Nat) (t : TypeId) (cs : Array Value), w.heap.size ≠ b → Has W b t cs → ∀ u0 u1 u2 u3 u4 u5, Has ((((((W.setCell ⟨w.heap.size, 0, none⟩ u0).setCell ⟨w.heap.size, 1, none⟩ u1).setCell ⟨w.heap.size, 2, none⟩ u2).setCell ⟨w.heap.size, 3, none⟩ u3).setCell ⟨w.heap.size, 4, none⟩ u4).setCell ⟨w.heap.size, 5, none⟩ u5) b t cs := fun b t cs hb H u0 u1 u2 u3 u4 u5 =>
        (((((H.set_other (Ne.symm hb) _ _).set_other (Ne.symm hb) _ _).set_other (Ne.symm hb) _ _).set_other (Ne.symm hb) _ _).set_other (Ne.symm hb) _ _).set_other (Ne.symm hb) _ _
      exact impl_end w _ b1 b2 b3 b4 _ _ _ _ _ _ _ _ (set6 K _ _ _ _ _ _) (past _ _ _ m1 H1 _ _ _ _ _ _) (past _ _ _ m2 H2 _ _ _ _ _ _) (past _ _ _ m3 H3 _ _ _ _ _ _) (past _ _ _ m4 H4 _ _ _ _ _ _) ⟨⟨n12, n13, n23⟩, by omega, by omega, by omega, by omega⟩ (gr6 (gr_trans gwb hg) (Nat.le_refl _) _ _ _ _ _ _)
end Go.Proofs.YtdikhdfpcipdbaaGreatDoor.se

