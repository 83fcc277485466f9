/- slices.Repeat of one number four times. -/
import Derived.Test.YtnkimjmpjnhlnaaDoorSeOk
import Derived.Test.YtnkimjmpjnhlnaaDoorSeNew
import Derived.Deep.RegionLaw
import Derived.Laws.CopyOwn
namespace Go.Proofs.YtnkimjmpjnhlnaaDoor.se
open Go.ChangeShapes Go.WideShapes Go.ChangeAt Go.RowKit
open Go.Proofs.YtnkimjmpjnhlnaaDoor.nums Go.Proofs.YtnkimjmpjnhlnaaDoor.mem
open Go.Proofs.YtnkimjmpjnhlnaaDoor.tab (Ret)
set_option linter.unusedVariables false

set_option maxHeartbeats 1000000 in
theorem mul64 (w : World) : Calls Tryd.prog 76 #[.int .u64 1, .int .u64 4] w fun e w' => e = .returned (.tuple #[.int .u64 0, .int .u64 4]) ∧ w = w' := by
  have b1 : bits .and .u64 1 4294967295 = 1 := by kernel_rfl
  have b4 : bits .and .u64 4 4294967295 = 4 := by kernel_rfl
  have b0 : bits .and .u64 0 4294967295 = 0 := by kernel_rfl
  go_enter Tryd.func76, Tryd.ntmps76
  go_wp2
  go_ret2
  exact ⟨rfl, rfl⟩
set_option maxHeartbeats 1000000 in
theorem mul (w : World) : Calls Tryd.prog 71 #[.int .u64 1, .int .u64 4] w fun e w' => e = .returned (.tuple #[.int .u64 0, .int .u64 4]) ∧ w = w' := by
  go_enter Tryd.func71, Tryd.ntmps71
  go_wp2_with fail
  refine (mul64 _).mono ?_
  rintro e w' ⟨rfl, rfl⟩
  go_wp2_with fail
  go_ret2
  exact ⟨rfl, rfl⟩

set_option maxRecDepth 100000 in
set_option maxHeartbeats 600000 in
theorem repeat4 (b : Nat) (w : World) (h : Has w b 2 #[.int .i64 (-1)]) : Calls Tryd.prog 58 #[.slice (some ⟨b, 0, none⟩) 1 1, .int .i64 4] w fun e w' => ∃ g, e = .returned (.slice (some ⟨g, 0, none⟩) 4 4) ∧ w.heap.size ≤ g ∧ w.grownBy w' none ∧ Has w' g 2 #[.int .i64 (-1), .int .i64 (-1), .int .i64 (-1), .int .i64 (-1)] := by
  obtain ⟨i0, hi, hz0, hz1, hz2⟩ := info_parts il.infoInt
  have m4 : ∀ W, (Instr.makeSlice 26 (.int .i64 4) (.int .i64 4)).run Tryd.prog W = .ok (.slice (some ⟨W.heap.size, 0, none⟩) 4 4) (W.alloc (.cells #[.int .i64 0, .int .i64 0, .int .i64 0, .int .i64 0] 2)) := fun W => by
    have h := run_make (P := Tryd.prog) W 26 2 i0 _ Tryd.underlying26 hi hz0 .i64 .i64 4 4 (by omega) (by omega) (by rw [hz2]; omega) (by omega)
    have hm : madeCells (Value.cells (.int .i64 0)) (Int.toNat 4 * 1) = #[.int .i64 0, .int .i64 0, .int .i64 0, .int .i64 0] := by kernel_rfl
    rw [h, hz1, hm]; rfl
  have w2e : IntKind.i64.wrap 2 = 2 := by rw [IntKind.wrap_i64]; rfl
  have w4e : IntKind.i64.wrap 4 = 4 := by rw [IntKind.wrap_i64]; rfl
  go_enter Tryd.func58, Tryd.ntmps58
  go_wp2_with fail
  refine (mul _).mono ?_
  rintro e w' ⟨rfl, rfl⟩
  have hB : Below w.heap.size w (w.alloc (Obj.cells #[.int .i64 0, .int .i64 0, .int .i64 0, .int .i64 0] 2)) := below_of_none (World.grownBy_alloc _ _ _)
  have hA := Has.fresh w 2 #[.int .i64 0, .int .i64 0, .int .i64 0, .int .i64 0]
  have hS := h.alloc (Obj.cells #[.int .i64 0, .int .i64 0, .int .i64 0, .int .i64 0] 2)
  have hsrc : ∀ (j : Nat) (v : Value), ([Value.int .i64 (-1)])[j]? = some v → (w.alloc (Obj.cells #[.int .i64 0, .int .i64 0, .int .i64 0, .int .i64 0] 2)).cell? ((⟨b, 0, none⟩ : Addr).add j) = some v := fun j v hv => by rw [il.add0, hS.cell]; simpa using hv
  go_wp2_with (refine wpList_copy_splice rfl (.tmp 31) (.tmp 32) 26 26 rfl 2 Tryd.underlying26 (by rw [hi]; simpa using hz1) (some ⟨w.heap.size, 0, none⟩) (some ⟨b, 0, none⟩) 4 4 1 1 rfl rfl w.heap.size 0 [.int .i64 0, .int .i64 0, .int .i64 0, .int .i64 0] 2 hA [.int .i64 (-1)] rfl (fun h0 => ⟨rfl, _, rfl, hsrc⟩) (by simp) (by simp [Value.oneCell']) w.heap.size w hB (Nat.le_refl _) ?_; intro w2 HG2 hB2)
  have K2 : Has w2 w.heap.size 2 #[.int .i64 (-1), .int .i64 0, .int .i64 0, .int .i64 0] := HG2.out
  clear HG2 hB hA hS hsrc m4
  go_loopw [8] (fun n wr => Below w.heap.size w wr ∧ ((n = .int .i64 1 ∧ Has wr w.heap.size 2 #[.int .i64 (-1), .int .i64 0, .int .i64 0, .int .i64 0]) ∨ (n = .int .i64 2 ∧ Has wr w.heap.size 2 #[.int .i64 (-1), .int .i64 (-1), .int .i64 0, .int .i64 0]) ∨ (n = .int .i64 4 ∧ Has wr w.heap.size 2 #[.int .i64 (-1), .int .i64 (-1), .int .i64 (-1), .int .i64 (-1)]))) (fun n _ => 4 - (intOf n).toNat)
  case atStart => exact ⟨hB2, Or.inl ⟨rfl, K2⟩⟩
  case round =>
    clear K2 hB2
    obtain ⟨hB, ⟨rfl, K⟩ | ⟨rfl, K⟩ | ⟨rfl, K⟩⟩ := hrel
    · have hsrc : ∀ (j : Nat) (v : Value), ([Value.int .i64 (-1)])[j]? = some v → wr.drew.cell? ((⟨w.heap.size, 0, none⟩ : Addr).add j) = some v := fun j v hv => by
        rw [il.add0]
        have hc := K.cell j
        refine (show wr.drew.cell? _ = _ from hc).trans ?_
        match j, hv with
        | 0, hv => simpa using hv
      have hB' : Below w.heap.size w wr.drew := ⟨hB.os, hB.tape, hB.output, hB.size, hB.block⟩
      have K' : Has wr.drew w.heap.size 2 #[.int .i64 (-1), .int .i64 0, .int .i64 0, .int .i64 0] := K
      go_wp2_with fail
      go_region_law (refine step_copy_splice rfl (.tmp 41) (.tmp 44) 26 26 rfl 2 Tryd.underlying26 (by rw [hi]; simpa using hz1) (some ⟨w.heap.size, 1, none⟩) (some ⟨w.heap.size, 0, none⟩) 3 3 1 4 (by simp [Act.eval, Act.put]) (by simp [Act.eval, Act.put]) w.heap.size 1 [.int .i64 (-1), .int .i64 0, .int .i64 0, .int .i64 0] 2 K' [.int .i64 (-1)] rfl (fun h0 => ⟨rfl, _, rfl, hsrc⟩) (by simp) (by simp [Value.oneCell']) w.heap.size w hB' (Nat.le_refl _) ?_; intro w3 HG3 hB3)
      go_wp2_with fail
      go_roundw
      case rel => exact ⟨.int .i64 2, _, _, _, _, _, _, _, _, _, _, _, _, _, ⟨hB3, Or.inr (Or.inl ⟨rfl, HG3.out⟩)⟩, by simp [Act.put]; exact ⟨rfl, rfl, rfl, rfl, rfl, rfl, rfl, rfl, rfl, rfl, rfl, rfl, rfl⟩⟩
      case measure => simp [intOf, Act.put]
    · have hsrc : ∀ (j : Nat) (v : Value), ([Value.int .i64 (-1), .int .i64 (-1)])[j]? = some v → wr.drew.cell? ((⟨w.heap.size, 0, none⟩ : Addr).add j) = some v := fun j v hv => by
        rw [il.add0]
        have hc := K.cell j
        refine (show wr.drew.cell? _ = _ from hc).trans ?_
        match j, hv with
        | 0, hv => simpa using hv
        | 1, hv => simpa using hv
      have hB' : Below w.heap.size w wr.drew := ⟨hB.os, hB.tape, hB.output, hB.size, hB.block⟩
      have K' : Has wr.drew w.heap.size 2 #[.int .i64 (-1), .int .i64 (-1), .int .i64 0, .int .i64 0] := K
      go_wp2_with fail
      go_region_law (refine step_copy_splice rfl (.tmp 41) (.tmp 44) 26 26 rfl 2 Tryd.underlying26 (by rw [hi]; simpa using hz1) (some ⟨w.heap.size, 2, none⟩) (some ⟨w.heap.size, 0, none⟩) 2 2 2 4 (by simp [Act.eval, Act.put]) (by simp [Act.eval, Act.put]) w.heap.size 2 [.int .i64 (-1), .int .i64 (-1), .int .i64 0, .int .i64 0] 2 K' [.int .i64 (-1), .int .i64 (-1)] rfl (fun h0 => ⟨rfl, _, rfl, hsrc⟩) (by simp) (by simp [Value.oneCell']) w.heap.size w hB' (Nat.le_refl _) ?_; intro w3 HG3 hB3)
      go_wp2_with fail
      go_roundw
      case rel => exact ⟨.int .i64 4, _, _, _, _, _, _, _, _, _, _, _, _, _, ⟨hB3, Or.inr (Or.inr ⟨rfl, HG3.out⟩)⟩, by simp [Act.put]; exact ⟨rfl, rfl, rfl, rfl, rfl, rfl, rfl, rfl, rfl, rfl, rfl, rfl, rfl⟩⟩
      case measure => simp [intOf, Act.put]
    · go_wp2_with fail
      go_ret
      exact ⟨_, rfl, Nat.le_refl _, gr_of_below hB none, K⟩
end Go.Proofs.YtnkimjmpjnhlnaaDoor.se
