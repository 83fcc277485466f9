/- NewSenses of both sides. -/
import Derived.Test.YtdikhdfpcipdbaaGreatDoorSeOk
import Derived.Test.YtdikhdfpcipdbaaGreatDoorSeCopy
namespace Go.Proofs.YtdikhdfpcipdbaaGreatDoor.se
open Go.ChangeShapes Go.WideShapes Go.ChangeAt Go.RowKit
open Go.Proofs.YtdikhdfpcipdbaaGreatDoor.nums Go.Proofs.YtdikhdfpcipdbaaGreatDoor.mem
open Go.Proofs.YtdikhdfpcipdbaaGreatDoor.tab (Ret)
open Go.Proofs.YtdikhdfpcipdbaaGreatDoor.rd (R okR zR OwnR rx ra ro)
open Go.Proofs.YtdikhdfpcipdbaaGreatDoor.il (nth Ints Own)
set_option linter.unusedVariables false

def zr (n : Nat) : List R := List.replicate n zR
def newS : S := ⟨zr 3, zr 2, zr 6, 0, false, [-1, -1, -1, -1]⟩

/-- So many zero readings in a block. -/
def zrow (n : Nat) : Array Value := madeCells (Value.cells (.agg #[.int .i64 0, .int .i64 0, .bool false])) (n * 3)
theorem run_mk (n : Nat) (hn : n ≤ 100) (W : World) : (Instr.makeSlice 24 (.int .i64 n) (.int .i64 n)).run Tryz.prog W = .ok (.slice (some ⟨W.heap.size, 0, none⟩) n n) (W.alloc (.cells (zrow n) 42)) := by
  obtain ⟨i0, hi, hz0, hz1, hz2⟩ := info_parts rd.infoReading
  have h := run_make (P := Tryz.prog) W 24 42 i0 _ Tryz.underlying24 hi hz0 .i64 .i64 n n (by omega) (by omega) (by rw [hz2]; omega) (by omega)
  rw [h, hz1]; rfl

theorem Has.freshAt (X : World) (t : TypeId) (cs : Array Value) (n : Nat) (h : X.heap.size = n) : Has (X.alloc (.cells cs t)) n t cs := h ▸ Has.fresh X t cs
theorem Has.drew1 {w : World} {g : Nat} {t : TypeId} {cs : Array Value} (h : Has w g t cs) : Has w.drew g t cs := h
theorem gr_drew1 {a w : World} {row : Option Nat} (h : a.grownBy w row) : a.grownBy w.drew row := gr_drewN h 1
theorem rx_zr {n k : Nat} (h : k < n) : (zr n).getD k zR = zR := by simp [zr, List.getD, h]
theorem zrow_at {n k : Nat} (h : k < n) : (zrow n)[k * 3]? = some (.int .i64 0) ∧ (zrow n)[k * 3 + 1]? = some (.int .i64 0) ∧ (zrow n)[k * 3 + 2]? = some (.bool false) := by
  unfold zrow madeCells
  refine ⟨?_, ?_, ?_⟩
  · rw [Array.getElem?_map, Array.getElem?_range]
    simp [Value.cells, show k * 3 < n * 3 by omega]
  · rw [Array.getElem?_map, Array.getElem?_range]
    have : (k * 3 + 1) % 3 = 1 := by omega
    simp [Value.cells, show k * 3 + 1 < n * 3 by omega, this]
  · rw [Array.getElem?_map, Array.getElem?_range]
    have : (k * 3 + 2) % 3 = 2 := by omega
    simp [Value.cells, show k * 3 + 2 < n * 3 by omega, this]
theorem own_zr {W : World} {b n : Nat} (h : Has W b 42 (zrow n)) : OwnR W (some ⟨b, 0, none⟩) (zr n) :=
  Or.inr ⟨b, _, rfl, h, fun k hk => by
    have hk' : k < n := by simpa [zr] using hk
    have e := rx_zr hk'
    have e1 : rd.rx (zr n) k = 0 := by unfold rd.rx; rw [e]; rfl
    have e2 : rd.ra (zr n) k = 0 := by unfold rd.ra; rw [e]; rfl
    have e3 : rd.ro (zr n) k = false := by unfold rd.ro; rw [e]; rfl
    rw [e1, e2, e3]
    exact zrow_at hk'⟩
theorem own_q {W : World} {b : Nat} {cs : Array Value} (h : Has W b 2 cs) (hc : cs = #[.int .i64 (-1), .int .i64 (-1), .int .i64 (-1), .int .i64 (-1)]) : Own W (some ⟨b, 0, none⟩) [-1, -1, -1, -1] := by
  subst hc
  refine Or.inr ⟨b, 0, _, rfl, h, fun k hk => ?_⟩
  have : k = 0 ∨ k = 1 ∨ k = 2 ∨ k = 3 := by simp at hk; omega
  rcases this with rfl | rfl | rfl | rfl <;> rfl
theorem own_new (w W : World) (b1 b2 b3 b4 c1 c2 c3 c4 : Nat) (H1 : Has W b1 42 (zrow 3)) (H2 : Has W b2 42 (zrow 2)) (H3 : Has W b3 42 (zrow 6)) (H4 : Own W (some ⟨b4, 0, none⟩) [-1, -1, -1, -1])
    (n : (b1 ≠ b2 ∧ b1 ≠ b3 ∧ b2 ≠ b3) ∧ w.heap.size ≤ b1 ∧ w.heap.size ≤ b2 ∧ w.heap.size ≤ b3 ∧ w.heap.size ≤ b4) : OwnS w.heap.size W newS ⟨some ⟨b1, 0, none⟩, c1, some ⟨b2, 0, none⟩, c2, some ⟨b3, 0, none⟩, c3, some ⟨b4, 0, none⟩, c4⟩ := by
  obtain ⟨⟨n1, n2, n3⟩, l1, l2, l3, l4⟩ := n
  exact ⟨own_zr H1, own_zr H2, own_zr H3, H4, (fun x e => by cases e; exact l1), (fun x e => by cases e; exact l2), (fun x e => by cases e; exact l3), (fun x e => by cases e; exact l4), (fun x y ex ey => by cases ex; cases ey; exact n1), (fun x y ex ey => by cases ex; cases ey; exact n2), (fun x y ex ey => by cases ex; cases ey; exact n3)⟩
theorem spec_end (w W : World) (b1 b2 b3 b4 : Nat) (v : Value) (K : Has W w.heap.size 27 #[.slice (some ⟨b1, 0, none⟩) 3 3, .slice (some ⟨b2, 0, none⟩) 2 2, .slice (some ⟨b3, 0, none⟩) 6 6, .int .i64 0, .bool false, .slice (some ⟨b4, 0, none⟩) 4 4])
    (H1 : Has W b1 42 (zrow 3)) (H2 : Has W b2 42 (zrow 2)) (H3 : Has W b3 42 (zrow 6)) (H4 : Has W b4 2 #[.int .i64 (-1), .int .i64 (-1), .int .i64 (-1), .int .i64 (-1)])
    (n : (b1 ≠ b2 ∧ b1 ≠ b3 ∧ b2 ≠ b3) ∧ w.heap.size ≤ b1 ∧ w.heap.size ≤ b2 ∧ w.heap.size ≤ b3 ∧ w.heap.size ≤ b4) (hg : w.grownBy W none) :
    bodyPost Tryz.prog Tryz.f16 (RetS newS w) Exit.ret { tmps := #[.pointer (some ⟨w.heap.size, 0, none⟩), .slice (some ⟨b1, 0, none⟩) 3 3, .slice (some ⟨b2, 0, none⟩) 2 2, .slice (some ⟨b3, 0, none⟩) 6 6, .slice (some ⟨b4, 0, none⟩) 4 4, v], defers := [] } W := by
  obtain ⟨⟨u0, u1, u2⟩, u3, u4, u5⟩ := six K
  exact bodyPost_ret (v := sv newS ⟨some ⟨b1, 0, none⟩, 3, some ⟨b2, 0, none⟩, 2, some ⟨b3, 0, none⟩, 6, some ⟨b4, 0, none⟩, 4⟩) (by simp [results, Tryz.results16, go_sem, u0, u1, u2, u3, u4, u5, newS, zr]) rfl ⟨_, rfl, hg, own_new w W b1 b2 b3 b4 3 2 6 4 H1 H2 H3 (own_q H4 rfl) n⟩

set_option maxHeartbeats 4000000 in
theorem specNew (w : World) : Calls Tryz.prog 16 #[] w (RetS newS w) := by
  have k0 := Has.fresh w 27 #[.slice none 0 0, .slice none 0 0, .slice none 0 0, .int .i64 0, .bool false, .slice none 0 0]
  obtain ⟨⟨f0, f1, f2⟩, f3, f4, f5⟩ := free6 k0
  obtain ⟨⟨d0, d1, d2⟩, d3, d4, d5⟩ := six k0
  have m3 : ∀ W, (Instr.makeSlice 24 (.int .i64 3) (.int .i64 3)).run Tryz.prog W = .ok (.slice (some ⟨W.heap.size, 0, none⟩) 3 3) (W.alloc (.cells (zrow 3) 42)) := run_mk 3 (by omega)
  have m2 : ∀ W, (Instr.makeSlice 24 (.int .i64 2) (.int .i64 2)).run Tryz.prog W = .ok (.slice (some ⟨W.heap.size, 0, none⟩) 2 2) (W.alloc (.cells (zrow 2) 42)) := run_mk 2 (by omega)
  have m6 : ∀ W, (Instr.makeSlice 24 (.int .i64 6) (.int .i64 6)).run Tryz.prog W = .ok (.slice (some ⟨W.heap.size, 0, none⟩) 6 6) (W.alloc (.cells (zrow 6) 42)) := run_mk 6 (by omega)
  go_enter Tryz.func16, Tryz.ntmps16
  go_wp2_with fail
  clear k0 f0 f1 f2 f3 f4 f5 d0 d1 d2 d3 d4 d5
  go_big_region
  all_goals go_wp2_with fail
  all_goals refine spec_end w _ _ _ _ _ _ ?_ ?_ ?_ ?_ ?_ ?_ ?_
  all_goals first | (refine Has.drew1 ?_; repeat (first | exact Has.freshAt _ _ _ _ (by simp) | refine Has.alloc ?_ _)) | (refine gr_drew1 ?_; repeat (first | exact World.grownBy_alloc _ _ _ | refine gr_alloc ?_ _)) | omega
end Go.Proofs.YtdikhdfpcipdbaaGreatDoor.se
