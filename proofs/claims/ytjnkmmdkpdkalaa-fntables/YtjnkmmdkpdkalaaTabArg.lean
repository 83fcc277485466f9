/- A list of points that came in: read, copied into new memory, compared; its bulk. -/
import Derived.Test.YtjnkmmdkpdkalaaTabMem
import Derived.OwnWalk
import Derived.Deep.SlicePairs
import Derived.Laws.MakeOwn
namespace Go.Proofs.Ytjnkmmdkpdkalaa.tab
open Go.ChangeShapes Go.WideShapes Go.ChangeAt Go.RowKit
open Go.Proofs.Ytjnkmmdkpdkalaa.nums Go.Proofs.Ytjnkmmdkpdkalaa.mem
set_option linter.unusedVariables false

/-- The slice that came in holds these points, each of its two numbers in a cell, in a block of the world. -/
def Arg (w : World) (a : Option Addr) (ps : Pts) : Prop :=
  ∀ k, k < ps.length → ∃ x : Addr, a = some x ∧ x.block < w.heap.size ∧ w.cell? (x.add (k * 2)) = some (.int .i64 (px ps k)) ∧ w.cell? ⟨(x.add (k * 2)).block, (x.add (k * 2)).off + 1, none⟩ = some (.int .i64 (py ps k))
theorem add_off (x : Addr) (m j : Nat) : x.add (m + (j + 1)) = ⟨(x.add m).block, (x.add m).off + (j + 1), none⟩ := by
  unfold Addr.add
  by_cases hm : m = 0 <;> simp [hm, Nat.add_assoc]
theorem block_add (a : Addr) (n : Nat) : (a.add n).block = a.block := by unfold Addr.add; split <;> rfl
theorem Arg.kept {w w' : World} {a : Option Addr} {ps : Pts} (h : Arg w a ps) (hg : w.grownBy w' none) : Arg w' a ps := by
  intro k hk
  obtain ⟨x, e, hb, h1, h2⟩ := h k hk
  refine ⟨x, e, Nat.lt_of_lt_of_le hb hg.size, ?_, ?_⟩
  · rw [← h1]; exact World.cell?_of_block (hg.block _ (by rw [block_add]; omega) (by simp))
  · rw [← h2]; exact World.cell?_of_block (hg.block _ (by show (x.add (k * 2)).block < _; rw [block_add]; omega) (by simp))

theorem open_points {H : Type} {enc : TypeId × Value → H} {w : World} {base : Nat} {spare : Nat → Bool} {held : Bool} {a : Option Addr} {len cap : Nat} {d : DataW H} {p : List MemPlace}
    (h : DataW.Trod enc Try.prog w base spare held 32 (.slice a len cap) d p) : ∃ ps : Pts, ps.length = len ∧ ps.length ≤ maxLen ∧ Arg w a ps := by
  obtain ⟨fuel, hf⟩ := h
  rcases Go.Deep.open_slice_pairs Try.underlying32 Try.underlying52 (by kernel_rfl) rfl rfl (by kernel_rfl) (by kernel_rfl) hf with ⟨hcs, _⟩ | ⟨x, l, c, m, n, V0, V1, D0, D1, P0, P1, hcs, hb, hl, hm, hmm, _, hc⟩
  · simp [Value.cells] at hcs
    obtain ⟨rfl, rfl, rfl⟩ := hcs
    exact ⟨[], rfl, Nat.zero_le _, fun k hk => by simp at hk⟩
  · simp [Value.cells] at hcs
    obtain ⟨rfl, rfl, rfl⟩ := hcs
    have hlm : len ≤ m := by rw [hmm]; split <;> omega
    have hv : ∀ i, i < len → ∃ z0 z1 : Int, V0 i = .int .i64 z0 ∧ V1 i = .int .i64 z1 := fun i hi => by
      obtain ⟨_, _, h0, h1⟩ := hc i (by omega)
      obtain ⟨z0, e0, _⟩ := DataW.trod_int Try.underlying2 h0
      obtain ⟨z1, e1, _⟩ := DataW.trod_int Try.underlying2 h1
      exact ⟨z0, z1, by simpa using e0, by simpa using e1⟩
    refine ⟨(List.range len).map fun i => (intOf (V0 i), intOf (V1 i)), by simp, by simp; omega, fun k hk => ?_⟩
    have hk' : k < len := by simpa using hk
    obtain ⟨c0, c1, _, _⟩ := hc k (by omega)
    obtain ⟨z0, z1, e0, e1⟩ := hv k hk'
    have g : ((List.range len).map fun i => (intOf (V0 i), intOf (V1 i))).getD k (0, 0) = (intOf (V0 k), intOf (V1 k)) := by simp [List.getD, hk']
    refine ⟨x, rfl, ?_, ?_, ?_⟩
    · by_cases hbk : x.block < w.heap.size
      · exact hbk
      · have hn : w.heap[(x.add (k * 2)).block]? = none := by rw [block_add]; exact Array.getElem?_eq_none (by omega)
        simp [World.cell?, hn] at c0
    · unfold px; rw [g, c0, e0]; rfl
    · unfold py; rw [g, ← add_off x (k * 2) 0, c1, e1]; rfl

/-- The bulk: what is left of it. -/
theorem szPoints (a : Option Addr) (len cap : Nat) (w : World) (hl : len ≤ maxLen) :
    Calls Try.prog 18 #[.slice a len cap, .int .i64 1048576] w fun e w' => e = .returned (.int .i64 (if len ≤ 1048576 then 1048576 - (len : Int) else -1)) ∧ w = w' := by
  unfold maxLen at hl
  by_cases h : len ≤ 1048576
  · rw [if_pos h]
    go_enter Try.func18, Try.ntmps18
    go_wp2
    go_ret
    exact ⟨rfl, rfl⟩
  · rw [if_neg h]
    go_enter Try.func18, Try.ntmps18
    go_wp2
    go_ret
    exact ⟨rfl, rfl⟩

set_option maxHeartbeats 1000000 in
theorem toPoint (x y : Int) (w : World) : Calls Try.prog 32 #[.agg #[.int .i64 x, .int .i64 y]] w (Ret (.agg #[.int .i64 x, .int .i64 y]) w) := by
  go_enter Try.func32, Try.ntmps32
  go_wp2
  exact bodyPost_ret (v := .agg #[.int .i64 x, .int .i64 y]) (by simp [results, Try.results32, go_sem]) rfl ⟨rfl, gr_alloc (gr_alloc (World.grownBy_alloc _ _ _) _) _⟩

theorem wpList_make_has {P : Program} (w : World) {ops : Array Oper} {rest : List Oper} {o : Oper} {a : Act} {Q : Exit → Act → World → Prop}
    (hg : o.guard = none) (l c : Operand) (t : TypeId) (hop : o.op = Op.makeSlice t l c)
    (e : TypeId) (i : TypeInfo) (z : Value) (size : Nat) (h1 : P.underlying t = some (.slice e)) (h2 : P.info? e = some i) (h3 : i.zero = some z) (h4 : i.size = size)
    (kl kc : IntKind) (L C : Int) (n : Nat) (hl : a.eval l = .int kl L) (hc : a.eval c = .int kc C) (hL : L = (n : Int)) (hC : C = (n : Int)) (b2 : i.bytes * n ≤ 281474976710656) (b3 : n ≤ maxLen)
    (hK : wpList P ops Q rest (a.put o.dst (.slice (some ⟨w.heap.size, 0, none⟩) n n)) (w.alloc (.cells (madeCells z.cells (n * size)) e))) :
    wpList P ops Q (o :: rest) a w := by
  refine wpList_plain hg fun K hK' => ?_
  subst hL
  subst hC
  subst h4
  have b2' : (i.bytes : Int) * (n : Int) ≤ 281474976710656 := by
    have h : ((i.bytes * n : Nat) : Int) ≤ 281474976710656 := by omega
    rwa [Int.natCast_mul] at h
  unfold maxLen at b3
  have hr := run_make (P := P) w t e i z h1 h2 h3 kl kc n n (by omega) (Int.le_refl _) b2' (by omega)
  simp only [Int.toNat_natCast] at hr
  unfold Oper.wp
  simp [execOp, hop, hl, hc, hr, Result.andThen]
  exact hK' _ _ hK

theorem infoPoint : (Try.prog.info? 31).map (fun i => (i.zero, i.size, i.bytes)) = some (some (.agg #[.int .i64 0, .int .i64 0]), 2, 16) := by kernel_rfl

/-- A copy: a new block that holds the points; of what was there nothing is another. -/
def Copied (ps : Pts) (w : World) (e : Ending) (w' : World) : Prop := ∃ g, e = .returned (.slice (some ⟨g, 0, none⟩) ps.length ps.length) ∧ w.heap.size ≤ g ∧ w.grownBy w' none ∧ Tab w' g ps

set_option maxHeartbeats 1000000 in
theorem toPoints (a : Option Addr) (cap : Nat) (ps : Pts) (w : World) (h : Arg w a ps) (hl : ps.length ≤ 1048576) : Calls Try.prog 19 #[.slice a ps.length cap] w (Copied ps w) := by
  obtain ⟨i0, hi, hz0, hz1, hz2⟩ := info_parts infoPoint
  go_enter Try.func19, Try.ntmps19
  go_wp2_with (at_make; refine wpList_make_has _ rfl _ _ _ rfl 31 i0 _ 2 Try.underlying24 hi hz0 hz1 .i64 .i64 _ _ ps.length rfl rfl rfl rfl (by rw [hz2]; omega) (by unfold maxLen; omega) ?_)
  have hA0 := Has.fresh w 31 (madeCells (Value.cells (.agg #[.int .i64 0, .int .i64 0])) (ps.length * 2))
  go_loopw [4] (fun i wr => ∃ (k : Nat) (A : Array Value), k ≤ ps.length ∧ i = .int .i64 k ∧ Has wr w.heap.size 31 A ∧ Hid (A.size = ps.length * 2) ∧ Hid (∀ j, j < k → A[j * 2]? = some (.int .i64 (px ps j)) ∧ A[j * 2 + 1]? = some (.int .i64 (py ps j))) ∧ w.grownBy wr none) (fun i _ => ps.length - (intOf i).toNat)
  case atStart => exact ⟨0, _, Nat.zero_le _, rfl, hA0, Lib.hid (size_madeCells _ _), Lib.hid (fun j hj => by omega), World.grownBy_alloc _ _ _⟩
  case round =>
    obtain ⟨k, A, hk, rfl, hA, hs, hr, hg⟩ := hrel
    by_cases hlt : k < ps.length
    · obtain ⟨x, rfl, hb, cx, cy⟩ := (h.kept hg) k hlt
      go_wp2_with fail
      refine (toPoint _ _ _).mono ?_
      rintro e w1 ⟨rfl, hg1⟩
      have hA1 := hA.grown hg1 (by simp)
      obtain ⟨v0, e0⟩ : ∃ v, A[k * 2]? = some v := ⟨_, Array.getElem?_eq_getElem (by have := hs.out; omega)⟩
      obtain ⟨v1, e1⟩ : ∃ v, A[k * 2 + 1]? = some v := ⟨_, Array.getElem?_eq_getElem (by have := hs.out; omega)⟩
      have d0 := (hA1.cell (k * 2)).trans e0
      have d1 := (hA1.cell (k * 2 + 1)).trans e1
      have g0 := hA1.frozen (k * 2)
      have g1 := hA1.frozen (k * 2 + 1)
      clear e0 e1
      go_wp2_with fail
      go_roundw
      case rel => exact ⟨k + 1, _, by omega, by go_num, (hA1.set _ _).set _ _, Lib.hid (by simpa using hs.out), Lib.hid (fun j hj => by
        have hs' := hs.out
        by_cases e : j = k
        · subst e
          exact ⟨by simp [Array.getElem?_setIfInBounds]; omega, by simp [Array.getElem?_setIfInBounds]; omega⟩
        · obtain ⟨e0, e1⟩ := hr.out j (by omega)
          exact ⟨by rw [Array.getElem?_setIfInBounds_ne (by omega), Array.getElem?_setIfInBounds_ne (by omega)]; exact e0, by rw [Array.getElem?_setIfInBounds_ne (by omega), Array.getElem?_setIfInBounds_ne (by omega)]; exact e1⟩), gr_new (gr_new (gr_trans hg hg1) (Nat.le_refl _) _ _) (Nat.le_refl _) _ _⟩
      case measure => simp [intOf]; omega
    · obtain rfl : k = ps.length := by omega
      go_wp2_with fail
      go_ret
      refine ⟨_, rfl, Nat.le_refl _, hg, hA.lt, fun j hj => ?_⟩
      obtain ⟨e0, e1⟩ := hr.out j hj
      exact ⟨(hA.cell _).trans e0, (hA.cell _).trans e1⟩
end Go.Proofs.Ytjnkmmdkpdkalaa.tab
