/- What came in: a bounce, a list of signs; read, copied into new memory, compared. -/
import Derived.Test.YtifafoghgnfioaaBncImpl
import Derived.Test.YtifafoghgnfioaaTabArg
import Derived.ChangeSame
import Derived.Deep.Grids
namespace Go.Proofs.Ytifafoghgnfioaa.bnc
open Go.ChangeShapes Go.WideShapes Go.ChangeAt Go.RowKit
open Go.Proofs.Ytifafoghgnfioaa.nums Go.Proofs.Ytifafoghgnfioaa.mem
open Go.Proofs.Ytifafoghgnfioaa.tab (Ret quiet_w wpList_make_has)
set_option linter.unusedVariables false

/-- The slice that came in holds these signs, each in a cell, in a block of the world. -/
def Arg (w : World) (a : Option Addr) (l : List Bool) : Prop :=
  ∀ k, k < l.length → ∃ x : Addr, a = some x ∧ x.block < w.heap.size ∧ w.cell? (x.add k) = some (.bool (l.getD k false))
theorem Arg.kept {w w' : World} {a : Option Addr} {l : List Bool} (h : Arg w a l) (hg : w.grownBy w' none) : Arg w' a l := by
  intro k hk
  obtain ⟨x, e, hb, h1⟩ := h k hk
  refine ⟨x, e, Nat.lt_of_lt_of_le hb hg.size, ?_⟩
  rw [← h1]; exact World.cell?_of_block (hg.block _ (by rw [block_add]; omega) (by simp))

theorem open_signs {H : Type} {enc : TypeId × Value → H} {w : World} {base : Nat} {held : Bool} {a : Option Addr} {len cap : Nat} {d : DataW H} {p : List MemPlace}
    (h : DataW.Trod enc Try.prog w base (fun _ => true) held 29 (.slice a len cap) d p) : ∃ l : List Bool, l.length = len ∧ l.length ≤ maxLen ∧ Arg w a l := by
  obtain ⟨fuel, hf⟩ := h
  rcases Go.Deep.open_bools Try.underlying29 Try.underlying4 (by kernel_rfl) hf with ⟨hcs, _⟩ | ⟨x, l, c, B, hcs, hb, hl, hm, _, hc⟩
  · simp [Value.cells] at hcs
    obtain ⟨rfl, rfl, rfl⟩ := hcs
    exact ⟨[], rfl, Nat.zero_le _, fun k hk => by simp at hk⟩
  · simp [Value.cells] at hcs
    obtain ⟨rfl, rfl, rfl⟩ := hcs
    refine ⟨(List.range len).map B, by simp, by simp; omega, fun k hk => ?_⟩
    have hk' : k < len := by simpa using hk
    have c0 := hc k (by omega)
    have g : ((List.range len).map B).getD k false = B k := by simp [List.getD, hk']
    refine ⟨x, rfl, ?_, by rw [g, c0]⟩
    by_cases hbk : x.block < w.heap.size
    · exact hbk
    · have hn : w.heap[(x.add k).block]? = none := by rw [block_add]; exact Array.getElem?_eq_none (by omega)
      simp [World.cell?, hn] at c0

theorem open_bounce {H : Type} {enc : TypeId × Value → H} {w : World} {r : Reach} {b0 base : Nat} {spare : Nat → Bool} {held : Bool} {v : Value} {d : DataW H} {p : List MemPlace}
    (hval : Value.okWide Try.prog w r b0 34 v) (h : DataW.Trod enc Try.prog w base spare held 34 v d p) : ∃ (N : Int) (on : Bool), v = .agg #[.int .i64 N, .bool on] ∧ (Lit.int .i64 N).wf = true := by
  obtain ⟨cs, rfl, hs⟩ := okWide_struct Try.underlying34 hval
  obtain ⟨fuel, hf⟩ := h
  have h2 : Try.prog.cellsOf 34 = 2 := by kernel_rfl
  rw [h2] at hs
  obtain ⟨y0, y1, n, _, hl, t0, t1⟩ := trod_struct2 Try.underlying34 hf
  obtain ⟨z, e0, _, hw⟩ := DataW.trod_int Try.underlying2 t0
  obtain ⟨o, e1, _⟩ := DataW.trod_bool Try.underlying4 t1
  have c1 : Try.prog.cellsOf 2 = 1 := by kernel_rfl
  have c2 : Try.prog.cellsOf 4 = 1 := by kernel_rfl
  obtain ⟨l⟩ := cs
  match l, hs with
  | [x, y], _ =>
    simp [Value.cells, c1, c2] at e0 e1
    refine ⟨z, o, ?_, hw⟩
    rw [e0, e1]

set_option maxHeartbeats 1000000 in
theorem toBounce (N : Int) (on : Bool) (w : World) : Calls Try.prog 16 #[.agg #[.int .i64 N, .bool on]] w (RetB (N, on) w) := by
  go_enter Try.func16, Try.ntmps16
  go_wp2
  exact bodyPost_ret (v := .agg #[.int .i64 N, .bool on]) (by simp [results, Try.results16, go_sem]) rfl ⟨rfl, gr_alloc (gr_alloc (World.grownBy_alloc _ _ _) _) _⟩

theorem eqBounce (N : Int) (on : Bool) (w : World) : Calls Try.prog 17 #[.agg #[.int .i64 N, .bool on], .agg #[.int .i64 N, .bool on]] w (Ret (.bool true) w) := by
  go_enter Try.func17, Try.ntmps17
  go_wp2
  go_ret
  exact ⟨rfl, gr_alloc (World.grownBy_alloc _ _ _) _⟩

theorem infoBool : (Try.prog.info? 4).map (fun i => (i.zero, i.size, i.bytes)) = some (some (.bool false), 1, 1) := by kernel_rfl

/-- A copy: a new block that holds the signs; of what was there nothing is another. -/
def Copied (l : List Bool) (w : World) (e : Ending) (w' : World) : Prop := ∃ g, e = .returned (.slice (some ⟨g, 0, none⟩) l.length l.length) ∧ w.heap.size ≤ g ∧ w.grownBy w' none ∧ Bs w' g l

set_option maxHeartbeats 1000000 in
theorem toSigns (a : Option Addr) (cap : Nat) (l : List Bool) (w : World) (h : Arg w a l) (hl : l.length ≤ 1048576) : Calls Try.prog 18 #[.slice a l.length cap] w (Copied l w) := by
  obtain ⟨i0, hi, hz0, hz1, hz2⟩ := info_parts infoBool
  go_enter Try.func18, Try.ntmps18
  go_wp2_with (at_make; refine wpList_make_has _ rfl _ _ _ rfl 4 i0 _ 1 Try.underlying29 hi hz0 hz1 .i64 .i64 _ _ l.length rfl rfl rfl rfl (by rw [hz2]; omega) (by unfold maxLen; omega) ?_)
  have hA0 := Has.fresh w 4 (madeCells #[.bool false] l.length)
  go_loopw [4] (fun i wr => ∃ (k : Nat) (A : Array Value), k ≤ l.length ∧ i = .int .i64 k ∧ Has wr w.heap.size 4 A ∧ Hid (A.size = l.length) ∧ Hid (∀ j, j < k → A[j]? = some (.bool (l.getD j false))) ∧ w.grownBy wr none) (fun i _ => l.length - (intOf i).toNat)
  case atStart => exact ⟨0, _, Nat.zero_le _, rfl, hA0, Lib.hid (size_madeCells _ _), Lib.hid (fun j hj => by omega), World.grownBy_alloc _ _ _⟩
  case round =>
    obtain ⟨k, A, hk, rfl, hA, hs, hr, hg⟩ := hrel
    by_cases hlt : k < l.length
    · obtain ⟨x, rfl, hb, cx⟩ := (h.kept hg) k hlt
      obtain ⟨v0, e0⟩ : ∃ v, A[k]? = some v := ⟨_, Array.getElem?_eq_getElem (by have := hs.out; omega)⟩
      have d0 := (hA.cell k).trans e0
      have g0 := hA.frozen k
      clear e0
      go_wp2_with fail
      go_roundw
      case rel => exact ⟨k + 1, _, by omega, by go_num, hA.set _ _, Lib.hid (by simpa using hs.out), Lib.hid (fun j hj => by
        have hs' := hs.out
        by_cases e : j = k
        · subst e
          simp [List.getD, hlt, hs']
        · have e0 := hr.out j (by omega)
          rw [Array.getElem?_setIfInBounds_ne (by omega)]; exact e0), gr_new hg (Nat.le_refl _) _ _⟩
      case measure => simp [intOf]; omega
    · obtain rfl : k = l.length := by omega
      go_wp2_with fail
      go_ret
      refine ⟨_, rfl, Nat.le_refl _, hg, hA.lt, fun j hj => ?_⟩
      exact (hA.cell _).trans (hr.out j hj)

set_option maxHeartbeats 1000000 in
theorem eqSigns (g g' cap cap' : Nat) (l : List Bool) (w : World) (h : Bs w g l) (h' : Bs w g' l) (hl : l.length ≤ 1048576) :
    Calls Try.prog 19 #[.slice (some ⟨g, 0, none⟩) l.length cap, .slice (some ⟨g', 0, none⟩) l.length cap'] w (Ret (.bool true) w) := by
  go_enter Try.func19, Try.ntmps19
  go_wp2
  go_loopw [5] (fun i wr => ∃ k : Nat, k ≤ l.length ∧ i = .int .i64 k ∧ w.grownBy wr none) (fun i _ => l.length - (intOf i).toNat)
  case atStart => exact ⟨0, Nat.zero_le _, rfl, gr_refl _ _⟩
  case round =>
    obtain ⟨k, hk, rfl, hg⟩ := hrel
    by_cases hlt : k < l.length
    · have cx := (h.kept hg).2 k hlt
      have dx := (h'.kept hg).2 k hlt
      go_wp2_with fail
      go_quiet (fail)
      go_wp2_with fail
      go_roundw
      case rel => exact ⟨k + 1, by omega, by go_num, gr_drewN hg _⟩
      case measure => simp [intOf]; omega
    · obtain rfl : k = l.length := by omega
      go_wp2_with fail
      go_ret
      exact ⟨rfl, hg⟩
end Go.Proofs.Ytifafoghgnfioaa.bnc
