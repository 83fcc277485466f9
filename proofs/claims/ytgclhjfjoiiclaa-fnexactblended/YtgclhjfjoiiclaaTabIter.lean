/- The iterator of chapter 2: it gives each point with the one behind it, whatever the loop's body does that leaves the table. -/
import Derived.Test.YtgclhjfjoiiclaaTabMem
import Derived.Test.YtgclhjfjoiiclaaWideTail
import Derived.RangeFuncNested
import Derived.RangeFuncBound
import Derived.RangeFuncCalls
import Derived.RangeFuncLeaves
import Derived.Shelf.Abstract
import Derived.Shelf.RegionOpen
import Derived.WalkKit
import Derived.OwnWalkIn
import Derived.TacticsInMore
import Derived.LoopNIn
import Derived.LoopIn
namespace Go.Proofs.Ytgclhjfjoiiclaa.tab
open Go.RowKit Go.Shelf
open Go.Proofs.Ytgclhjfjoiiclaa.nums Go.Proofs.Ytgclhjfjoiiclaa.mem
set_option linter.unusedVariables false
attribute [local go_sem] Oper.semAt_some

/-- Blocks a and b lie as they lay. -/
def Kp2 (a b : Nat) (W W' : World) : Prop := W.heap.size ≤ W'.heap.size ∧ W'.heap[a]? = W.heap[a]? ∧ W'.heap[b]? = W.heap[b]?
theorem Kp2.refl (a b : Nat) (W : World) : Kp2 a b W W := ⟨Nat.le_refl _, rfl, rfl⟩
theorem Kp2.trans {a b : Nat} {A B C : World} (h : Kp2 a b A B) (k : Kp2 a b B C) : Kp2 a b A C := ⟨Nat.le_trans h.1 k.1, k.2.1.trans h.2.1, k.2.2.trans h.2.2⟩
theorem Kp2.grown {a b : Nat} {W W' : World} {row : Option Nat} (hg : W.grownBy W' row) (ha : a < W.heap.size) (hb : b < W.heap.size) (h1 : some a ≠ row) (h2 : some b ≠ row) : Kp2 a b W W' := ⟨hg.size, hg.block a ha h1, hg.block b hb h2⟩
theorem kp2_b {a b : Nat} {w : World} (ha : a < w.heap.size) (hb : b < w.heap.size) (W : World) (l : Nat) (o o' : Obj) (hl : w.heap.size ≤ l) (h : W.heap[l]? = some o) (_ : o.isCells = false) (_ : o.isWalk = false) : Kp2 a b W (W.putObj l o') := by
  have hlt := (Array.getElem?_eq_some_iff.1 h).1
  exact Kp2.grown (grownBy_putObj' W l o') (by omega) (by omega) (fun e => by injection e with e; omega) (fun e => by injection e with e; omega)
theorem Kp2.tab {a b : Nat} {W W' : World} {ps : Pts} (h : Kp2 a b W W') (ht : Tab W a ps) : Tab W' a ps := by
  refine ⟨Nat.lt_of_lt_of_le ht.1 h.1, fun k hk => ?_⟩
  obtain ⟨h1, h2⟩ := ht.2 k hk
  exact ⟨(World.cell?_of_block (a := ⟨a, k * 2, none⟩) h.2.1).trans h1, (World.cell?_of_block (a := ⟨a, k * 2 + 1, none⟩) h.2.1).trans h2⟩
theorem Kp2.cell {a b : Nat} {W W' : World} {v : Value} (h : Kp2 a b W W') (hc : W.cell? ⟨b, 0, none⟩ = some v) : W'.cell? ⟨b, 0, none⟩ = some v := (World.cell?_of_block (a := ⟨b, 0, none⟩) h.2.2).trans hc

/-- A point as a value. -/
def ptv (ps : Pts) (k : Nat) : Value := .agg #[.int .i64 (px ps k), .int .i64 (py ps k)]
theorem range_snoc (k : Nat) : List.range (k + 1) = List.range k ++ [k] := List.range_succ

set_option maxRecDepth 100000 in
set_option maxHeartbeats 2000000 in
theorem pairs1_in (F : Fence) (n : Nat) (h6 : F.fn 66) (hro : F.round = none) (hF : Hid (F = Fence.wide)) (hn : 1 ≤ n) (l Bs g cap : Nat) (ps : Pts) (hl : ps.length ≤ 1048576) (J Jx : List Nat → World → Prop)
    (hJ : ∀ pre W, J pre W → J pre W.drew)
    (hY : ∀ pre x W, J pre W → pre.length < ps.length - 1 → YieldAt F (n - 1) Try.prog l #[ptv ps x, ptv ps (x + 1)] W fun e W' =>
      (e = .returned (.bool true) ∧ J (pre ++ [x]) W' ∧ Kp2 g Bs W W') ∨ (e = .returned (.bool false) ∧ Jx (pre ++ [x]) W'))
    (W : World) (hBs : W.cell? ⟨Bs, 0, none⟩ = some (.slice (some ⟨g, 0, none⟩) ps.length cap)) (hT : Tab W g ps) (h0 : J [] W) :
    CallsIn F n Try.prog 66 #[.func (.yield l) #[] #[], .pointer (some ⟨Bs, 0, none⟩)] W fun e W' => (∃ v, e = .returned v) ∧
      ((∃ ys, ys = List.range (ps.length - 1) ∧ J ys W') ∨ (∃ pre, (∃ k, k + 1 < ps.length ∧ pre = List.range (k + 1)) ∧ Jx pre W')) := by
  refine callsIn_of_wp Try.func66 rfl h6 ?_ hro
  simp only [Try.ntmps66, List.size_toArray, List.length_cons, List.length_nil, Nat.reduceAdd, Nat.reduceSub, Array.replicate_succ, Array.replicate_zero, List.push_toArray, List.append_toArray, List.nil_append, List.cons_append]
  gi_wp2
  gi_loopw [3] (fun i wr => ∃ k : Nat, k ≤ ps.length - 1 ∧ i = .int .i64 ((k + 1 : Nat) : Int) ∧ J (List.range k) wr ∧ Kp2 g Bs W wr)
    (fun i _ => ps.length - (intOf i).toNat)
  case atStart => exact ⟨0, Nat.zero_le _, rfl, h0, Kp2.refl _ _ _⟩
  case round =>
    obtain ⟨k, hk, rfl, hJs, hnx⟩ := hrel
    have hbs := hnx.cell hBs
    have hTr := hnx.tab hT
    by_cases hlt : k + 1 < ps.length
    · obtain ⟨cx, cy⟩ := hTr.2 k (by omega)
      obtain ⟨dx, dy⟩ := hTr.2 (k + 1) hlt
      obtain ⟨fn, tmps, assign, body, hy, hR⟩ := hY _ k wr.drew (hJ _ _ hJs) (by simp; omega)
      unfold ptv at hy
      have hw1 : IntKind.i64.wrap (k : Int) = k := IntWalk.i64_in _ (by omega)
      have hka : k < ps.length := by omega
      have hkb : ((k : Int) + 1).toNat = k + 1 := by omega
      have hkc : 0 ≤ (k : Int) + 1 := by omega
      have hkd : (k : Int) + 1 < ps.length := by omega
      have hmx : Try.prog.follows .mixedOrders = true := by kernel_rfl
      gi_wp2
      refine wide.region_tail hF 10 hmx (by kernel_rfl) ?_
      simp only [List.take_succ_cons, List.take_zero, List.drop_succ_cons, List.drop_zero]
      repeat still_step
      refine wpStill_nil ?_
      gi_wp2
      refine hR.mono ?_
      rintro e W3 (⟨rfl, hJ3, hk3⟩ | ⟨rfl, hJx3⟩)
      · gi_wp2
        go_roundw
        case rel => exact ⟨k + 1, by omega, by go_num, by rw [range_snoc]; exact hJ3, hnx.trans hk3⟩
        case measure => simp [intOf]; omega
      · gi_wp2
        refine bodyPost_ret (results_none rfl _ _ _) rfl ?_
        exact ⟨⟨_, rfl⟩, .inr ⟨_, ⟨k, hlt, (range_snoc _).symm⟩, hJx3⟩⟩
    · gi_wp2
      go_end0
      exact ⟨⟨_, rfl⟩, .inl ⟨_, by congr 1; omega, hJs⟩⟩

set_option maxHeartbeats 1000000 in
theorem pairs_in (F : Fence) (n : Nat) (h5 : F.fn 58) (hro : F.round = none) (a : Option Addr) (len cap : Nat) (w : World) :
    CallsIn F n Try.prog 58 #[.slice a len cap] w fun e w' => e = .returned (.func (.func 66) #[] #[.pointer (some ⟨w.heap.size, 0, none⟩)]) ∧ w' = w.alloc (.cells #[.slice a len cap] 56) := by
  refine callsIn_of_wp Try.func58 rfl h5 ?_ hro
  simp only [Try.ntmps58, List.size_toArray, List.length_cons, List.length_nil, Nat.reduceAdd, Nat.reduceSub, Array.replicate_succ, Array.replicate_zero, List.push_toArray, List.append_toArray, List.nil_append, List.cons_append]
  gi_wp2
  go_ret
  exact ⟨rfl, rfl⟩

theorem pairs_stops (F : Fence) (n : Nat) (h6 : F.fn 66) (hro : F.round = none) (hF : Hid (F = Fence.wide)) (hn : 1 ≤ n) (Bs g cap : Nat) (ps : Pts) (hl : ps.length ≤ 1048576) (w : World) (hB : Bs < w.heap.size)
    (hc : w.cell? ⟨Bs, 0, none⟩ = some (.slice (some ⟨g, 0, none⟩) ps.length cap)) (hT : Tab w g ps) :
    SeqStopsK F n Try.prog 66 #[.pointer (some ⟨Bs, 0, none⟩)] (fun x : Nat => #[Value.agg #[.int .i64 (px ps x), .int .i64 (py ps x)], Value.agg #[.int .i64 (px ps (x + 1)), .int .i64 (py ps (x + 1))]]) (Kp2 g Bs) (fun ys => ys = List.range (ps.length - 1)) (fun pre => ∃ k, k + 1 < ps.length ∧ pre = List.range (k + 1)) (ps.length - 1) w :=
  fun l J Jx W hW hJ hJx hY h0 =>
    pairs1_in F n h6 hro hF hn l Bs g cap ps hl J Jx (fun pre W h => hJ pre W W.drew none h (gr_drewN (gr_refl W none) 1) (by simp)) hY W ((hW.cell (p := ⟨Bs, 0, none⟩) hB).trans hc) (hT.below hW hT.1) h0

/-- 'The block holds just these cells' speaks of cells alone. -/
theorem has_own {β : Type} (B : Nat) (t : TypeId) (f : β → Array Value) : Own (fun s W => Has W B t (f s)) := fun s X Y row hs hg hrow =>
  hs.grown hg (fun e' => by obtain ⟨o, ho, hc⟩ := hrow B e'.symm; rw [show X.heap[B]? = _ from hs] at ho; cases ho; cases hc)
end Go.Proofs.Ytgclhjfjoiiclaa.tab
