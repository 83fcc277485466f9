/- Lists of numbers in memory: read, copied, compared, marked. -/
import Derived.Test.YtdikhdfpcipdbaaGreatDoorTabArg
import Derived.ChangeSame
import Derived.Deep.Strs
import Derived.Deep.AppendLies
import Derived.Lib.Hide
import Derived.Deep.QuietTactic
import Derived.BigQuiet
namespace Go.Proofs.YtdikhdfpcipdbaaGreatDoor.il
open Go.ChangeShapes Go.WideShapes Go.ChangeAt Go.RowKit
open Go.Proofs.YtdikhdfpcipdbaaGreatDoor.nums Go.Proofs.YtdikhdfpcipdbaaGreatDoor.mem
open Go.Proofs.YtdikhdfpcipdbaaGreatDoor.tab (Ret quiet_w wpList_make_has)
set_option linter.unusedVariables false

def nth (l : List Int) (k : Nat) : Int := l.getD k 0
theorem nth_lt {l : List Int} {k : Nat} (h : k < l.length) : nth l k = l[k] := by simp [nth, List.getD, h]
theorem nth_mem {l : List Int} {k : Nat} (h : k < l.length) : nth l k ∈ l := by rw [nth_lt h]; exact List.getElem_mem _
theorem nth_take {l : List Int} {k : Nat} (h : k < l.length) : l.take (k + 1) = l.take k ++ [nth l k] := by rw [List.take_add_one, nth_lt h]; simp [h]
theorem add0 (g k : Nat) : (⟨g, 0, none⟩ : Addr).add k = ⟨g, k, none⟩ := by unfold Addr.add; split <;> simp_all
theorem addo (g o k : Nat) : (⟨g, o, none⟩ : Addr).add k = ⟨g, o + k, none⟩ := by unfold Addr.add; split <;> simp_all

/-- The slice at a holds these numbers, each in a cell of a block of the world. -/
def Ints (w : World) (a : Option Addr) (l : List Int) : Prop :=
  ∀ k, k < l.length → ∃ x : Addr, a = some x ∧ x.block < w.heap.size ∧ w.cell? (x.add k) = some (.int .i64 (nth l k))
theorem Ints.nil (w : World) (a : Option Addr) : Ints w a [] := fun k hk => by simp at hk
theorem Ints.grown {w w' : World} {a : Option Addr} {l : List Int} {row : Option Nat} (h : Ints w a l) (hg : w.grownBy w' row) (hn : ∀ x : Addr, a = some x → some x.block ≠ row) : Ints w' a l := by
  intro k hk
  obtain ⟨x, e, hb, h1⟩ := h k hk
  refine ⟨x, e, Nat.lt_of_lt_of_le hb hg.size, ?_⟩
  rw [← h1]; exact World.cell?_of_block (hg.block _ (by rw [block_add]; omega) (by rw [block_add]; exact hn x e))
theorem Ints.kept {w w' : World} {a : Option Addr} {l : List Int} (h : Ints w a l) (hg : w.grownBy w' none) : Ints w' a l := h.grown hg (fun x e => by simp)
theorem Ints.drewN {w : World} {a : Option Addr} {l : List Int} (h : Ints w a l) (n : Nat) : Ints (w.drewN n) a l := h

/-- The block of a list of numbers, where there are any. -/
def blk (a : Option Addr) (l : List Int) : Option Nat := if l = [] then none else a.map Addr.block
theorem blk_nil (a : Option Addr) : blk a [] = none := if_pos rfl
theorem blk_some {g o : Nat} {l : List Int} (h : l ≠ []) : blk (some ⟨g, o, none⟩) l = some g := if_neg h
/-- The numbers lie in a block that is known whole, or there are none. -/
def Own (w : World) (a : Option Addr) (l : List Int) : Prop := l = [] ∨ ∃ (g o : Nat) (cs : Array Value), a = some ⟨g, o, none⟩ ∧ Has w g 2 cs ∧ ∀ k, k < l.length → cs[o + k]? = some (.int .i64 (nth l k))
theorem Own.ints {w : World} {a : Option Addr} {l : List Int} (h : Own w a l) : Ints w a l := by
  rcases h with rfl | ⟨g, o, cs, rfl, hc, hj⟩
  · exact Ints.nil _ _
  · intro k hk
    refine ⟨_, rfl, hc.lt, ?_⟩
    rw [addo, hc.cell]; exact hj k hk
theorem Own.grown {w w' : World} {a : Option Addr} {l : List Int} {row : Option Nat} (h : Own w a l) (hg : w.grownBy w' row) (hn : ∀ b, blk a l = some b → some b ≠ row) : Own w' a l := by
  rcases h with h | ⟨g, o, cs, rfl, hc, hj⟩
  · exact Or.inl h
  · by_cases hl : l = []
    · exact Or.inl hl
    · exact Or.inr ⟨g, o, cs, rfl, hc.grown hg (hn _ (blk_some hl)), hj⟩
theorem Own.kept {w w' : World} {a : Option Addr} {l : List Int} (h : Own w a l) (hg : w.grownBy w' none) : Own w' a l := h.grown hg (fun x e => by simp)
theorem Own.lt {w : World} {a : Option Addr} {l : List Int} (h : Own w a l) {b : Nat} (e : blk a l = some b) : b < w.heap.size := by
  rcases h with rfl | ⟨g, o, cs, rfl, hc, hj⟩
  · rw [blk_nil] at e; cases e
  · by_cases hl : l = []
    · subst hl; rw [blk_nil] at e; cases e
    · rw [blk_some hl] at e; injection e with e; subst e; exact hc.lt
/-- A block of something else is not the numbers'. -/
theorem Own.ne {w : World} {a : Option Addr} {l : List Int} (h : Own w a l) {g : Nat} {t : TypeId} {cs : Array Value} (H : Has w g t cs) (ht : t ≠ 2) : some g ≠ blk a l := by
  intro e
  rcases h with rfl | ⟨g', o, cs', rfl, hc, hj⟩
  · rw [blk_nil] at e; cases e
  · by_cases hl : l = []
    · subst hl; rw [blk_nil] at e; cases e
    · rw [blk_some hl] at e
      injection e with e
      subst e
      have h4 := H.symm.trans hc
      simp at h4
      exact ht h4.2
theorem gr_blk {a b c : World} {p : Option Addr} {l : List Int} (h : a.grownBy b none) (k : b.grownBy c (blk p l)) (hp : ∀ x, blk p l = some x → a.heap.size ≤ x) : a.grownBy c none := by
  cases hb : blk p l with
  | none => rw [hb] at k; exact gr_trans h k
  | some x => rw [hb] at k; exact gr_past h k (hp x hb)

theorem infoInt : (Tryz.prog.info? 2).map (fun i => (i.zero, i.size, i.bytes)) = some (some (.int .i64 0), 1, 8) := by kernel_rfl
abbrev vals (l : List Int) : List Value := l.map (Value.int .i64)
theorem vals_one (l : List Int) : ∀ u ∈ vals l, u.oneCell' = true := by
  intro u hu
  simp only [vals, List.mem_map] at hu
  obtain ⟨n, _, rfl⟩ := hu
  rfl
theorem vals_snoc (l : List Int) (x : Int) : vals (l ++ [x]) = vals l ++ [.int .i64 x] := by simp [vals]
/-- The value v holds the numbers l, in a row of its own that is not below base, or there are none. -/
abbrev IRow (w : World) (base : Nat) (v : Value) (l : List Int) : Prop := w.ownsRow base 2 1 v l.length (vals l)
theorem IRow.own {w : World} {base m cap : Nat} {a : Option Addr} {l : List Int} (h : IRow w base (.slice a m cap) l) : Own w a l := by
  by_cases hl : l = []
  · exact Or.inl hl
  · have hrow := h
    rcases h.2 with ⟨_, hn⟩ | ⟨g, cap', cur, hv, _, hc, _⟩
    · have := List.length_pos_iff.2 hl; omega
    · injection hv with hv1 hv2 hv3
      subst hv1
      rw [hv2] at hrow
      refine Or.inr ⟨g, 0, cur, rfl, hc, fun k hk => ?_⟩
      have e := hrow.cellAt k (by omega)
      have e2 : w.cell? ⟨g, k, none⟩ = cur[k]? := Has.cell hc k
      rw [Nat.zero_add, ← e2, e, nth_lt hk]
      simp [vals, hk]
theorem IRow.above {w : World} {base m cap : Nat} {a : Option Addr} {l : List Int} (h : IRow w base (.slice a m cap) l) {b : Nat} (e : blk a l = some b) : base ≤ b := by
  by_cases hl : l = []
  · subst hl; rw [blk_nil] at e; cases e
  · obtain ⟨g, c, hv, hb, hlt⟩ := h.form (List.length_pos_iff.2 hl)
    injection hv with h1 _ _
    subst h1
    rw [blk_some hl] at e
    injection e with e; omega
theorem gr_own {a b c : World} {v : Value} (h : a.grownBy b none) (k : b.grownBy c v.ownBlock) (hq : ∀ g, v.ownBlock = some g → a.heap.size ≤ g) : a.grownBy c none :=
  ⟨k.os.trans h.os, k.tape.trans h.tape, k.output.trans h.output, Nat.le_trans h.size k.size, fun i hi _ => (k.block i (Nat.lt_of_lt_of_le hi h.size) (fun e => by have := hq i e.symm; omega)).trans (h.block i hi (by simp))⟩
theorem row_base {w : World} {base : Nat} {v : Value} {l : List Int} (h : IRow w base v l) : ∀ g, v.ownBlock = some g → base ≤ g := fun g hg => (h.lt g hg).1
/-- A list comes back in memory of its own; of what was there nothing is another. -/
def RetI (l : List Int) (w : World) (e : Ending) (w' : World) : Prop :=
  ∃ a cap, e = .returned (.slice a l.length cap) ∧ w.grownBy w' none ∧ Own w' a l ∧ ∀ b, blk a l = some b → w.heap.size ≤ b

set_option maxRecDepth 100000 in
theorem open_ints' {H : Type} {enc : TypeId × Value → H} {w : World} {base : Nat} {held : Bool} {a : Option Addr} {len cap : Nat} {d : DataW H} {p : List MemPlace}
    (h : DataW.Trod enc Tryz.prog w base (fun _ => true) held 25 (.slice a len cap) d p) : ∃ l : List Int, l.length = len ∧ l.length ≤ maxLen ∧ Ints w a l ∧ ∀ n ∈ l, (Lit.int .i64 n).wf = true := by
  obtain ⟨fuel, hf⟩ := h
  rcases open_ints Tryz.underlying25 Tryz.underlying2 (by kernel_rfl) hf with ⟨hcs, _⟩ | ⟨x, len', cap', zs, hcs, hb, hl, hm, hz, _, hc, hwf⟩
  · simp [Value.cells] at hcs
    obtain ⟨rfl, rfl, rfl⟩ := hcs
    exact ⟨[], rfl, Nat.zero_le _, Ints.nil _ _, fun n hn => by simp at hn⟩
  · simp [Value.cells] at hcs
    obtain ⟨rfl, rfl, rfl⟩ := hcs
    have hz' : zs.length = cap := by simpa using hz
    refine ⟨zs.take len, by simp; omega, by simp; omega, fun k hk => ?_, fun n hn => hwf n (List.mem_of_mem_take hn)⟩
    have hk' : k < len := by simp at hk; omega
    have c0 := hc k (by omega)
    have e : nth (zs.take len) k = zs.getD k 0 := by simp [nth, List.getD, hk']
    refine ⟨x, rfl, ?_, by rw [e]; exact c0⟩
    by_cases hbk : x.block < w.heap.size
    · exact hbk
    · have hn : w.heap[(x.add k).block]? = none := by rw [block_add]; exact Array.getElem?_eq_none (by omega)
      simp [World.cell?, hn] at c0

set_option maxHeartbeats 1000000 in
theorem likeInts (a a' : Option Addr) (cap cap' : Nat) (l : List Int) (w : World) (h : Ints w a l) (h' : Ints w a' l) (hl : l.length ≤ 1048576) :
    Calls Tryz.prog 38 #[.slice a l.length cap, .slice a' l.length cap'] w (Ret (.bool true) w) := by
  go_enter Tryz.func38, Tryz.ntmps38
  go_wp2
  go_loopw [5] (fun i wr => ∃ k : Nat, k ≤ l.length ∧ i = .int .i64 k ∧ w.grownBy wr none) (fun i _ => l.length - (intOf i).toNat)
  case atStart => exact ⟨0, Nat.zero_le _, rfl, gr_refl _ _⟩
  case round =>
    obtain ⟨k, hk, rfl, hg⟩ := hrel
    by_cases hlt : k < l.length
    · obtain ⟨x, rfl, _, cx⟩ := (h.kept hg) k hlt
      obtain ⟨x', rfl, _, dx⟩ := (h'.kept hg) k hlt
      go_wp2_with fail
      go_quiet (fail)
      go_wp2_with fail
      go_roundw
      case rel => exact ⟨k + 1, by omega, by go_num, gr_drewN hg _⟩
      case measure => simp [intOf]; omega
    · obtain rfl : k = l.length := by omega
      go_wp2_with fail
      go_ret
      exact ⟨rfl, hg⟩

/-- The marks that lie from m on. -/
def mks (m n : Nat) : List Int := (List.range n).map fun (j : Nat) => ((m + j : Nat) : Int)
theorem mks_len (m n : Nat) : (mks m n).length = n := by simp [mks]
theorem mks_at {m n j : Nat} (h : j < n) : nth (mks m n) j = ((m + j : Nat) : Int) := by rw [nth_lt (by rw [mks_len]; exact h)]; simp [mks]
theorem mks_nil {m n : Nat} : mks m n = [] ↔ n = 0 := by rw [← List.length_eq_zero_iff, mks_len]
/-- The marks are laid, from m on. -/
def Marked (m : Nat) (l : List Int) (a : Option Addr) (w : World) (e : Ending) (w' : World) : Prop := e = .returned (.int .i64 ((m : Int) + l.length)) ∧ w.grownBy w' (blk a l) ∧ Own w' a (mks m l.length)

end Go.Proofs.YtdikhdfpcipdbaaGreatDoor.il
