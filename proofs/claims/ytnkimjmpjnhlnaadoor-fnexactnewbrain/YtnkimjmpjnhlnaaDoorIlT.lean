/- Lists of numbers that lie in a block of whatever type (an array's block, cut): read, marked. -/
import Derived.Test.YtnkimjmpjnhlnaaDoorIl
namespace Go.Proofs.YtnkimjmpjnhlnaaDoor.il
open Go.ChangeShapes Go.WideShapes Go.ChangeAt Go.RowKit
open Go.Proofs.YtnkimjmpjnhlnaaDoor.nums Go.Proofs.YtnkimjmpjnhlnaaDoor.mem
open Go.Proofs.YtnkimjmpjnhlnaaDoor.tab (Ret quiet_w)
set_option linter.unusedVariables false

/-- The numbers lie in a block that is known whole, of whatever type, or there are none. -/
def OwnT (w : World) (a : Option Addr) (l : List Int) : Prop := l = [] ∨ ∃ (g o : Nat) (t : TypeId) (cs : Array Value), a = some ⟨g, o, none⟩ ∧ Has w g t cs ∧ ∀ k, k < l.length → cs[o + k]? = some (.int .i64 (nth l k))
theorem Own.toT {w : World} {a : Option Addr} {l : List Int} (h : Own w a l) : OwnT w a l := h.imp id fun ⟨g, o, cs, e, hc, hj⟩ => ⟨g, o, _, cs, e, hc, hj⟩
theorem OwnT.ints {w : World} {a : Option Addr} {l : List Int} (h : OwnT w a l) : Ints w a l := by
  rcases h with rfl | ⟨g, o, t, cs, rfl, hc, hj⟩
  · exact Ints.nil _ _
  · intro k hk
    refine ⟨_, rfl, hc.lt, ?_⟩
    rw [addo, hc.cell]; exact hj k hk
theorem OwnT.grown {w w' : World} {a : Option Addr} {l : List Int} {row : Option Nat} (h : OwnT w a l) (hg : w.grownBy w' row) (hn : ∀ b, blk a l = some b → some b ≠ row) : OwnT w' a l := by
  rcases h with h | ⟨g, o, t, cs, rfl, hc, hj⟩
  · exact Or.inl h
  · by_cases hl : l = []
    · exact Or.inl hl
    · exact Or.inr ⟨g, o, t, cs, rfl, hc.grown hg (hn _ (blk_some hl)), hj⟩
theorem OwnT.kept {w w' : World} {a : Option Addr} {l : List Int} (h : OwnT w a l) (hg : w.grownBy w' none) : OwnT w' a l := h.grown hg (fun x e => by simp)
theorem OwnT.lt {w : World} {a : Option Addr} {l : List Int} (h : OwnT w a l) {b : Nat} (e : blk a l = some b) : b < w.heap.size := by
  rcases h with rfl | ⟨g, o, t, cs, rfl, hc, hj⟩
  · rw [blk_nil] at e; cases e
  · by_cases hl : l = []
    · subst hl; rw [blk_nil] at e; cases e
    · rw [blk_some hl] at e; injection e with e; subst e; exact hc.lt
/-- A list comes back in memory of its own, in a block of whatever type; of what was there nothing is another. -/
def RetT (l : List Int) (w : World) (e : Ending) (w' : World) : Prop :=
  ∃ a cap, e = .returned (.slice a l.length cap) ∧ w.grownBy w' none ∧ OwnT w' a l ∧ ∀ b, blk a l = some b → w.heap.size ≤ b
theorem RetI.toT {l : List Int} {w w' : World} {e : Ending} (h : RetI l w e w') : RetT l w e w' := by
  obtain ⟨a, cap, e, g, o, b⟩ := h
  exact ⟨a, cap, e, g, o.toT, b⟩
/-- The marks are laid, from m on. -/
def MarkedT (m : Nat) (l : List Int) (a : Option Addr) (w : World) (e : Ending) (w' : World) : Prop := e = .returned (.int .i64 ((m : Int) + l.length)) ∧ w.grownBy w' (blk a l) ∧ OwnT w' a (mks m l.length)

set_option maxRecDepth 100000 in
set_option maxHeartbeats 1000000 in
theorem markIntsT (m : Nat) (a : Option Addr) (cap : Nat) (l : List Int) (w : World) (h : OwnT w a l) (hl : l.length ≤ 10000000) (hm : m ≤ 100000000) : Calls Tryd.prog 38 #[.slice a l.length cap, .int .i64 m] w (MarkedT m l a w) := by
  by_cases hv : l = []
  · subst hv
    go_enter Tryd.func38, Tryd.ntmps38
    go_wp2_with fail
    go_loopw [1, 5] (fun p i wr => w = wr ∧ p = .int .i64 m ∧ i = .int .i64 0) (fun _ _ _ => 0)
    case atStart => exact ⟨rfl, rfl, rfl⟩
    case round =>
      obtain ⟨rfl, rfl, rfl⟩ := hrel
      go_wp2_with fail
      go_ret
      exact ⟨by simp, gr_refl _ _, Or.inl rfl⟩
  · obtain ⟨g, o, t, cs, rfl, hc, hj⟩ := h.resolve_left hv
    have HV := Lib.hid hv
    clear hv h
    go_enter Tryd.func38, Tryd.ntmps38
    go_wp2_with fail
    go_loopw [1, 5] (fun p i wr => ∃ (k : Nat) (A : Array Value), k ≤ l.length ∧ i = .int .i64 k ∧ p = .int .i64 ((m : Int) + k) ∧ Has wr g t A ∧ Hid (∀ j, j < l.length → ∃ u, A[o + j]? = some u) ∧ Hid (∀ j, j < k → A[o + j]? = some (.int .i64 ((m + j : Nat) : Int))) ∧ w.grownBy wr (some g)) (fun _ i _ => l.length - (intOf i).toNat)
    case atStart => exact ⟨0, cs, Nat.zero_le _, rfl, by simp, hc, Lib.hid (fun j hj' => ⟨_, hj j hj'⟩), Lib.hid (fun j hj' => by omega), gr_refl _ _⟩
    case round =>
      obtain ⟨k, A, hk, rfl, rfl, hA, hs, hr, hg⟩ := hrel
      by_cases hlt : k < l.length
      · obtain ⟨u, hu⟩ := hs.out k hlt
        have d0 := (hA.cell (o + k)).trans hu
        have f0 := hA.frozen (o + k)
        have hsz : o + k < A.size := (Array.getElem?_eq_some_iff.1 hu).1
        clear hu
        go_wp2_with fail
        go_roundw
        case rel => exact ⟨k + 1, _, by omega, by go_num, by go_num, hA.set _ _, Lib.hid (fun j hj' => by
            by_cases e : j = k
            · subst e; exact ⟨_, Array.getElem?_setIfInBounds_self_of_lt hsz⟩
            · rw [Array.getElem?_setIfInBounds_ne (by omega)]; exact hs.out j hj'), Lib.hid (fun j hj' => by
            by_cases e : j = k
            · subst e; rw [Array.getElem?_setIfInBounds_self_of_lt hsz]; simp
            · rw [Array.getElem?_setIfInBounds_ne (by omega)]; exact hr.out j (by omega)), gr_set hg _ _⟩
        case measure => simp [intOf]; omega
      · obtain rfl : k = l.length := by omega
        go_wp2_with fail
        go_ret
        refine ⟨rfl, by rw [blk_some HV.out]; exact hg, Or.inr ⟨g, o, t, A, rfl, hA, fun j hj' => ?_⟩⟩
        rw [mks_len] at hj'
        rw [hr.out j hj', mks_at hj']
end Go.Proofs.YtnkimjmpjnhlnaaDoor.il
