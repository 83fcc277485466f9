/- FrameOk, the program's and the model's, and what they call. -/
import Derived.Test.YtdikhdfpcipdbaaGreatDoorFix2
import Derived.Test.YtdikhdfpcipdbaaGreatDoorTabArg
import Derived.Test.YtdikhdfpcipdbaaGreatDoorFrSum
import Derived.Deep.RegionHeld3
import Derived.Deep.QuietTactic
import Derived.Lib.Hide
import Derived.Lib.QuietBelow
namespace Go.Proofs.YtdikhdfpcipdbaaGreatDoor.frm
open Go.ChangeShapes Go.WideShapes Go.ChangeAt Go.RowKit
open Go.Proofs.YtdikhdfpcipdbaaGreatDoor.nums Go.Proofs.YtdikhdfpcipdbaaGreatDoor.mem Go.Proofs.YtdikhdfpcipdbaaGreatDoor.txt Go.Proofs.YtdikhdfpcipdbaaGreatDoor.fix
open Go.Proofs.YtdikhdfpcipdbaaGreatDoor.tab (Ret quiet_w wpList_make_has)
set_option linter.unusedVariables false

/-- The slice at a holds these numbers, each in a cell of a block of the world. -/
def Ints (w : World) (a : Option Addr) (l : List Int) : Prop :=
  ∀ k, k < l.length → ∃ x : Addr, a = some x ∧ x.block < w.heap.size ∧ w.cell? (x.add k) = some (.int .i64 (nth l k))
theorem Ints.kept {w w' : World} {a : Option Addr} {l : List Int} (h : Ints w a l) (hg : w.grownBy w' none) : Ints w' a l := by
  intro k hk
  obtain ⟨x, e, hb, h1⟩ := h k hk
  refine ⟨x, e, Nat.lt_of_lt_of_le hb hg.size, ?_⟩
  rw [← h1]; exact World.cell?_of_block (hg.block _ (by rw [block_add]; omega) (by simp))
theorem Ints.grown {w w' : World} {a : Option Addr} {l : List Int} {row : Option Nat} (h : Ints w a l) (hg : w.grownBy w' row) (hn : ∀ x : Addr, a = some x → some x.block ≠ row) : Ints w' a l := by
  intro k hk
  obtain ⟨x, e, hb, h1⟩ := h k hk
  refine ⟨x, e, Nat.lt_of_lt_of_le hb hg.size, ?_⟩
  rw [← h1]; exact World.cell?_of_block (hg.block _ (by rw [block_add]; omega) (by rw [block_add]; exact hn x e))
theorem Ints.set {w : World} {a : Option Addr} {l : List Int} (h : Ints w a l) (g i : Nat) (u : Value) (hn : ∀ x : Addr, a = some x → x.block ≠ g) : Ints (w.setCell ⟨g, i, none⟩ u) a l :=
  h.grown (gr_set (gr_refl w (some g)) i u) (fun x e he => hn x e (by injection he))
theorem Ints.drewN {w : World} {a : Option Addr} {l : List Int} (h : Ints w a l) (n : Nat) : Ints (w.drewN n) a l := h
theorem Ints.nil (w : World) (a : Option Addr) : Ints w a [] := fun k hk => by simp at hk
abbrev fr (k sq : Int) (a : Option Addr) (n cap : Nat) : Value := .agg #[.int .i64 k, .int .i64 sq, .slice a n cap]
theorem three {w : World} {g : Nat} {t : TypeId} {a b c : Value} (h : Has w g t #[a, b, c]) : w.cell? ⟨g, 0, none⟩ = some a ∧ w.cell? ⟨g, 1, none⟩ = some b ∧ w.cell? ⟨g, 2, none⟩ = some c ∧ w.frozen? ⟨g, 0, none⟩ = false ∧ w.frozen? ⟨g, 1, none⟩ = false ∧ w.frozen? ⟨g, 2, none⟩ = false :=
  ⟨h.cell 0, h.cell 1, h.cell 2, h.frozen 0, h.frozen 1, h.frozen 2⟩

theorem set3 {w : World} {g : Nat} {t : TypeId} {a b c : Value} (h : Has w g t #[a, b, c]) (a' b' c' : Value) : Has (((w.setCell ⟨g, 0, none⟩ a').setCell ⟨g, 1, none⟩ b').setCell ⟨g, 2, none⟩ c') g t #[a', b', c'] := ((h.put 0 a' rfl).put 1 b' rfl).put 2 c' rfl
theorem has_other {w : World} {g g' : Nat} {t : TypeId} {cs : Array Value} (h : Has w g t cs) (hn : g ≠ g') (i : Nat) (u : Value) : Has (w.setCell ⟨g', i, none⟩ u) g t cs := h.grown (gr_set (gr_refl w (some g')) i u) (fun e => hn (by injection e))
theorem all_step (l : List Int) (k : Nat) (h : k < l.length) : (l.take (k + 1)).all sz = ((l.take k).all sz && sz (nth l k)) := by
  rw [nth_take h]; simp
theorem all_not (l : List Int) (k : Nat) (h : k < l.length) (hs : sz (nth l k) = false) : l.all sz = false := by
  rw [List.all_eq_false]
  exact ⟨nth l k, nth_mem h, by rw [hs]; simp⟩

set_option maxHeartbeats 1000000 in
theorem specAll (a : Option Addr) (cap : Nat) (l : List Int) (n : Int) (w : World) (h : Ints w a l) (hl : l.length ≤ maxLen) :
    Calls Tryz.prog 53 #[.slice a l.length cap, .int .i64 n, .int .i64 (-1000000), .int .i64 1000000] w fun e w' => e = .returned (.bool (decide ((l.length : Int) = n) && l.all sz)) ∧ w = w' := by
  have hm : l.length ≤ 9223372036854775807 := by unfold maxLen at hl; exact hl
  clear hl
  go_enter Tryz.func53, Tryz.ntmps53
  go_wp2_with fail
  go_loopw [9] (fun i wr => wr = w ∧ ∃ k : Nat, k ≤ l.length ∧ i = .int .i64 k ∧ Hid ((l.take k).all sz = true)) (fun i _ => l.length - (intOf i).toNat)
  case atStart => exact ⟨rfl, 0, Nat.zero_le _, rfl, Lib.hid rfl⟩
  case round =>
    obtain ⟨rfl, k, hk, rfl, hs⟩ := hrel
    by_cases hlt : k < l.length
    · obtain ⟨x, rfl, hb, cx⟩ := h k hlt
      cases hz : sz (nth l k)
      · have hz' : inb (nth l k) (-1000000) 1000000 = false := hz
        go_wp2_with fail
        refine (specIn _ _ _ _).mono ?_
        rintro e w' ⟨rfl, rfl⟩
        go_wp2_with fail
        go_ret
        exact ⟨by rw [all_not l k hlt hz]; simp, rfl⟩
      · have hz' : inb (nth l k) (-1000000) 1000000 = true := hz
        go_wp2_with fail
        refine (specIn _ _ _ _).mono ?_
        rintro e w' ⟨rfl, rfl⟩
        go_wp2_with fail
        go_roundw
        case rel => exact ⟨trivial, k + 1, by omega, by go_num, Lib.hid (by rw [all_step l k hlt, hs.out, hz]; rfl)⟩
        case measure => simp [intOf]; omega
    · obtain rfl : k = l.length := by omega
      go_wp2_with fail
      go_ret
      refine ⟨?_, rfl⟩
      have := hs.out
      rw [List.take_length] at this
      rw [this, Bool.and_true]; rfl

set_option maxHeartbeats 1000000 in
theorem implAll (a : Option Addr) (cap : Nat) (l : List Int) (w : World) (h : Ints w a l) (hl : l.length ≤ maxLen) :
    Calls Tryz.prog 93 #[.slice a l.length cap] w fun e w' => e = .returned (.bool (l.all sz)) ∧ w = w' := by
  have hm : l.length ≤ 9223372036854775807 := by unfold maxLen at hl; exact hl
  clear hl
  go_enter Tryz.func93, Tryz.ntmps93
  go_wp2_with fail
  go_loopw [7] (fun i wr => wr = w ∧ ∃ k : Nat, k ≤ l.length ∧ i = .int .i64 k ∧ Hid ((l.take k).all sz = true)) (fun i _ => l.length - (intOf i).toNat)
  case atStart => exact ⟨rfl, 0, Nat.zero_le _, rfl, Lib.hid rfl⟩
  case round =>
    obtain ⟨rfl, k, hk, rfl, hs⟩ := hrel
    by_cases hlt : k < l.length
    · obtain ⟨x, rfl, hb, cx⟩ := h k hlt
      cases hz : sz (nth l k)
      · have hz' : inb (nth l k) (-1000000) 1000000 = false := hz
        go_wp2_with fail
        refine (implSizeOk _ _).mono ?_
        rintro e w' ⟨rfl, rfl⟩
        go_wp2_with fail
        go_ret
        exact ⟨by rw [all_not l k hlt hz]; rfl, rfl⟩
      · have hz' : inb (nth l k) (-1000000) 1000000 = true := hz
        go_wp2_with fail
        refine (implSizeOk _ _).mono ?_
        rintro e w' ⟨rfl, rfl⟩
        go_wp2_with fail
        go_roundw
        case rel => exact ⟨trivial, k + 1, by omega, by go_num, Lib.hid (by rw [all_step l k hlt, hs.out, hz]; rfl)⟩
        case measure => simp [intOf]; omega
    · obtain rfl : k = l.length := by omega
      go_wp2_with fail
      go_ret
      refine ⟨?_, rfl⟩
      have := hs.out
      rw [List.take_length] at this
      rw [this]; rfl

theorem specMany (k : Int) (w : World) : Calls Tryz.prog 90 #[.int .i64 k] w (Ret (.int .i64 (many k)) w) := by
  by_cases h : 1 ≤ k ∧ k ≤ 4
  · have hi : inb k 1 4 = true := by unfold inb; simp; omega
    have hk : k = 1 ∨ k = 2 ∨ k = 3 ∨ k = 4 := by omega
    clear h
    go_enter Tryz.func90, Tryz.ntmps90
    go_wp2_with fail
    refine (specIn _ _ _ _).mono ?_
    rintro e w' ⟨rfl, rfl⟩
    rcases hk with rfl | rfl | rfl | rfl
    all_goals go_wp2_with fail
    all_goals go_ret
    all_goals exact ⟨rfl, World.grownBy_alloc _ _ _⟩
  · have hi : inb k 1 4 = false := by unfold inb; simp; omega
    have hm : many k = -1 := by unfold many; rw [if_neg (by omega), if_neg (by omega), if_neg (by omega), if_neg (by omega)]
    rw [hm]
    go_enter Tryz.func90, Tryz.ntmps90
    go_wp2_with fail
    refine (specIn _ _ _ _).mono ?_
    rintro e w' ⟨rfl, rfl⟩
    go_wp2_with fail
    go_ret
    exact ⟨rfl, gr_refl _ _⟩

theorem implKind (k : Int) (w : World) : Calls Tryz.prog 92 #[.int .i64 k] w fun e w' => e = .returned (.bool (decide (1 ≤ k) && decide (k ≤ 4))) ∧ w = w' := by
  go_enter Tryz.func92, Tryz.ntmps92
  go_wp2
  all_goals go_ret
  all_goals exact ⟨ret_bool (by simp <;> omega), rfl⟩
theorem implSeq (k : Int) (w : World) : Calls Tryz.prog 84 #[.int .i64 k] w fun e w' => e = .returned (.bool (decide (0 ≤ k) && decide (k ≤ 99))) ∧ w = w' := by
  go_enter Tryz.func84, Tryz.ntmps84
  go_wp2
  all_goals go_ret
  all_goals exact ⟨ret_bool (by simp <;> omega), rfl⟩

theorem rg_ret {P : Program} {f : FuncId} {args : Array Value} {w : World} {d : Nat} {os : Array Obj} {v : Value}
    (h : Calls P f args (Go.Sort.grow (redrawn w d) os) (Ret v (Go.Sort.grow (redrawn w d) os))) : Calls P f args (Go.Sort.grow (redrawn w d) os) fun e w'' => e = .returned v ∧ ∃ p : Regrown, w'' = Go.Sort.grow (redrawn w p.d) p.os :=
  Calls.regrown_of (h.mono fun _ _ ⟨he, hg⟩ => ⟨he, below_of_none hg⟩)
theorem rg_same {P : Program} {f : FuncId} {args : Array Value} {w : World} {d : Nat} {os : Array Obj} {v : Value}
    (h : Calls P f args (Go.Sort.grow (redrawn w d) os) fun e w' => e = .returned v ∧ Go.Sort.grow (redrawn w d) os = w') : Calls P f args (Go.Sort.grow (redrawn w d) os) fun e w'' => e = .returned v ∧ ∃ p : Regrown, w'' = Go.Sort.grow (redrawn w p.d) p.os :=
  h.mono fun _ _ ⟨he, hm⟩ => ⟨he, ⟨d, os⟩, hm.symm⟩
theorem gr_rg (w : World) (d : Nat) (os : Array Obj) : w.grownBy (Go.Sort.grow (redrawn w d) os) none := gr_of_below (below_regrown w d os) none

/-- The program's table of how many values a kind has. -/
def Vals (w : World) : Prop := 0 < w.heap.size ∧ ∀ i, i < 5 → w.cell? ⟨0, i, none⟩ = some (.int .i64 (nth [0, 3, 2, 6, 2] i))
theorem Vals.kept {w w' : World} (h : Vals w) (hg : w.grownBy w' none) : Vals w' :=
  ⟨Nat.lt_of_lt_of_le h.1 hg.size, fun i hi => (World.cell?_of_block (hg.block 0 h.1 (by simp))).trans (h.2 i hi)⟩
theorem many_tab {k : Int} (h1 : 1 ≤ k) (h2 : k ≤ 4) : nth [0, 3, 2, 6, 2] k.toNat = many k := by
  have hk : k = 1 ∨ k = 2 ∨ k = 3 ∨ k = 4 := by omega
  rcases hk with rfl | rfl | rfl | rfl <;> rfl

end Go.Proofs.YtdikhdfpcipdbaaGreatDoor.frm
