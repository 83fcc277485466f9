/- Marks in the memory of a list of fans. -/
import Derived.Test.YtnkimjmpjnhlnaaDoorFaLst
namespace Go.Proofs.YtnkimjmpjnhlnaaDoor.fan
open Go.ChangeShapes Go.WideShapes Go.ChangeAt Go.RowKit
open Go.Proofs.YtnkimjmpjnhlnaaDoor.nums Go.Proofs.YtnkimjmpjnhlnaaDoor.mem
open Go.Proofs.YtnkimjmpjnhlnaaDoor.tab (Ret quiet_w wpList_make_has add_off)
set_option linter.unusedVariables false

/-- The marks that lie from m on. -/
def mkF (m n : Nat) : List F := (List.range n).map fun j => (((m + 3 * j : Nat) : Int), decide ((m + 1) % 3 = 0), decide ((m + 2) % 3 = 0))
theorem mkF_len (m n : Nat) : (mkF m n).length = n := by simp [mkF]
theorem mkF_at {m n k : Nat} (h : k < n) : (mkF m n).getD k zF = (((m + 3 * k : Nat) : Int), decide ((m + 1) % 3 = 0), decide ((m + 2) % 3 = 0)) := by simp [mkF, List.getD, h]
theorem mod3 (m k : Nat) : ((((m : Int) + 3 * (k : Int) + 1 + 1) % 3) == 0) = decide ((m + 2) % 3 = 0) := by
  by_cases h : (m + 2) % 3 = 0
  · rw [decide_eq_true h]; simp; omega
  · rw [decide_eq_false h]; simp; omega

theorem mod3a (m k : Nat) : ((((m : Int) + 3 * (k : Int) + 1) % 3) == 0) = decide ((m + 1) % 3 = 0) := by
  by_cases h : (m + 1) % 3 = 0
  · rw [decide_eq_true h]; simp; omega
  · rw [decide_eq_false h]; simp; omega

theorem gr_blk {a b c : World} {p : Option Addr} (h : a.grownBy b none) (k : b.grownBy c (blk p)) (hp : ∀ x : Addr, p = some x → a.heap.size ≤ x.block) : a.grownBy c none := by
  cases p with
  | none => exact gr_trans h k
  | some x => exact gr_past h k (hp x rfl)
theorem ne_blk {p : Option Addr} {B : Nat} (hp : ∀ y : Addr, p = some y → y.block < B) {x : Addr} (hx : B ≤ x.block) : some x.block ≠ blk p := by
  cases p with
  | none => simp [blk]
  | some y => have := hp y rfl; simp [blk]; omega
theorem ne_blk' {p : Option Addr} {B : Nat} (hp : ∀ y : Addr, p = some y → y.block < B) {x : Nat} (hx : B ≤ x) : some x ≠ blk p := by
  cases p with
  | none => simp [blk]
  | some y => have := hp y rfl; simp [blk]; omega
/-- The marks are laid. -/
def Marked (m n : Nat) (a : Option Addr) (w : World) (e : Ending) (w' : World) : Prop := e = .returned (.int .i64 ((m : Int) + 3 * (n : Int))) ∧ w.grownBy w' (blk a) ∧ OwnF w' a (mkF m n)

set_option maxRecDepth 100000 in
set_option maxHeartbeats 4000000 in
theorem markFans (m : Nat) (a : Option Addr) (cap : Nat) (l : List F) (w : World) (h : OwnF w a l) (hl : l.length ≤ 1048576) (hm : m ≤ 100000000) : Calls Tryd.prog 36 #[.slice a l.length cap, .int .i64 m] w (Marked m l.length a w) := by
  rcases h with ⟨rfl, rfl⟩ | ⟨g, cs, rfl, hc, hj⟩
  · go_enter Tryd.func36, Tryd.ntmps36
    go_wp2_with fail
    go_loopw [1, 5] (fun p i wr => w = wr ∧ p = .int .i64 m ∧ i = .int .i64 0) (fun _ _ _ => 0)
    case atStart => exact ⟨rfl, rfl, rfl⟩
    case round =>
      obtain ⟨rfl, rfl, rfl⟩ := hrel
      go_wp2_with fail
      go_ret
      exact ⟨by simp, gr_refl _ _, Or.inl ⟨rfl, rfl⟩⟩
  · go_enter Tryd.func36, Tryd.ntmps36
    go_wp2_with fail
    go_loopw [1, 5] (fun p i wr => ∃ (k : Nat) (A : Array Value), k ≤ l.length ∧ i = .int .i64 k ∧ p = .int .i64 ((m : Int) + 3 * (k : Int)) ∧ Has wr g 53 A ∧ Hid (l.length * 3 ≤ A.size) ∧ Hid (Laid A (mkF m l.length) k) ∧ w.grownBy wr (some g)) (fun _ i _ => l.length - (intOf i).toNat)
    case atStart => exact ⟨0, cs, Nat.zero_le _, rfl, by simp, hc, Lib.hid (by
      by_cases e : l.length = 0
      · omega
      · obtain ⟨_, _, h2⟩ := hj (l.length - 1) (by omega)
        have := (Array.getElem?_eq_some_iff.1 h2).1
        omega), Lib.hid (fun j hj' => by omega), gr_refl _ _⟩
    case round =>
      clear hc hj
      obtain ⟨k, A, hk, rfl, rfl, hA, hs, hr, hg⟩ := hrel
      by_cases hlt : k < l.length
      · obtain ⟨v0, e0⟩ : ∃ v, A[k * 3]? = some v := ⟨_, Array.getElem?_eq_getElem (by have := hs.out; omega)⟩
        obtain ⟨v1, e1⟩ : ∃ v, A[k * 3 + 1]? = some v := ⟨_, Array.getElem?_eq_getElem (by have := hs.out; omega)⟩
        obtain ⟨v2, e2⟩ : ∃ v, A[k * 3 + 2]? = some v := ⟨_, Array.getElem?_eq_getElem (by have := hs.out; omega)⟩
        have d0 := (hA.cell (k * 3)).trans e0
        have d1 := (hA.cell (k * 3 + 1)).trans e1
        have d2 := (hA.cell (k * 3 + 2)).trans e2
        have g0 := hA.frozen (k * 3)
        have g1 := hA.frozen (k * 3 + 1)
        have g2 := hA.frozen (k * 3 + 2)
        have h3 := mod3 m k
        have h4 := mod3a m k
        clear e0 e1 e2
        go_wp2_with fail
        go_roundw
        case rel => exact ⟨k + 1, _, by omega, by go_num, by congr 1 <;> omega, ((hA.set _ _).set _ _).set _ _, Lib.hid (by simpa using hs.out), Lib.hid (hr.out.next (r := (((m : Int) + 3 * (k : Int)), decide ((m + 1) % 3 = 0), decide ((m + 2) % 3 = 0))) hs.out hlt (by rw [mkF_at hlt]; simp)), gr_set (gr_set (gr_set hg _ _) _ _) _ _⟩
        case measure => simp [intOf]; omega
      · obtain rfl : k = l.length := by omega
        go_wp2_with fail
        go_ret
        exact ⟨rfl, hg, Or.inr ⟨g, A, rfl, hA, fun j hj' => hr.out j (by rwa [mkF_len] at hj')⟩⟩

theorem mk_cells {w : World} {a : Option Addr} {m n : Nat} (h : Arg w a (mkF m n)) {k : Nat} (hk : k < n) : ∃ x : Addr, a = some x ∧ x.block < w.heap.size ∧ w.cell? (x.add (k * 3)) = some (.int .i64 ((m : Int) + 3 * (k : Int))) ∧ w.cell? ⟨(x.add (k * 3)).block, (x.add (k * 3)).off + 1, none⟩ = some (.bool (decide ((m + 1) % 3 = 0))) ∧ w.cell? ⟨(x.add (k * 3)).block, (x.add (k * 3)).off + 2, none⟩ = some (.bool (decide ((m + 2) % 3 = 0))) := by
  obtain ⟨x, e, hb, h0, h1, h2⟩ := h k (by rw [mkF_len]; exact hk)
  unfold fN at h0; unfold fO at h1; unfold fT at h2
  rw [mkF_at hk] at h0 h1 h2
  exact ⟨x, e, hb, by rw [h0]; simp, h1, h2⟩

set_option maxRecDepth 100000 in
set_option maxHeartbeats 4000000 in
theorem heldFans (m : Nat) (a : Option Addr) (cap n : Nat) (w : World) (h : Arg w a (mkF m n)) (hl : n ≤ 1048576) (hm : m ≤ 100000000) : Calls Tryd.prog 39 #[.slice a n cap, .int .i64 m] w (Ret (.int .i64 ((m : Int) + 3 * (n : Int))) w) := by
  go_enter Tryd.func39, Tryd.ntmps39
  go_wp2_with fail
  go_loopw [1, 5] (fun p i wr => ∃ k : Nat, k ≤ n ∧ i = .int .i64 k ∧ p = .int .i64 ((m : Int) + 3 * (k : Int)) ∧ w.grownBy wr none) (fun _ i _ => n - (intOf i).toNat)
  case atStart => exact ⟨0, Nat.zero_le _, rfl, by simp, gr_refl _ _⟩
  case round =>
    obtain ⟨k, hk, rfl, rfl, hg⟩ := hrel
    by_cases hlt : k < n
    · obtain ⟨x, rfl, _, cx, cy, cz⟩ := mk_cells (h.kept hg) hlt
      have h3 := mod3 m k
      have h4 := mod3a m k
      clear h
      go_wp2_with fail
      go_roundw
      case rel => exact ⟨k + 1, by omega, by go_num, by congr 1 <;> omega, hg⟩
      case measure => simp [intOf]; omega
    · obtain rfl : k = n := by omega
      go_wp2_with fail
      go_ret
      exact ⟨rfl, hg⟩
end Go.Proofs.YtnkimjmpjnhlnaaDoor.fan
