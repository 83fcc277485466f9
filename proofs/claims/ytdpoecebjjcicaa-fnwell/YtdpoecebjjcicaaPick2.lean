/- A choice out of the bytes of a draw, told: the same in every world that holds the bytes. -/
import Derived.Test.YtdpoecebjjcicaaPick
import Derived.Lib.Hide
namespace Go.Proofs.Ytdpoecebjjcicaa.cur
open Go.ChangeShapes Go.WideShapes Go.ChangeAt Go.RowKit
open Go.Proofs.Ytdpoecebjjcicaa.nums Go.Proofs.Ytdpoecebjjcicaa.mem
set_option linter.unusedVariables false

/-- The bytes that lie there. -/
def Known (w : World) (b : Option Addr) (n : Nat) (f : Nat → Int) : Prop := ∀ k, k < n → ∃ x : Addr, b = some x ∧ x.block < w.heap.size ∧ w.cell? (x.add k) = some (.int .u8 (f k)) ∧ 0 ≤ f k ∧ f k ≤ 255
theorem known_of {w : World} {b : Option Addr} {n : Nat} (h : Bytes w w.heap.size b n) : ∃ f, Known w b n f := by
  have h2 : ∀ k : Nat, ∃ z : Int, k < n → ∃ x : Addr, b = some x ∧ x.block < w.heap.size ∧ w.cell? (x.add k) = some (.int .u8 z) ∧ 0 ≤ z ∧ z ≤ 255 := fun k => by
    by_cases hk : k < n
    · obtain ⟨x, z, e, hb, hc, h0, h1⟩ := h k hk
      exact ⟨z, fun _ => ⟨x, e, hb, hc, h0, h1⟩⟩
    · exact ⟨0, fun h => absurd h hk⟩
  obtain ⟨f, hf⟩ := Classical.skolem.1 h2
  exact ⟨f, fun k hk => hf k hk⟩
theorem Known.kept {w w' : World} {b : Option Addr} {n : Nat} {f : Nat → Int} (h : Known w b n f) (hg : w.grownBy w' none) : Known w' b n f := by
  intro k hk
  obtain ⟨x, e, hb, hc, h0⟩ := h k hk
  exact ⟨x, e, Nat.lt_of_lt_of_le hb hg.size, (World.cell?_of_block (hg.block _ (by rw [block_add]; exact hb) (by simp))).trans hc, h0⟩
def pkv (f : Nat → Int) (n : Nat) (s : Int) : Nat → Int
  | 0 => (n : Int) + 7919 * s
  | j + 1 => (pkv f n s j * 337 + f j + s) % 1000003
/-- What is chosen. -/
def pkd (f : Nat → Int) (n : Nat) (s m : Int) : Int := pkv f n s n % m
theorem pkd_in {f : Nat → Int} {n : Nat} {s m : Int} (hm : 1 ≤ m) : 0 ≤ pkd f n s m ∧ pkd f n s m < m := ⟨Int.emod_nonneg _ (by omega), Int.emod_lt_of_pos _ (by omega)⟩

set_option maxHeartbeats 1000000 in
theorem pick_at {b : Option Addr} {n c : Nat} {s m : Int} {f : Nat → Int} (w : World) (hn : n ≤ 4096) (hb : Known w b n f) (hs0 : 0 ≤ s) (hs1 : s ≤ 1000) (hm : 1 ≤ m) (hm2 : m ≤ 1000000) :
    Calls Try.prog 19 #[.slice b n c, .int .i64 s, .int .i64 m] w fun e w' => e = .returned (.int .i64 (pkd f n s m)) ∧ w = w' := by
  go_enter Try.func19, Try.ntmps19
  go_wp2_with fail
  go_loopw [7, 8] (fun k i wr => w = wr ∧ ∃ (j : Nat) (v : Int), j ≤ n ∧ i = .int .i64 j ∧ k = .int .i64 v ∧ 0 ≤ v ∧ v ≤ 20000000 ∧ Hid (v = pkv f n s j)) (fun k i _ => n - (intOf i).toNat)
  case atStart => exact ⟨rfl, 0, _, Nat.zero_le _, rfl, rfl, by omega, by omega, Lib.hid rfl⟩
  case round =>
    obtain ⟨rfl, j, v, hj, rfl, rfl, hv0, hv1, hV⟩ := hrel
    by_cases hlt : j < n
    · obtain ⟨x, rfl, hx, hz, hz0, hz1⟩ := hb j hlt
      have HN : Hid ((v * 337 + f j + s) % 1000003 = pkv f n s (j + 1)) := Lib.hid (by rw [pkv, hV.out])
      generalize f j = z at *
      clear hV
      go_wp2_with fail
      go_roundw
      case rel => exact ⟨trivial, j + 1, _, by omega, by go_num, rfl, by omega, by omega, HN⟩
      case measure => simp [intOf]; omega
    · obtain rfl : j = n := by omega
      have HN : Hid (pkd f j s m = v % m) := Lib.hid (by unfold pkd; rw [hV.out])
      clear hV
      go_wp2_with fail
      go_ret
      exact ⟨by rw [HN.out]; rfl, rfl⟩
end Go.Proofs.Ytdpoecebjjcicaa.cur
