/- The cursor over the bytes of a draw: whatever it hands out is in range, and it turns no memory but its own. -/
import Derived.Test.YtdikhdfpcipdbaaGreatDoorFix2
import Derived.Test.YtdikhdfpcipdbaaGreatDoorMem
import Derived.BigQuiet
import Derived.Deep.QuietTactic
import Derived.Laws.BitsLemmas
namespace Go.Proofs.YtdikhdfpcipdbaaGreatDoor.cur
open Go.ChangeShapes Go.WideShapes Go.ChangeAt Go.RowKit
open Go.Proofs.YtdikhdfpcipdbaaGreatDoor.nums Go.Proofs.YtdikhdfpcipdbaaGreatDoor.mem
set_option linter.unusedVariables false

/-- The bytes that a draw reads: so many, each in its cell, in a block below q. -/
def Bytes (w : World) (q : Nat) (b : Option Addr) (n : Nat) : Prop := ∀ k, k < n → ∃ (x : Addr) (z : Int), b = some x ∧ x.block < q ∧ w.cell? (x.add k) = some (.int .u8 z) ∧ 0 ≤ z ∧ z ≤ 255
/-- A cursor in block q. -/
def Cur (b : Option Addr) (n c : Nat) (w : World) (q : Nat) : Prop :=
  Bytes w q b n ∧ ∃ (i : Nat) (h : Int), i ≤ n ∧ Has w q 83 #[.slice b n c, .int .i64 i, .int .i64 h]
/-- A draw from it: a number with P; of what was there its own block alone is another. -/
def Drawn (P : Int → Prop) (b : Option Addr) (n c : Nat) (w : World) (q : Nat) (e : Ending) (w' : World) : Prop :=
  ∃ x : Int, P x ∧ e = .returned (.int .i64 x) ∧ w.grownBy w' (some q) ∧ Cur b n c w' q

theorem block_add (a : Addr) (n : Nat) : (a.add n).block = a.block := by unfold Addr.add; split <;> rfl
theorem Bytes.kept {w w' : World} {q n : Nat} {b : Option Addr} (h : Bytes w q b n) (hq : q ≤ w.heap.size) (hg : w.grownBy w' (some q)) : Bytes w' q b n := by
  intro k hk
  obtain ⟨x, z, e, hx, hc, hz⟩ := h k hk
  refine ⟨x, z, e, hx, ?_, hz⟩
  rw [← hc]
  refine World.cell?_of_block (hg.block _ ?_ ?_)
  · rw [block_add]; omega
  · rw [block_add]; intro e; injection e with e; omega

theorem and_mask (x : Int) (m : Nat) (hm : m < 4611686018427387904) : 0 ≤ bits .and .i64 x (m : Int) ∧ bits .and .i64 x (m : Int) ≤ m := by
  have h : (BitVec.ofInt 64 (m : Int)).toNat = m := by
    rw [BitVec.ofInt_natCast, BitVec.toNat_ofNat]; exact Nat.mod_eq_of_lt (by omega)
  have e : bits .and .i64 x (m : Int) = IntKind.i64.wrap ((BitVec.ofInt 64 x &&& BitVec.ofInt 64 (m : Int)).toNat : Int) := rfl
  have l : (BitVec.ofInt 64 x &&& BitVec.ofInt 64 (m : Int)).toNat ≤ m := by
    rw [BitVec.toNat_and, h]; exact Nat.and_le_right
  rw [e, IntKind.wrap_i64]
  omega
theorem and_255 (x : Int) : 0 ≤ bits .and .i64 x 255 ∧ bits .and .i64 x 255 ≤ 255 := and_mask x 255 (by decide)

set_option maxHeartbeats 400000 in
theorem byte (b : Option Addr) (n c q : Nat) (w : World) (hn : n ≤ 4096) (h : Cur b n c w q) :
    Calls Tryz.prog 61 #[.pointer (some ⟨q, 0, none⟩)] w (Drawn (fun x => 0 ≤ x ∧ x ≤ 255) b n c w q) := by
  obtain ⟨hb, i, h, hi, hh⟩ := h
  have c2 := hh.cell 2; have f2 := hh.frozen 2
  simp at c2
  go_enter Tryz.func61, Tryz.ntmps61
  go_wp2
  generalize wrap64 (wrap64 (h * 6364136223846793005) + 1442695040888963407) = v
  have hh1 := hh.set 2 (.int .i64 v)
  have g1 := gr_set (gr_refl w (some q)) 2 (.int .i64 v)
  have hb1 := hb.kept (Nat.le_of_lt hh.lt) g1
  generalize w.setCell ⟨q, 2, none⟩ (.int .i64 v) = w1 at *
  simp at hh1
  clear c2 f2 hh hb
  have c0 := hh1.cell 0; have c1 := hh1.cell 1; have c2 := hh1.cell 2; have f1 := hh1.frozen 1
  simp at c0 c1 c2
  go_quiet (fail)
  obtain ⟨m0, m1⟩ := and_255 (bits BinOp.xor IntKind.i64 (v / 8589934592) (v / 35184372088832))
  generalize bits BinOp.and IntKind.i64 (bits BinOp.xor IntKind.i64 (v / 8589934592) (v / 35184372088832)) 255 = m at *
  go_wp2
  by_cases hlt : i < n
  · obtain ⟨x, z, rfl, hx, hz, hz0, hz1⟩ := hb1 i hlt
    go_quiet (fail)
    go_wp2
    go_quiet (fail)
    obtain ⟨k0, k1⟩ := and_255 (m + z)
    go_wp2
    go_ret
    exact ⟨_, ⟨k0, k1⟩, rfl, gr_set (gr_drewN g1 _) 1 _, hb1.kept (Nat.le_of_lt hh1.lt) (gr_set (gr_drewN (gr_refl w1 (some q)) _) 1 _), i + 1, v, by omega, (hh1.drewN _).put 1 _ rfl⟩
  · go_quiet (fail)
    go_wp2
    go_ret
    exact ⟨_, ⟨m0, m1⟩, rfl, gr_drewN (gr_drewN g1 _) _, hb1, i, v, hi, hh1⟩

theorem Drawn.next {P : Int → Prop} {b : Option Addr} {n c q : Nat} {w w1 w2 : World} {e : Ending} (g : w.grownBy w1 (some q)) (h : Drawn P b n c w1 q e w2) : Drawn P b n c w q e w2 := by
  obtain ⟨x, hx, he, hg, hc⟩ := h
  exact ⟨x, hx, he, gr_trans g hg, hc⟩

set_option maxHeartbeats 400000 in
theorem below (b : Option Addr) (n c q : Nat) (w : World) (m : Int) (hn : n ≤ 4096) (h : Cur b n c w q) (hm : 1 ≤ m) :
    Calls Tryz.prog 22 #[.pointer (some ⟨q, 0, none⟩), .int .i64 m] w (Drawn (fun x => 0 ≤ x ∧ x < m) b n c w q) := by
  have hm0 : decide (m ≤ 0) = false := by simp; omega
  by_cases hs : m ≤ 256
  · go_enter Tryz.func22, Tryz.ntmps22
    go_wp2_with fail
    refine (byte b n c q _ hn h).mono ?_
    rintro e w1 ⟨x, ⟨x0, x1⟩, rfl, g1, h1⟩
    go_wp2_with fail
    go_ret
    exact ⟨_, ⟨Int.emod_nonneg _ (by omega), Int.emod_lt_of_pos _ (by omega)⟩, rfl, g1, h1⟩
  · go_enter Tryz.func22, Tryz.ntmps22
    go_wp2_with fail
    refine (byte b n c q _ hn h).mono ?_
    rintro e w1 ⟨x, ⟨x0, x1⟩, rfl, g1, h1⟩
    go_wp2_with fail
    refine (byte b n c q _ hn h1).mono ?_
    rintro e w2 ⟨y, ⟨y0, y1⟩, rfl, g2, h2⟩
    go_wp2_with fail
    refine (byte b n c q _ hn h2).mono ?_
    rintro e w3 ⟨z, ⟨z0, z1⟩, rfl, g3, h3⟩
    go_wp2_with fail
    refine (byte b n c q _ hn h3).mono ?_
    rintro e w4 ⟨u, ⟨u0, u1⟩, rfl, g4, h4⟩
    go_wp2_with fail
    go_ret
    exact ⟨_, ⟨Int.emod_nonneg _ (by omega), Int.emod_lt_of_pos _ (by omega)⟩, rfl, gr_trans g1 (gr_trans g2 (gr_trans g3 g4)), h4⟩

/-- A draw's number is within 64 bits. -/
def In64 (x : Int) : Prop := -9223372036854775808 ≤ x ∧ x ≤ 9223372036854775807

theorem once (b : Option Addr) (n c q : Nat) (w : World) (m : Int) (hn : n ≤ 4096) (h : Cur b n c w q) (hm : 1 ≤ m) :
    Calls Tryz.prog 25 #[.pointer (some ⟨q, 0, none⟩), .int .i64 m] w fun e w' => ∃ v : Bool, e = .returned (.bool v) ∧ w.grownBy w' (some q) ∧ Cur b n c w' q := by
  go_enter Tryz.func25, Tryz.ntmps25
  go_wp2_with fail
  refine (below b n c q _ m hn h hm).mono ?_
  rintro e w1 ⟨x, ⟨x0, x1⟩, rfl, g1, h1⟩
  go_wp2_with fail
  go_ret
  exact ⟨_, rfl, g1, h1⟩

theorem from_ (b : Option Addr) (n c q : Nat) (w : World) (lo hi : Int) (hn : n ≤ 4096) (h : Cur b n c w q) (h1 : lo ≤ hi) (h2 : -4611686018427387904 ≤ lo) (h3 : hi ≤ 4611686018427387900) (h4 : hi - lo ≤ 4611686018427387900) :
    Calls Tryz.prog 31 #[.pointer (some ⟨q, 0, none⟩), .int .i64 lo, .int .i64 hi] w (Drawn (fun x => lo ≤ x ∧ x ≤ hi) b n c w q) := by
  go_enter Tryz.func31, Tryz.ntmps31
  go_wp2_with fail
  refine (below b n c q _ _ hn h (by omega)).mono ?_
  rintro e w1 ⟨x, ⟨x0, x1⟩, rfl, g1, h1⟩
  go_wp2_with fail
  go_ret
  exact ⟨_, ⟨by omega, by omega⟩, rfl, g1, h1⟩
end Go.Proofs.YtdikhdfpcipdbaaGreatDoor.cur
