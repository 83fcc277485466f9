/- A list of frames of one's own: marked, and held; the bulk of one that came in; its copy. -/
import Derived.Test.YtfobbjimcmjfkaaDoorStMem
namespace Go.Proofs.YtfobbjimcmjfkaaDoor.stm
open Go.ChangeShapes Go.WideShapes Go.ChangeAt Go.RowKit
open Go.Proofs.YtfobbjimcmjfkaaDoor.nums Go.Proofs.YtfobbjimcmjfkaaDoor.mem Go.Proofs.YtfobbjimcmjfkaaDoor.txt Go.Proofs.YtfobbjimcmjfkaaDoor.fix Go.Proofs.YtfobbjimcmjfkaaDoor.frm
open Go.Proofs.YtfobbjimcmjfkaaDoor.tab (Ret quiet_w wpList_make_has add_off)
set_option linter.unusedVariables false

def mks (m n : Nat) : List Int := (List.range n).map fun (j : Nat) => ((m + j : Nat) : Int)
theorem mks_len (m n : Nat) : (mks m n).length = n := by simp [mks]
theorem mks_at {m n j : Nat} (h : j < n) : nth (mks m n) j = ((m + j : Nat) : Int) := by rw [nth_lt (by rw [mks_len]; exact h)]; simp [mks]

/-- The values lie in a block of numbers that is known whole. -/
def OwnV (w : World) (a : Option Addr) (vs : List Int) : Prop := vs = [] ∨ ∃ (g o : Nat) (cs : Array Value), a = some ⟨g, o, none⟩ ∧ Has w g 2 cs ∧ ∀ j, j < vs.length → cs[o + j]? = some (.int .i64 (nth vs j))
theorem OwnV.of {base : Nat} {w : World} {a : Option Addr} {vs : List Int} (h : Own base w a vs) : OwnV w a vs := by
  by_cases hv : vs = []
  · exact Or.inl hv
  · obtain ⟨g, o, cs, ha, hb, hc, hj⟩ := h
    exact Or.inr ⟨g, o, cs, ha hv, hc, hj⟩
theorem OwnV.ints {w : World} {a : Option Addr} {vs : List Int} (h : OwnV w a vs) : Ints w a vs := by
  rcases h with rfl | ⟨g, o, cs, rfl, hc, hj⟩
  · exact Ints.nil _ _
  · intro k hk
    refine ⟨_, rfl, hc.lt, ?_⟩
    rw [addo, hc.cell]; exact hj k hk
/-- The block of the values, where there are any. -/
def blkV (a : Option Addr) (vs : List Int) (b : Nat) : Prop := vs ≠ [] ∧ ∃ x : Addr, a = some x ∧ x.block = b
theorem Chg.ownV {S : Nat → Prop} {w w' : World} {a : Option Addr} {vs : List Int} (h : Chg S w w') (H : OwnV w a vs) (hn : ∀ b, blkV a vs b → ¬ S b) : OwnV w' a vs := by
  rcases H with rfl | ⟨g, o, cs, rfl, hc, hj⟩
  · exact Or.inl rfl
  · by_cases hv : vs = []
    · exact Or.inl hv
    · exact Or.inr ⟨g, o, cs, rfl, h.has hc (hn g ⟨hv, _, rfl, rfl⟩), hj⟩
theorem OwnV.lt {w : World} {a : Option Addr} {vs : List Int} (h : OwnV w a vs) {b : Nat} (hb : blkV a vs b) : b < w.heap.size := by
  obtain ⟨hne, x, rfl, rfl⟩ := hb
  rcases h with rfl | ⟨g, o, cs, e, hc, hj⟩
  · exact absurd rfl hne
  · injection e with e; subst e; exact hc.lt
/-- A block of something else is not the values'. -/
theorem OwnV.ne {w : World} {a : Option Addr} {vs : List Int} (h : OwnV w a vs) {g : Nat} {t : TypeId} {cs : Array Value} (H : Has w g t cs) (ht : t ≠ 2) : ¬ blkV a vs g := by
  rintro ⟨hne, x, rfl, rfl⟩
  rcases h with rfl | ⟨g, o, cs', e, hc, hj⟩
  · exact hne rfl
  · injection e with e
    subst e
    have h4 := H.symm.trans hc
    simp at h4
    exact ht h4.2

/-- The marks are laid, from m on. -/
def MarkedV (m : Nat) (vs : List Int) (a : Option Addr) (w : World) (e : Ending) (w' : World) : Prop := e = .returned (.int .i64 ((m : Int) + vs.length)) ∧ Chg (blkV a vs) w w' ∧ Ints w' a (mks m vs.length)

set_option maxRecDepth 100000 in
set_option maxHeartbeats 1000000 in
theorem markV (m : Nat) (a : Option Addr) (cap : Nat) (vs : List Int) (w : World) (h : OwnV w a vs) (hl : vs.length ≤ 10000000) (hm : m ≤ 10000000) : Calls Tryd.prog 49 #[.slice a vs.length cap, .int .i64 m] w (MarkedV m vs a w) := by
  by_cases hv : vs = []
  · subst hv
    go_enter Tryd.func49, Tryd.ntmps49
    go_wp2_with fail
    go_loopw [1, 5] (fun p i wr => w = wr ∧ p = .int .i64 m ∧ i = .int .i64 0) (fun _ _ _ => 0)
    case atStart => exact ⟨rfl, rfl, rfl⟩
    case round =>
      obtain ⟨rfl, rfl, rfl⟩ := hrel
      go_wp2_with fail
      go_ret
      exact ⟨by simp, Chg.refl _ _, Ints.nil _ _⟩
  · obtain ⟨g, o, cs, rfl, hc, hj⟩ := h.resolve_left hv
    have HV := Lib.hid hv
    clear hv h
    go_enter Tryd.func49, Tryd.ntmps49
    go_wp2_with fail
    go_loopw [1, 5] (fun p i wr => ∃ (k : Nat) (A : Array Value), k ≤ vs.length ∧ i = .int .i64 k ∧ p = .int .i64 ((m : Int) + k) ∧ Has wr g 2 A ∧ Hid (∀ j, j < vs.length → ∃ u, A[o + j]? = some u) ∧ Hid (∀ j, j < k → A[o + j]? = some (.int .i64 ((m + j : Nat) : Int))) ∧ w.grownBy wr (some g)) (fun _ i _ => vs.length - (intOf i).toNat)
    case atStart => exact ⟨0, cs, Nat.zero_le _, rfl, by simp, hc, Lib.hid (fun j hj' => ⟨_, hj j hj'⟩), Lib.hid (fun j hj' => by omega), gr_refl _ _⟩
    case round =>
      obtain ⟨k, A, hk, rfl, rfl, hA, hs, hr, hg⟩ := hrel
      by_cases hlt : k < vs.length
      · obtain ⟨u, hu⟩ := hs.out k hlt
        have d0 := (hA.cell (o + k)).trans hu
        have f0 := hA.frozen (o + k)
        have hsz : o + k < A.size := (Array.getElem?_eq_some_iff.1 hu).1
        clear hu
        go_wp2_with fail
        go_roundw
        case rel => exact ⟨k + 1, _, by omega, by go_num, by go_num, hA.set _ _, Lib.hid (fun j hj' => by
            by_cases e : j = k
            · subst e; exact ⟨_, Array.getElem?_setIfInBounds_self_of_lt hsz⟩
            · rw [Array.getElem?_setIfInBounds_ne (by omega)]; exact hs.out j hj'), Lib.hid (fun j hj' => by
            by_cases e : j = k
            · subst e; rw [Array.getElem?_setIfInBounds_self_of_lt hsz]; simp
            · rw [Array.getElem?_setIfInBounds_ne (by omega)]; exact hr.out j (by omega)), gr_set hg _ _⟩
        case measure => simp [intOf]; omega
      · obtain rfl : k = vs.length := by omega
        go_wp2_with fail
        go_ret
        refine ⟨rfl, ?_, fun j hj' => ⟨_, rfl, hA.lt, ?_⟩⟩
        · exact chg_of_gr hg (fun b e => by injection e with e; subst e; exact ⟨HV.out, _, rfl, rfl⟩)
        · rw [mks_len] at hj'
          rw [addo, hA.cell, hr.out j hj', mks_at hj']

set_option maxRecDepth 100000 in
set_option maxHeartbeats 1000000 in
theorem heldV (m : Nat) (a : Option Addr) (cap n : Nat) (w : World) (h : Ints w a (mks m n)) (hl : n ≤ 10000000) (hm : m ≤ 10000000) : Calls Tryd.prog 50 #[.slice a n cap, .int .i64 m] w (Ret (.int .i64 ((m : Int) + n)) w) := by
  go_enter Tryd.func50, Tryd.ntmps50
  go_wp2_with fail
  go_loopw [1, 5] (fun p i wr => ∃ k : Nat, k ≤ n ∧ i = .int .i64 k ∧ p = .int .i64 ((m : Int) + k) ∧ w.grownBy wr none) (fun _ i _ => n - (intOf i).toNat)
  case atStart => exact ⟨0, Nat.zero_le _, rfl, by simp, gr_refl _ _⟩
  case round =>
    obtain ⟨k, hk, rfl, rfl, hg⟩ := hrel
    by_cases hlt : k < n
    · obtain ⟨x, rfl, _, cx⟩ := (h.kept hg) k (by rw [mks_len]; exact hlt)
      rw [mks_at hlt, Int.natCast_add] at cx
      go_wp2_with fail
      go_roundw
      case rel => exact ⟨k + 1, by omega, by go_num, by go_num, hg⟩
      case measure => simp [intOf]; omega
    · obtain rfl : k = n := by omega
      go_wp2_with fail
      go_ret
      exact ⟨rfl, hg⟩
end Go.Proofs.YtfobbjimcmjfkaaDoor.stm
