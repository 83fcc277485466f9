/- Two frames that hold the same are told alike; SumOf's text is drawn. -/
import Derived.Test.YtgilpdgomneaoaaDoorFrMark
import Derived.Test.YtgilpdgomneaoaaDoorFrDraw2
namespace Go.Proofs.YtgilpdgomneaoaaDoor.frm
open Go.ChangeShapes Go.WideShapes Go.ChangeAt Go.RowKit
open Go.Proofs.YtgilpdgomneaoaaDoor.nums Go.Proofs.YtgilpdgomneaoaaDoor.mem Go.Proofs.YtgilpdgomneaoaaDoor.txt Go.Proofs.YtgilpdgomneaoaaDoor.fix Go.Proofs.YtgilpdgomneaoaaDoor.cur
open Go.Proofs.YtgilpdgomneaoaaDoor.tab (Ret quiet_w wpList_make_has)
set_option linter.unusedVariables false

set_option maxHeartbeats 1000000 in
theorem likeInts (a a' : Option Addr) (cap cap' : Nat) (l : List Int) (w : World) (h : Ints w a l) (h' : Ints w a' l) (hl : l.length ≤ maxLen) :
    Calls Tryd.prog 42 #[.slice a l.length cap, .slice a' l.length cap'] w (Ret (.bool true) w) := by
  have hm : l.length ≤ 9223372036854775807 := by unfold maxLen at hl; exact hl
  clear hl
  go_enter Tryd.func42, Tryd.ntmps42
  go_wp2
  go_loopw [5] (fun i wr => ∃ k : Nat, k ≤ l.length ∧ i = .int .i64 k ∧ w.grownBy wr none) (fun i _ => l.length - (intOf i).toNat)
  case atStart => exact ⟨0, Nat.zero_le _, rfl, gr_refl _ _⟩
  case round =>
    obtain ⟨k, hk, rfl, hg⟩ := hrel
    by_cases hlt : k < l.length
    · obtain ⟨x, rfl, _, cx⟩ := (h.kept hg) k hlt
      obtain ⟨x', rfl, _, dx⟩ := (h'.kept hg) k hlt
      go_wp2_with fail
      go_quiet (fail)
      go_wp2_with fail
      go_roundw
      case rel => exact ⟨k + 1, by omega, by go_num, gr_drewN hg _⟩
      case measure => simp [intOf]; omega
    · obtain rfl : k = l.length := by omega
      go_wp2_with fail
      go_ret
      exact ⟨rfl, hg⟩

set_option maxHeartbeats 1000000 in
theorem likeFrame (k sq : Int) (a a' : Option Addr) (cap cap' : Nat) (l : List Int) (w : World) (h : Ints w a l) (h' : Ints w a' l) (hl : l.length ≤ maxLen) :
    Calls Tryd.prog 15 #[fr k sq a l.length cap, fr k sq a' l.length cap'] w (Ret (.bool true) w) := by
  go_enter Tryd.func15, Tryd.ntmps15
  go_wp2_with fail
  refine (likeInts a a' cap cap' l _ ((h.kept (World.grownBy_alloc _ _ _)).kept (World.grownBy_alloc _ _ _)) ((h'.kept (World.grownBy_alloc _ _ _)).kept (World.grownBy_alloc _ _ _)) hl).mono ?_
  rintro e w' ⟨rfl, hg⟩
  go_wp2_with fail
  go_ret
  exact ⟨rfl, gr_trans (gr_alloc (World.grownBy_alloc _ _ _) _) hg⟩

theorem showF_small (k sq : Int) (vs : List Int) : (showF k sq vs).length ≤ 1000 := by
  cases ho : okF k sq vs with
  | false => simp [showF, ho]
  | true =>
    have hl := aheadF_len ho
    have b1 := sumL_small (aheadF k sq vs)
    have := itoa_len (sumL (aheadF k sq vs)) b1.1 b1.2
    rw [showF_ok ho]
    simp [behind]
    omega

theorem info8 : (Tryd.prog.info? 5).map (fun i => (i.zero, i.size, i.bytes)) = some (some (.int .u8 0), 1, 1) := by kernel_rfl
theorem conv_zeros (w : World) (n : Nat) : (convert 22 9 (.slice (some ⟨w.heap.size, 0, none⟩) n n)).run Tryd.prog (w.alloc (.cells (madeCells #[.int .u8 0] n) 5)) = .ok (str (List.replicate n 0)) (w.alloc (.cells (madeCells #[.int .u8 0] n) 5)) := by
  have := run_convert_bytes_back (P := Tryd.prog) (w.alloc (.cells (madeCells #[.int .u8 0] n) 5)) _ _ 5 ⟨w.heap.size, 0, none⟩ n (List.replicate n 0) Tryd.underlying22 Tryd.underlying5 Tryd.underlying9 (fun j hj => by
    have hj' : j < n := by simpa using hj
    have hc := (Has.fresh w 5 (madeCells #[.int .u8 0] n)).cell j
    have e : (madeCells #[Value.int .u8 0] n)[j]? = some (.int .u8 0) := by
      simp [madeCells, hj', Nat.mod_one]
    rw [e] at hc
    rw [show Addr.add ⟨w.heap.size, 0, none⟩ j = ⟨w.heap.size, j, none⟩ by simp [Addr.add]; intro h; exact h.symm]
    rw [hc]
    simp)
  rw [List.length_replicate] at this
  exact this

theorem conv_some (w : World) (n : Nat) : ∃ T : List UInt8, T.length = n ∧ (convert 22 9 (.slice (some ⟨w.heap.size, 0, none⟩) n n)).run Tryd.prog (w.alloc (.cells (madeCells #[.int .u8 0] n) 5)) = .ok (str T) (w.alloc (.cells (madeCells #[.int .u8 0] n) 5)) :=
  ⟨List.replicate n 0, by simp, conv_zeros w n⟩

/-- Some text, not long. -/
def NewT (m : Nat) (w : World) (e : Ending) (w' : World) : Prop := ∃ l : List UInt8, e = .returned (str l) ∧ l.length ≤ m ∧ w.grownBy w' none

set_option maxRecDepth 100000 in
set_option maxHeartbeats 4000000 in
theorem drawSum (b : Option Addr) (n c : Nat) (w : World) (hn : n ≤ 4096) (hb : Bytes w w.heap.size b n) : Calls Tryd.prog 13 #[.slice b n c] w (NewT 1000 w) := by
  obtain ⟨i0, hi, hz0, hz1, hz2⟩ := info_parts info8
  go_enter Tryd.func13, Tryd.ntmps13
  go_wp2_with fail
  refine (new b n c _ hn hb).mono ?_
  rintro e w1 ⟨q, rfl, hq, g1, h1⟩
  go_wp2_with fail
  refine (once b n c q _ 10 hn h1 (by omega)).mono ?_
  rintro e w2 ⟨v, rfl, g2, h2⟩
  have g0 := gr_past g1 g2 hq
  clear g1 g2 h1
  cases v
  · go_wp2_with fail
    refine (drawF b n c q _ hn h2).mono ?_
    rintro e w3 ⟨k, sq, vs, a, cap, rfl, hI, _, hl6, g3, h3⟩
    replace g0 := gr_past g0 g3 hq
    go_wp2_with fail
    refine (specShow k sq a cap vs _ hI.ints (by unfold maxLen; omega)).mono ?_
    rintro e w4 ⟨rfl, g4⟩
    go_wp2_with fail
    go_ret
    exact ⟨_, rfl, showF_small _ _ _, gr_trans g0 g4⟩
  · go_wp2_with fail
    refine (below b n c q _ 2 hn h2 (by omega)).mono ?_
    rintro e w3 ⟨x, ⟨x0, x1⟩, rfl, g3, h3⟩
    replace g0 := gr_past g0 g3 hq
    have hx : x = 0 ∨ x = 1 := by omega
    clear x0 x1
    rcases hx with rfl | rfl
    · go_wp2_with (at_make; refine wpList_make_has _ rfl _ _ _ rfl 5 i0 _ 1 Tryd.underlying22 hi hz0 hz1 .i64 .i64 _ _ 200 rfl rfl (by omega) (by omega) (by rw [hz2]; omega) (by unfold maxLen; omega) ?_)
      obtain ⟨T, hT, cc⟩ := conv_some w3 200
      have hT2 : T.length ≤ 1000 := by omega
      go_wp2_with fail
      rw [cc]
      go_wp2_with fail
      go_ret
      exact ⟨_, rfl, hT2, gr_alloc g0 _⟩
    · go_wp2_with (at_make; refine wpList_make_has _ rfl _ _ _ rfl 5 i0 _ 1 Tryd.underlying22 hi hz0 hz1 .i64 .i64 _ _ 201 rfl rfl (by omega) (by omega) (by rw [hz2]; omega) (by unfold maxLen; omega) ?_)
      obtain ⟨T, hT, cc⟩ := conv_some w3 201
      have hT2 : T.length ≤ 1000 := by omega
      go_wp2_with fail
      rw [cc]
      go_wp2_with fail
      go_ret
      exact ⟨_, rfl, hT2, gr_alloc g0 _⟩
end Go.Proofs.YtgilpdgomneaoaaDoor.frm
