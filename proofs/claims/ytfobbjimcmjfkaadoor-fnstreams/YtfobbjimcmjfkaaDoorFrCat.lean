/- slices.Grow of a nil list, slices.Concat of one number and a list: a new list of them all. -/
import Derived.Test.YtfobbjimcmjfkaaDoorFrShow
import Derived.Lib.AppendZeros
import Derived.Deep.AppendLies
import Derived.Deep.DeepMust
namespace Go.Proofs.YtfobbjimcmjfkaaDoor.frm
open Go.ChangeShapes Go.WideShapes Go.ChangeAt Go.RowKit
open Go.Proofs.YtfobbjimcmjfkaaDoor.nums Go.Proofs.YtfobbjimcmjfkaaDoor.mem Go.Proofs.YtfobbjimcmjfkaaDoor.txt Go.Proofs.YtfobbjimcmjfkaaDoor.fix
open Go.Proofs.YtfobbjimcmjfkaaDoor.tab (Ret quiet_w wpList_make_has)
set_option linter.unusedVariables false

abbrev vals (l : List Int) : List Value := l.map (Value.int .i64)
/-- The list l is a row of its own, in a block that is not below base. -/
abbrev Row (w : World) (base g cap : Nat) (l : List Int) : Prop := w.ownsRow base 2 1 (.slice (some ⟨g, 0, none⟩) l.length cap) l.length (vals l)
theorem Row.ints {w : World} {base g cap : Nat} {l : List Int} (h : Row w base g cap l) : Ints w (some ⟨g, 0, none⟩) l := by
  intro k hk
  refine ⟨_, rfl, (h.lt g rfl).2, ?_⟩
  refine h.cells rfl k _ ?_
  rw [nth_lt hk]; simp [hk]
theorem Ints.news {w : World} {a : Addr} {l : List Int} (h : Ints w (some a) l) : ∀ j u, (vals l)[j]? = some u → w.cell? (a.add j) = some u := by
  intro j u hj
  have hj' : j < l.length := by have := (List.getElem?_eq_some_iff.1 hj).1; simpa using this
  obtain ⟨x, e, _, hc⟩ := h j hj'
  injection e with e
  subst e
  rw [hc, nth_lt hj']
  simpa [hj'] using hj
theorem vals_one (l : List Int) : ∀ u ∈ vals l, u.oneCell' = true := by
  intro u hu
  simp only [vals, List.mem_map] at hu
  obtain ⟨n, _, rfl⟩ := hu
  rfl

/-- Room for n numbers. -/
def Room (w : World) (e : Ending) (w' : World) : Prop := ∃ g cap, e = .returned (.slice (some ⟨g, 0, none⟩) 0 cap) ∧ w.heap.size ≤ g ∧ w.grownBy w' none ∧ Row w' w.heap.size g cap []

set_option maxRecDepth 100000 in
set_option maxHeartbeats 1000000 in
theorem growNil (n : Nat) (w : World) (h0 : 0 < n) (hn : n ≤ 1000) : Calls Tryd.prog 87 #[.slice none 0 0, .int .i64 n] w (Room w) := by
  obtain ⟨i0, hi, hz0, hz1, hz2⟩ := info_parts infoInt
  have hr := Lib.run_append_nil_zeros (P := Tryd.prog) w 35 3 35 2 i0 (.int .i64 0) .i64 .i64 Tryd.underlying35 Tryd.underlying3 hi hz0 n h0 (by omega) (by omega) (by rw [hz2]; omega)
  go_enter Tryd.func87, Tryd.ntmps87
  go_wp2_with (at_builtin; refine Lib.wpList_append_run _ rfl _ _ _ _ rfl _ _ rfl rfl _ _ hr ?_)
  go_ret
  have hge := grownCap_ge w n 0 2
  have hle := grownCap_le_maxLen w n 0 2 (by unfold maxLen; omega)
  refine ⟨w.heap.size, grownCap w n 0 2, rfl, Nat.le_refl _, gr_drewN (World.grownBy_alloc w _ none) 1, ?_⟩
  exact World.ownsRow_made (base := w.heap.size) (e := 2) (size := 1) w _ (grownCap w n 0 2) (Nat.le_refl _) hle (by simp [size_zeroCells]; omega)

/-- One number and a list, in a new list. -/
def Joined (sq : Int) (l : List Int) (w : World) (e : Ending) (w' : World) : Prop := ∃ g cap, e = .returned (.slice (some ⟨g, 0, none⟩) (sq :: l).length cap) ∧ w.grownBy w' none ∧ Ints w' (some ⟨g, 0, none⟩) (sq :: l)
/-- How many stand there, of the first k pieces. -/
def upto (l : List Int) (k : Nat) : Nat := if k = 0 then 0 else if k = 1 then 1 else 1 + l.length

set_option maxRecDepth 100000 in
set_option maxHeartbeats 2000000 in
theorem concat (sq : Int) (a : Option Addr) (cap b p : Nat) (l : List Int) (w : World) (h : Ints w a l) (hl : l.length ≤ 100) (h0 : l ≠ [])
    (hp : Ints w (some ⟨p, 0, none⟩) [sq]) (hb : Has w b 35 #[.slice (some ⟨p, 0, none⟩) 1 1, .slice a l.length cap]) :
    Calls Tryd.prog 78 #[.slice (some ⟨b, 0, none⟩) 2 2] w (Joined sq l w) := by
  obtain ⟨i0, hi, hz0, hz1, hz2⟩ := info_parts infoInt
  have hlp : 0 < l.length := List.length_pos_iff.2 h0
  have c0 := hb.cell 0
  have c1 := hb.cell 1
  simp at c0 c1
  go_enter Tryd.func78, Tryd.ntmps78
  go_wp2_with fail
  go_loopw [3, 11] (fun n i wr => w = wr ∧ ∃ k : Nat, k ≤ 2 ∧ i = .int .i64 k ∧ n = .int .i64 (upto l k)) (fun n i _ => 2 - (intOf i).toNat)
  case atStart => exact ⟨rfl, 0, by omega, rfl, rfl⟩
  case round =>
    obtain ⟨rfl, k, hk, rfl, rfl⟩ := hrel
    have hk3 : k = 0 ∨ k = 1 ∨ k = 2 := by omega
    rcases hk3 with rfl | rfl | rfl
    · simp only [upto, if_true]
      go_wp2_with fail
      go_roundw
      case rel => exact ⟨trivial, 1, by omega, by go_num, by simp⟩
      case measure => simp [intOf]
    · simp only [upto, if_true]
      go_wp2_with fail
      go_roundw
      case rel => exact ⟨trivial, 2, by omega, by go_num, by simp⟩
      case measure => simp [intOf]
    · simp only [upto]
      have cG : Calls Tryd.prog 87 #[.slice none 0 0, .int .i64 (1 + (l.length : Int))] w (Room w) := by have := growNil (1 + l.length) w (by omega) (by omega); simpa using this
      go_wp2_with fail
      refine cG.mono ?_
      rintro e w1 ⟨g0, cap0, rfl, hg0, hgr, hrow⟩
      go_wp2_with fail
      go_loopw [6, 27] (fun t i w2 => ∃ (k g cap1 : Nat) (xs : List Int), k ≤ 2 ∧ i = .int .i64 k ∧ t = .slice (some ⟨g, 0, none⟩) xs.length cap1 ∧ Row w2 w.heap.size g cap1 xs ∧ Hid (xs = if k = 0 then [] else if k = 1 then [sq] else sq :: l) ∧ w.grownBy w2 none) (fun t i _ => 2 - (intOf i).toNat)
      case atStart => exact ⟨0, g0, cap0, [], by omega, rfl, rfl, hrow, Lib.hid rfl, hgr⟩
      case round =>
        clear hrow hgr cG
        obtain ⟨k, g, cap1, xs, hk, rfl, rfl, hrow, hxs, hgr⟩ := hrel
        have hb2 := hb.grown hgr (by simp)
        have d0 := hb2.cell 0
        have d1 := hb2.cell 1
        simp at d0 d1
        have hp2 := hp.kept hgr
        have h2 := h.kept hgr
        have hge := (hrow.lt g rfl).1
        have hbase := hgr.size
        clear c0 c1
        have hk3 : k = 0 ∨ k = 1 ∨ k = 2 := by omega
        rcases hk3 with rfl | rfl | rfl
        · have hx0 : xs = [] := by have := hxs.out; simpa using this
          subst hx0
          go_wp2_with (at_builtin; go_must (refine wpList_append_lies _ rfl _ _ _ rfl w.heap.size 2 i0 _ 1 8 Tryd.underlying35 hi hz0 hz1 hz2 rfl (by omega) (.slice (some ⟨g, 0, none⟩) ([] : List Int).length cap1) ([] : List Int).length (vals []) rfl hrow ⟨p, 0, none⟩ 1 1 (vals [sq]) rfl rfl hp2.news (vals_one _) (by omega) (by unfold maxLen; simp) (by simp) hbase _ rfl ?_); intro gg cap2 w3 hown1 hgrow hat hlt)
          go_roundw
          case rel => exact ⟨1, gg, cap2, [sq], by omega, by go_num, rfl, hown1, Lib.hid rfl, gr_past hgr hgrow hge⟩
          case measure => simp [intOf]
        · have hx0 : xs = [sq] := by have := hxs.out; simpa using this
          subst hx0
          cases a with
          | none => exact absurd (h 0 hlp) (by rintro ⟨x, e, _⟩; cases e)
          | some ad =>
            go_wp2_with (at_builtin; refine wpList_append_lies _ rfl _ _ _ rfl w.heap.size 2 i0 _ 1 8 Tryd.underlying35 hi hz0 hz1 hz2 rfl (by omega) (.slice (some ⟨g, 0, none⟩) ([sq] : List Int).length cap1) ([sq] : List Int).length (vals [sq]) rfl hrow ad l.length cap (vals l) rfl (by simp) h2.news (vals_one _) hlp (by unfold maxLen; simp; omega) (by simp; omega) hbase _ rfl ?_; intro gg cap2 w3 hown1 hgrow hat hlt)
            go_roundw
            case rel => refine ⟨2, gg, cap2, sq :: l, by omega, by go_num, by simp [Nat.add_comm], ?_, Lib.hid rfl, gr_past hgr hgrow hge⟩; have e : ([sq] : List Int).length + l.length = (sq :: l).length := (by simp; omega); rw [e] at hown1; exact hown1
            case measure => simp [intOf]
        · have hx0 : xs = sq :: l := by have := hxs.out; simpa using this
          subst hx0
          go_wp2_with fail
          go_ret
          exact ⟨g, cap1, rfl, hgr, hrow.ints⟩
end Go.Proofs.YtfobbjimcmjfkaaDoor.frm
