/- A region that draws its order, whose operations but the last few only read and whose last few come in one order: walked once, inside the fence that asks nothing. Nothing here names the program. OutIn of both sides. Numbers copied and put in order; the one in the middle, the program's and the model's. The values of those that are fresh: the program's list and the model's. -/
import Derived.StillTailTactics
import Derived.TacticsIn
import Derived.OrdersIn
import Derived.BigFrameIn
import Derived.Below
import Derived.Test.YtdikhdfpcipdbaaGreatDoorG17
import Derived.Test.YtdikhdfpcipdbaaGreatDoorG4
import Derived.Test.YtdikhdfpcipdbaaGreatDoorG14
import Derived.Test.YtdikhdfpcipdbaaGreatDoorG7
import Derived.Sort.OwnSortedInts
/- A region that draws its order, whose operations but the last few only read and whose last few come in one order: walked once, inside the fence that asks nothing. Nothing here names the program. -/
namespace Go.Proofs.YtdikhdfpcipdbaaGreatDoor.wide
open Go.RowKit
section
variable {F : Fence} {n : Nat} {P : Program} {ops : Array Oper} {md : Region.Mode} {w : World}

end
end Go.Proofs.YtdikhdfpcipdbaaGreatDoor.wide

/- OutIn of both sides. -/
namespace Go.Proofs.YtdikhdfpcipdbaaGreatDoor.fan
open Go.ChangeShapes Go.WideShapes Go.ChangeAt Go.RowKit
open Go.Proofs.YtdikhdfpcipdbaaGreatDoor.nums Go.Proofs.YtdikhdfpcipdbaaGreatDoor.mem
open Go.Proofs.YtdikhdfpcipdbaaGreatDoor.rd (three set3 fresh1)
open Go.Proofs.YtdikhdfpcipdbaaGreatDoor.il (IRow vals vals_snoc gr_own row_base RetI infoInt)
open Go.Proofs.YtdikhdfpcipdbaaGreatDoor.tab (Ret quiet_w wpList_make_has add_off)
set_option linter.unusedVariables false

/-- Which of the first k are given up. -/
def outs (l : List F) (k : Nat) : List Int := ((List.range k).filter fun j => fT l j).map fun j : Nat => (j : Int)
def outIn (l : List F) : List Int := if l.length ≤ 6 ∧ l.all okF = true then outs l l.length else []
theorem outs_yes {l : List F} {k : Nat} (h : fT l k = true) : outs l (k + 1) = outs l k ++ [(k : Int)] := by
  unfold outs; rw [List.range_succ, List.filter_append, List.map_append]; simp [h]
theorem outs_no {l : List F} {k : Nat} (h : fT l k = false) : outs l (k + 1) = outs l k := by
  unfold outs; rw [List.range_succ, List.filter_append, List.map_append]; simp [h]
theorem outs_len (l : List F) (k : Nat) : (outs l k).length ≤ k := by
  unfold outs; rw [List.length_map]; exact Nat.le_trans (List.length_filter_le _ _) (by simp)
theorem outIn_ok {l : List F} (h : l.length ≤ 6) (h2 : l.all okF = true) : outIn l = outs l l.length := if_pos ⟨h, h2⟩
theorem outIn_bad {l : List F} (h : l.all okF = false) : outIn l = [] := if_neg (by rw [h]; simp)
theorem outIn_many {l : List F} (h : 6 < l.length) : outIn l = [] := if_neg (fun e => by omega)
theorem outIn_len (l : List F) : (outIn l).length ≤ 6 := by
  unfold outIn; split
  · rename_i h; have := outs_len l l.length; omega
  · simp
theorem all_at {l : List F} (h : l.all okF = true) {k : Nat} (hk : k < l.length) : inb (fN l k) 0 100 = true := by
  have := List.all_eq_true.1 h _ (List.getElem_mem hk)
  rw [← getD_lt hk] at this
  exact this
theorem all_no {l : List F} {k : Nat} (hk : k < l.length) (h : inb (fN l k) 0 100 = false) : l.all okF = false := by
  cases ha : l.all okF with
  | false => rfl
  | true => rw [all_at ha hk] at h; cases h
theorem all_yes {l : List F} (h : ∀ k, k < l.length → inb (fN l k) 0 100 = true) : l.all okF = true := by
  rw [List.all_eq_true]
  intro r hr
  obtain ⟨k, hk, rfl⟩ := List.getElem_of_mem hr
  have := h k hk
  unfold fN at this
  rwa [getD_lt hk] at this

set_option maxRecDepth 100000 in
set_option maxHeartbeats 4000000 in
theorem specOutIn (a : Option Addr) (cap : Nat) (l : List F) (w : World) (h : Arg w a l) (hl : l.length ≤ 1048576) : Calls Tryz.prog 162 #[.slice a l.length cap] w (RetI (outIn l) w) := by
  obtain ⟨i0, hi, hz0, hz1, hz2⟩ := info_parts infoInt
  have g0 : w.grownBy (w.alloc (Obj.cells #[] 2)) none := World.grownBy_alloc _ _ _
  have o0 := World.ownsRow_made (base := w.heap.size) (e := 2) (size := 1) w #[] 0 (Nat.le_refl _) (Nat.zero_le _) rfl
  by_cases hm : l.length ≤ 6
  · have hd : decide (6 < (l.length : Int)) = false := by simp; omega
    go_enter Tryz.func162, Tryz.ntmps162
    go_wp2_with fail
    go_loopw [3, 4] (fun t i wr => ∃ (k c : Nat) (b : Option Addr) (L : List Int), k ≤ l.length ∧ i = .int .i64 k ∧ t = .slice b L.length c ∧ Hid (L = outs l k) ∧ L.length ≤ k ∧ IRow wr w.heap.size (.slice b L.length c) L ∧ Hid (∀ j, j < k → inb (fN l j) 0 100 = true) ∧ w.grownBy wr none) (fun _ i _ => l.length - (intOf i).toNat)
    case atStart => exact ⟨0, _, _, [], Nat.zero_le _, rfl, rfl, Lib.hid rfl, Nat.le_refl _, o0, Lib.hid (fun j hj => by omega), g0⟩
    case round =>
      clear o0 g0
      obtain ⟨k, c, b, L, hk, rfl, rfl, hL, hLk, hown, hok, hg⟩ := hrel
      by_cases hlt : k < l.length
      · obtain ⟨x, rfl, hb, cx, cy, cz⟩ := (h.kept hg) k hlt
        obtain ⟨o, ho⟩ : ∃ o, inb (fN l k) 0 100 = o := ⟨_, rfl⟩
        obtain ⟨f, hf⟩ : ∃ f, fT l k = f := ⟨_, rfl⟩
        have cF : ∀ W, Calls Tryz.prog 143 #[.agg #[.int .i64 (fN l k), .bool (fO l k), .bool f]] W (Ret (.bool o) W) := fun W => ho ▸ hf ▸ specFanOk (fN l k) (fO l k) (fT l k) W
        have HF := Lib.hid hf
        have HO := Lib.hid ho
        rw [hf] at cz
        clear hf ho
        cases o with
        | false =>
          have HA := Lib.hid (outIn_bad (all_no hlt HO.out))
          go_wp2_with fail
          refine (cF _).mono ?_
          rintro e w1 ⟨rfl, hg1⟩
          go_wp2_with fail
          go_ret
          rw [HA.out]
          exact ⟨_, _, rfl, gr_alloc (gr_trans hg hg1) _, Or.inl rfl, fun b e => by rw [il.blk_nil] at e; cases e⟩
        | true =>
          go_wp2_with fail
          refine (cF _).mono ?_
          rintro e w1 ⟨rfl, hg1⟩
          have hg01 := gr_trans hg hg1
          have hsz := hg01.size
          replace hown := hown.kept hg1 (by cases b <;> simp [Value.ownBlock])
          obtain ⟨x', e', hb', cx', cy', cz'⟩ := (h.kept hg01) k hlt
          injection e' with e'
          subst e'
          rw [HF.out] at cz'
          clear cx cy cz hg1 hg cF cx' cy'
          have hbase := row_base hown
          cases f with
          | false =>
            go_wp2_with fail
            go_roundw
            case rel => exact ⟨k + 1, c, b, L, by omega, by go_num, rfl, Lib.hid (by rw [outs_no HF.out]; exact hL.out), by omega, hown, Lib.hid (fun j hj => by
              by_cases e : j = k
              · subst e; exact HO.out
              · exact hok.out j (by omega)), hg01⟩
            case measure => simp [intOf]; omega
          | true =>
            go_wp2_with (at_builtin; refine wpList_append_lies _ rfl _ _ _ rfl w.heap.size 2 i0 _ 1 8 Tryz.underlying25 hi hz0 hz1 hz2 rfl (by omega) (.slice b L.length c) L.length _ rfl (hown.alloc _) ⟨w1.heap.size, 0, none⟩ 1 1 [.int .i64 (k : Int)] rfl rfl (World.news_of_block (cs := #[.int .i64 (k : Int)]) (t := 2) (fr := (0, 0)) (heap_alloc_new w1 _)) (by simp [Value.oneCell']) (by omega) (by unfold maxLen; omega) (by omega) (by simp; omega) (w1.heap.size + 1) (by simp) ?_; intro gg cap1 w3 hown3 hgrow hat hlt3)
            have hg03 : w.grownBy w3 none := gr_own (gr_alloc hg01 _) hgrow hbase
            clear hgrow hat hlt3
            go_wp2_with fail
            go_roundw
            case rel => exact ⟨k + 1, cap1, some ⟨gg, 0, none⟩, L ++ [(k : Int)], by omega, by go_num, by simp, Lib.hid (by rw [outs_yes HF.out, hL.out]), by simp; omega, by unfold IRow; rw [vals_snoc]; simpa using hown3, Lib.hid (fun j hj => by
              by_cases e : j = k
              · subst e; exact HO.out
              · exact hok.out j (by omega)), hg03⟩
            case measure => simp [intOf]; omega
      · obtain rfl : k = l.length := by omega
        have HA := Lib.hid (outIn_ok hm (all_yes hok.out))
        go_wp2_with fail
        go_ret
        rw [HA.out, ← hL.out]
        exact ⟨b, c, rfl, hg, il.IRow.own hown, fun x e => il.IRow.above hown e⟩
  · have hd : decide (6 < (l.length : Int)) = true := by simp; omega
    rw [outIn_many (by omega)]
    go_enter Tryz.func162, Tryz.ntmps162
    go_wp2_with fail
    go_loopw [3, 4] (fun t i wr => i = .int .i64 0 ∧ t = .slice (some ⟨w.heap.size, 0, none⟩) 0 0 ∧ w.grownBy wr none) (fun _ i _ => 0)
    case atStart => exact ⟨rfl, rfl, g0⟩
    case round =>
      clear o0 g0
      obtain ⟨rfl, rfl, hg⟩ := hrel
      obtain ⟨x, rfl, hb, cx, cy, cz⟩ := (h.kept hg) 0 (by omega)
      have hx0 : x.add 0 = x := by simp [Addr.add]
      simp only [Nat.zero_mul, hx0] at cx cy cz
      obtain ⟨o, ho⟩ : ∃ o, inb (fN l 0) 0 100 = o := ⟨_, rfl⟩
      have cF : ∀ W, Calls Tryz.prog 143 #[.agg #[.int .i64 (fN l 0), .bool (fO l 0), .bool (fT l 0)]] W (Ret (.bool o) W) := fun W => ho ▸ specFanOk (fN l 0) (fO l 0) (fT l 0) W
      clear ho
      cases o with
      | false =>
        go_wp2_with fail
        refine (cF _).mono ?_
        rintro e w1 ⟨rfl, hg1⟩
        go_wp2_with fail
        go_ret
        exact ⟨_, _, rfl, gr_alloc (gr_trans hg hg1) _, Or.inl rfl, fun b e => by rw [il.blk_nil] at e; cases e⟩
      | true =>
        go_wp2_with fail
        refine (cF _).mono ?_
        rintro e w1 ⟨rfl, hg1⟩
        go_wp2_with fail
        go_ret
        exact ⟨_, _, rfl, gr_alloc (gr_trans hg hg1) _, Or.inl rfl, fun b e => by rw [il.blk_nil] at e; cases e⟩
end Go.Proofs.YtdikhdfpcipdbaaGreatDoor.fan

/- Numbers copied and put in order; the one in the middle, the program's and the model's. -/
namespace Go.Proofs.YtdikhdfpcipdbaaGreatDoor.vt
open Go.ChangeShapes Go.WideShapes Go.ChangeAt Go.RowKit
open Go.Proofs.YtdikhdfpcipdbaaGreatDoor.nums Go.Proofs.YtdikhdfpcipdbaaGreatDoor.mem Go.Proofs.YtdikhdfpcipdbaaGreatDoor.rd
open Go.Proofs.YtdikhdfpcipdbaaGreatDoor.tab (Ret quiet_w)
set_option linter.unusedVariables false

/-- It is put in order where it lies. -/
def Sorted (base g cap : Nat) (l : List Int) (w : World) (e : Ending) (w' : World) : Prop :=
  e = .returned (.tuple #[]) ∧ IRow w' base (.slice (some ⟨g, 0, none⟩) l.length cap) (srt l) ∧ w.grownBy w' (some g)
theorem sortSome (base g cap : Nat) (l : List Int) (w : World) (h : IRow w base (.slice (some ⟨g, 0, none⟩) l.length cap) l) (hl : l.length ≤ 1000) :
    Calls Tryz.prog 97 #[.slice (some ⟨g, 0, none⟩) l.length cap] w (Sorted base g cap l w) := by
  rcases h.2 with ⟨h0, _⟩ | ⟨g', cap', cur, hv, hb, hc, h1, h2, h3, h4⟩
  · cases h0
  · injection hv with hv1 hv2 hv3
    injection hv1 with hv1
    injection hv1 with hv1 _ _
    subst hv1 hv3
    refine (Tryz.slices_Sort_int g 0 cap l w (holds_of_blockI hc (by simpa using h4)) (Has.lt hc) (by omega)).mono ?_
    rintro e w' ⟨rfl, n, os, rfl⟩
    refine ⟨rfl, ?_, grownBy_sortedI _⟩
    have := ownsRow_sortedI (n := n) (os := os) (ts := srt l) (srt_length l) hb hc h1 h2 h3
    unfold IRow
    rw [srt_length]
    exact this

theorem eqlNil (w : World) (a : Option Addr) (l c : Nat) : (binOp .eql 25 (.slice a l c) (.slice none 0 0)).run Tryz.prog w = .ok (.bool a.isNone) w := by
  have h : ∀ d : Nat, (Op.equalIn (d + 1) 25 (.slice a l c) (.slice none 0 0)).run Tryz.prog w = .ok a.isNone w := fun d => by
    cases a <;> simp [Op.equalIn, run_underlying Tryz.underlying25]
  have h' : (Op.equal 25 (.slice a l c) (.slice none 0 0)).run Tryz.prog w = .ok a.isNone w := h 9999
  simp [binOp, h']

set_option maxRecDepth 100000 in
set_option maxHeartbeats 1000000 in
theorem clone (base : Nat) (a : Option Addr) (cap : Nat) (l : List Int) (w : World) (h : IRow w base (.slice a l.length cap) l) (h0 : l ≠ []) (hl : l.length ≤ 1000) :
    Calls Tryz.prog 64 #[.slice a l.length cap] w (RetI l w) := by
  obtain ⟨i0, hi, hz0, hz1, hz2⟩ := info_parts infoInt
  have hlp : 0 < l.length := List.length_pos_iff.2 h0
  obtain ⟨g, rfl, hbg, hlt⟩ := row_some h h0
  have o0 := World.ownsRow_made (base := w.heap.size) (e := 2) (size := 1) w #[] 0 (Nat.le_refl _) (Nat.zero_le _) rfl
  have hI := h.alloc (Obj.cells #[] 2)
  have hnil : (binOp .eql 25 (.slice (some ⟨g, 0, none⟩) l.length cap) (.slice none 0 0)).run Tryz.prog w = .ok (.bool false) w := eqlNil w (some ⟨g, 0, none⟩) _ _
  go_enter Tryz.func64, Tryz.ntmps64
  go_wp2_with (at_builtin; refine wpList_append_lies _ rfl _ _ _ rfl w.heap.size 2 i0 _ 1 8 Tryz.underlying25 hi hz0 hz1 hz2 rfl (by omega) (.slice (some ⟨w.heap.size, 0, none⟩) 0 0) 0 [] rfl o0 ⟨g, 0, none⟩ l.length cap (vals l) rfl (by simp) (hI.cells rfl) (vals_one _) hlp (by unfold maxLen; omega) (by omega) (by simp) (w.heap.size + 1) (by simp) ?_; intro gg cap1 w1 hown hgrow hat hlt)
  simp only [Nat.zero_add, List.nil_append] at hown
  go_ret
  exact ⟨_, cap1, rfl, gr_past (World.grownBy_alloc w _ none) hgrow (Nat.le_refl _), hown, fun e => absurd e h0⟩

set_option maxRecDepth 100000 in
theorem cloneNil (w : World) : Calls Tryz.prog 64 #[.slice none 0 0] w fun e w' => e = .returned (.slice none 0 0) ∧ w = w' := by
  have hnil : (binOp .eql 25 (.slice none 0 0) (.slice none 0 0)).run Tryz.prog w = .ok (.bool true) w := eqlNil w none _ _
  go_enter Tryz.func64, Tryz.ntmps64
  go_wp2_with fail
  go_ret
  exact ⟨rfl, rfl⟩

set_option maxRecDepth 100000 in
set_option maxHeartbeats 1000000 in
theorem inOrder (base : Nat) (a : Option Addr) (cap : Nat) (l : List Int) (w : World) (h : IRow w base (.slice a l.length cap) l) (h0 : l ≠ []) (hl : l.length ≤ 1000) :
    Calls Tryz.prog 72 #[.slice a l.length cap] w (RetI (srt l) w) := by
  go_enter Tryz.func72, Tryz.ntmps72
  go_wp2_with fail
  refine (clone base a cap l w h h0 hl).mono ?_
  rintro e w1 ⟨a1, c1, rfl, g1, o1, _⟩
  obtain ⟨g, rfl, hbg, hlt⟩ := row_some o1 h0
  go_wp2_with fail
  refine (sortSome _ g c1 l w1 o1 hl).mono ?_
  rintro e w2 ⟨rfl, o2, g2⟩
  go_wp2_with fail
  go_ret
  refine ⟨some ⟨g, 0, none⟩, c1, by rw [srt_length]; rfl, gr_past g1 g2 hbg, by rw [srt_length]; exact o2, fun e => ?_⟩
  have := srt_length l
  rw [e] at this
  exact absurd (List.length_eq_zero_iff.1 this.symm) h0

set_option maxRecDepth 100000 in
theorem inOrderNil (w : World) : Calls Tryz.prog 72 #[.slice none 0 0] w fun e w' => e = .returned (.slice none 0 0) ∧ w = w' := by
  go_enter Tryz.func72, Tryz.ntmps72
  go_wp2_with fail
  refine (cloneNil w).mono ?_
  rintro e w1 ⟨rfl, rfl⟩
  go_wp2_with fail
  refine (Tryz.slices_Sort_int_none none 0 w).mono ?_
  rintro e w1 ⟨rfl, rfl⟩
  go_wp2_with fail
  go_ret
  exact ⟨rfl, rfl⟩

theorem specMiddle (a b c : Int) (w : World) : Calls Tryz.prog 81 #[.int .i64 a, .int .i64 b, .int .i64 c] w fun e w' => e = .returned (.int .i64 (mid a b c)) ∧ w = w' := by
  go_enter Tryz.func81, Tryz.ntmps81
  go_wp2_with (first | (go_at_call 79; refine (fix.specMin _ _ _).mono ?_; rintro e w' ⟨rfl, rfl⟩) | (go_at_call 26; refine (fix.specMax _ _ _).mono ?_; rintro e w' ⟨rfl, rfl⟩))
  go_ret
  exact ⟨rfl, rfl⟩

set_option maxRecDepth 100000 in
set_option maxHeartbeats 1000000 in
theorem implMiddle (a b c : Int) (w : World) : Calls Tryz.prog 71 #[.int .i64 a, .int .i64 b, .int .i64 c] w (Ret (.int .i64 (mid a b c)) w) := by
  have o0 : IRow (w.alloc (.cells #[.int .i64 a, .int .i64 b, .int .i64 c] 2)) w.heap.size (.slice (some ⟨w.heap.size, 0, none⟩) 3 3) [a, b, c] :=
    World.ownsRow_lit (base := w.heap.size) (e := 2) (size := 1) w #[.int .i64 a, .int .i64 b, .int .i64 c] 3 (Nat.le_refl _) (by unfold maxLen; omega) rfl
  obtain ⟨x, z, hs⟩ := srt_three a b c
  go_enter Tryz.func71, Tryz.ntmps71
  go_wp2_with fail
  refine (inOrder w.heap.size _ 3 [a, b, c] _ o0 (by simp) (by simp)).mono ?_
  rw [hs]
  rintro e w1 ⟨a1, c1, rfl, g1, o1, _⟩
  obtain ⟨g, rfl, hbg, hlt⟩ := row_some o1 (by simp)
  have hc := row_cell o1 1 (by simp)
  simp at hc
  go_wp2_with fail
  go_ret
  exact ⟨rfl, gr_trans (World.grownBy_alloc _ _ _) g1⟩
end Go.Proofs.YtdikhdfpcipdbaaGreatDoor.vt

/- The values of those that are fresh: the program's list and the model's. -/
namespace Go.Proofs.YtdikhdfpcipdbaaGreatDoor.vt
open Go.ChangeShapes Go.WideShapes Go.ChangeAt Go.RowKit
open Go.Proofs.YtdikhdfpcipdbaaGreatDoor.nums Go.Proofs.YtdikhdfpcipdbaaGreatDoor.mem Go.Proofs.YtdikhdfpcipdbaaGreatDoor.rd
open Go.Proofs.YtdikhdfpcipdbaaGreatDoor.tab (Ret quiet_w)
set_option linter.unusedVariables false

theorem row_base {w : World} {base : Nat} {v : Value} {l : List Int} (h : IRow w base v l) : ∀ g, v.ownBlock = some g → base ≤ g := fun g hg => (h.lt g hg).1
theorem frv_all {l : List R} {m : Int} : frv (l.take l.length) m = frv l m := by rw [List.take_of_length_le (Nat.le_refl _)]

set_option maxRecDepth 100000 in
set_option maxHeartbeats 4000000 in
theorem specFresh (a : Option Addr) (cap : Nat) (l : List R) (m : Int) (w : World) (h : Arg w a l) (hl : l.length ≤ 1000) : Calls Tryz.prog 80 #[.slice a l.length cap, .int .i64 m] w (RetJ (frv l m) w) := by
  obtain ⟨i0, hi, hz0, hz1, hz2⟩ := info_parts infoInt
  have g0 : w.grownBy (w.alloc (Obj.cells #[] 2)) none := World.grownBy_alloc _ _ _
  have o0 := World.ownsRow_made (base := w.heap.size) (e := 2) (size := 1) w #[] 0 (Nat.le_refl _) (Nat.zero_le _) rfl
  go_enter Tryz.func80, Tryz.ntmps80
  go_wp2_with fail
  go_loopw [5, 6] (fun t i wr => ∃ (k g c : Nat) (L : List Int), k ≤ l.length ∧ i = .int .i64 k ∧ t = .slice (some ⟨g, 0, none⟩) L.length c ∧ Hid (L = frv (l.take k) m) ∧ L.length ≤ k ∧ w.heap.size ≤ g ∧ IRow wr w.heap.size (.slice (some ⟨g, 0, none⟩) L.length c) L ∧ w.grownBy wr none) (fun _ i _ => l.length - (intOf i).toNat)
  case atStart => exact ⟨0, _, _, [], Nat.zero_le _, rfl, rfl, Lib.hid rfl, Nat.le_refl _, Nat.le_refl _, o0, g0⟩
  case round =>
    clear o0 g0
    obtain ⟨k, g, c, L, hk, rfl, rfl, hL, hLk, hge, hown, hg⟩ := hrel
    by_cases hlt : k < l.length
    · obtain ⟨x, rfl, hb, cx, cy, cz⟩ := (h.kept hg) k hlt
      cases hf : fresh (rx l k, ra l k, ro l k) m with
      | false =>
        have HF := Lib.hid hf
        go_wp2_with fail
        refine (specIsFresh _ _ _ _ _).mono ?_
        rintro e w1 ⟨rfl, hg1⟩
        rw [hf]
        clear hf
        go_wp2_with fail
        go_roundw
        case rel => exact ⟨k + 1, g, c, L, by omega, by go_num, rfl, Lib.hid (by rw [frv_no hlt HF.out]; exact hL.out), by omega, hge, hown.kept hg1 (.inr (by simp [Value.ownBlock])), gr_trans hg hg1⟩
        case measure => simp [intOf]; omega
      | true =>
        have HF := Lib.hid hf
        go_wp2_with fail
        refine (specIsFresh _ _ _ _ _).mono ?_
        rintro e w1 ⟨rfl, hg1⟩
        rw [hf]
        clear hf
        have hg01 := gr_trans hg hg1
        have hsz := hg01.size
        have hown1 := hown.kept hg1 (Or.inr (by simp [Value.ownBlock]))
        obtain ⟨x', e', hb', cx', cy', cz'⟩ := (h.kept hg01) k hlt
        injection e' with e'
        subst e'
        clear cx cy cz hg1 hown hg cy' cz'
        go_wp2_with (at_builtin; refine wpList_append_lies _ rfl _ _ _ rfl w.heap.size 2 i0 _ 1 8 Tryz.underlying25 hi hz0 hz1 hz2 rfl (by omega) (.slice (some ⟨g, 0, none⟩) L.length c) L.length _ rfl (hown1.alloc _) ⟨w1.heap.size, 0, none⟩ 1 1 [.int .i64 (rx l k)] rfl rfl (World.news_of_block (cs := #[.int .i64 (rx l k)]) (t := 2) (fr := (0, 0)) (heap_alloc_new w1 _)) (by simp [Value.oneCell']) (by omega) (by unfold maxLen; omega) (by omega) (by simp; omega) (w1.heap.size + 1) (by simp) ?_; intro gg cap1 w3 hown3 hgrow hat hlt3)
        have hgw : w1.grownBy w3 (some g) := gr_trans (World.grownBy_alloc _ _ _) hgrow
        have hg03 := gr_past hg01 hgw hge
        go_wp2_with fail
        go_roundw
        case rel => exact ⟨k + 1, gg, cap1, L ++ [rx l k], by omega, by go_num, by simp, Lib.hid (by rw [frv_yes hlt HF.out, hL.out]), by simp; omega, by
          rcases hat with hat | hat
          · simp [Value.ownBlock] at hat; omega
          · omega, by unfold IRow; rw [vals_snoc]; simpa using hown3, hg03⟩
        case measure => simp [intOf]; omega
    · obtain rfl : k = l.length := by omega
      go_wp2_with fail
      go_ret
      have e := hL.out
      rw [frv_all] at e
      subst e
      exact ⟨_, _, rfl, hg, hown⟩

set_option maxRecDepth 100000 in
set_option maxHeartbeats 4000000 in
theorem implFresh (a : Option Addr) (cap : Nat) (l : List R) (many : Nat) (m : Int) (w : World) (h : Arg w a l) (hl : l.length ≤ 1048576) (hm : many ≤ 100) :
    Calls Tryz.prog 70 #[.slice a l.length cap, .int .i64 many, .int .i64 m] w (RetI (voters l many m) w) := by
  obtain ⟨i0, hi, hz0, hz1, hz2⟩ := info_parts infoInt
  by_cases hlen : l.length = many
  · subst hlen
    go_enter Tryz.func70, Tryz.ntmps70
    go_wp2_with fail
    go_loopw [7, 16] (fun t i wr => ∃ (k c : Nat) (b : Option Addr) (L : List Int), k ≤ l.length ∧ i = .int .i64 k ∧ t = .slice b L.length c ∧ Hid (L = frv (l.take k) m) ∧ L.length ≤ k ∧ IRow wr w.heap.size (.slice b L.length c) L ∧ Hid (L = [] → b = none) ∧ Hid (∀ j, j < k → okR (rx l j, ra l j, ro l j) = true) ∧ w.grownBy wr none) (fun _ i _ => l.length - (intOf i).toNat)
    case atStart => exact ⟨0, _, _, [], Nat.zero_le _, rfl, rfl, Lib.hid rfl, Nat.le_refl _, World.ownsRow_nil _ _ _ _, Lib.hid (fun _ => rfl), Lib.hid (fun j hj => by omega), gr_refl _ _⟩
    case round =>
      obtain ⟨k, c, b, L, hk, rfl, rfl, hL, hLk, hown, hN, hok, hg⟩ := hrel
      by_cases hlt : k < l.length
      · obtain ⟨x, rfl, hb, cx, cy, cz⟩ := (h.kept hg) k hlt
        have hB := Has.fresh wr 42 #[.int .i64 (rx l k), .int .i64 (ra l k), .bool (ro l k)]
        have hown0 := hown.alloc (Obj.cells #[.int .i64 (rx l k), .int .i64 (ra l k), .bool (ro l k)] 42)
        have hg0 := gr_alloc hg (Obj.cells #[.int .i64 (rx l k), .int .i64 (ra l k), .bool (ro l k)] 42)
        cases ho : okR (rx l k, ra l k, ro l k) with
        | false =>
          have HA := Lib.hid (voters_bad (many := l.length) (m := m) (all_no hlt ho))
          go_wp2_with fail
          refine (implReadingOk _ _ _ _).mono ?_
          rintro e w1 ⟨rfl, hg1⟩
          rw [ho]
          clear ho
          go_wp2_with fail
          go_ret
          rw [HA.out]
          exact ⟨none, 0, rfl, gr_trans hg0 hg1, World.ownsRow_nil _ _ _ _, fun _ => rfl⟩
        | true =>
          have HO := Lib.hid ho
          go_wp2_with fail
          refine (implReadingOk _ _ _ _).mono ?_
          rintro e w1 ⟨rfl, hg1⟩
          rw [ho]
          clear ho
          replace hown0 := hown0.kept hg1 (by cases b <;> simp [Value.ownBlock])
          replace hB := hB.grown hg1 (by simp)
          replace hg0 := gr_trans hg0 hg1
          obtain ⟨c0, c1, c2, _, _, _⟩ := three hB
          clear hg1 cx cy cz hown hg
          cases hf : fresh (rx l k, ra l k, ro l k) m with
          | false =>
            have HF := Lib.hid hf
            go_wp2_with fail
            refine (implIsFresh _ _ _ _ _).mono ?_
            rintro e w2 ⟨rfl, hg2⟩
            rw [hf]
            clear hf
            replace hown0 := hown0.kept hg2 (by cases b <;> simp [Value.ownBlock])
            replace hg0 := gr_trans hg0 hg2
            go_wp2_with fail
            go_roundw
            case rel => exact ⟨k + 1, c, b, L, by omega, by go_num, rfl, Lib.hid (by rw [frv_no hlt HF.out]; exact hL.out), by omega, hown0, hN, Lib.hid (fun j hj => by
              by_cases e : j = k
              · subst e; exact HO.out
              · exact hok.out j (by omega)), hg0⟩
            case measure => simp [intOf]; omega
          | true =>
            have HF := Lib.hid hf
            go_wp2_with fail
            refine (implIsFresh _ _ _ _ _).mono ?_
            rintro e w2 ⟨rfl, hg2⟩
            rw [hf]
            clear hf
            replace hown0 := hown0.kept hg2 (by cases b <;> simp [Value.ownBlock])
            replace hB := hB.grown hg2 (by simp)
            replace hg0 := gr_trans hg0 hg2
            have hsz := hg0.size
            have hbase := row_base hown0
            clear hg2 c0 c1 c2
            obtain ⟨c0, _, _, _, _, _⟩ := three hB
            clear hB
            go_wp2_with (at_builtin; refine wpList_append_lies _ rfl _ _ _ rfl w.heap.size 2 i0 _ 1 8 Tryz.underlying25 hi hz0 hz1 hz2 rfl (by omega) (.slice b L.length c) L.length _ rfl (hown0.alloc _) ⟨w2.heap.size, 0, none⟩ 1 1 [.int .i64 (rx l k)] rfl rfl (World.news_of_block (cs := #[.int .i64 (rx l k)]) (t := 2) (fr := (0, 0)) (heap_alloc_new w2 _)) (by simp [Value.oneCell']) (by omega) (by unfold maxLen; omega) (by omega) (by simp; omega) (w2.heap.size + 1) (by simp) ?_; intro gg cap1 w3 hown3 hgrow hat hlt3)
            have hg03 : w.grownBy w3 none := gr_own (gr_alloc hg0 _) hgrow hbase
            clear hgrow hat hlt3
            go_wp2_with fail
            go_roundw
            case rel => exact ⟨k + 1, cap1, some ⟨gg, 0, none⟩, L ++ [rx l k], by omega, by go_num, by simp, Lib.hid (by rw [frv_yes hlt HF.out, hL.out]), by simp; omega, by unfold IRow; rw [vals_snoc]; simpa using hown3, Lib.hid (fun e => by simp at e), Lib.hid (fun j hj => by
              by_cases e : j = k
              · subst e; exact HO.out
              · exact hok.out j (by omega)), hg03⟩
            case measure => simp [intOf]; omega
      · obtain rfl : k = l.length := by omega
        have HA := Lib.hid (voters_ok (m := m) (rfl : l.length = l.length) (all_yes hok.out))
        go_wp2_with fail
        go_ret
        have e := hL.out
        rw [frv_all] at e
        subst e
        rw [HA.out]
        exact ⟨b, c, rfl, hg, hown, hN.out⟩
  · rw [voters_len hlen]
    go_enter Tryz.func70, Tryz.ntmps70
    go_wp2_with fail
    go_ret
    exact ⟨none, 0, rfl, gr_refl _ _, World.ownsRow_nil _ _ _ _, fun _ => rfl⟩
end Go.Proofs.YtdikhdfpcipdbaaGreatDoor.vt

