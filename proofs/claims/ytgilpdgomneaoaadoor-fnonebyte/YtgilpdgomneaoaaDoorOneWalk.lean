/- The law FnOneByte. -/
import Derived.Test.YtgilpdgomneaoaaDoorFrMark
import Derived.Test.YtgilpdgomneaoaaDoorFrDraw2
import Derived.Deep.RegionHeld3
namespace Go.Proofs.YtgilpdgomneaoaaDoor.frm
open Go.ChangeShapes Go.WideShapes Go.ChangeAt Go.RowKit
open Go.Proofs.YtgilpdgomneaoaaDoor.nums Go.Proofs.YtgilpdgomneaoaaDoor.mem Go.Proofs.YtgilpdgomneaoaaDoor.txt Go.Proofs.YtgilpdgomneaoaaDoor.fix Go.Proofs.YtgilpdgomneaoaaDoor.cur
open Go.Proofs.YtgilpdgomneaoaaDoor.tab (Ret quiet_w wpList_make_has)
set_option linter.unusedVariables false

theorem showF_small (k sq : Int) (vs : List Int) : (showF k sq vs).length ≤ 1000 := by
  cases ho : okF k sq vs with
  | false => simp [showF, ho]
  | true =>
    have hl := aheadF_len ho
    have b1 := sumL_small (aheadF k sq vs)
    have := itoa_len (sumL (aheadF k sq vs)) b1.1 b1.2
    rw [showF_ok ho]
    simp [behind]
    omega

theorem conv_one {W : World} {B : Nat} {c : UInt8} (h : W.cell? ⟨B, 0, none⟩ = some (.int .u8 (c.toNat : Int))) :
    (convert 22 9 (.slice (some ⟨B, 0, none⟩) 1 1)).run Tryd.prog W = .ok (str [c]) W := by
  refine run_convert_bytes_back (P := Tryd.prog) _ _ _ 5 ⟨B, 0, none⟩ 1 [c] Tryd.underlying22 Tryd.underlying5 Tryd.underlying9 (fun j hj => ?_)
  have hj0 : j = 0 := by simpa using hj
  subst hj0
  simpa [Addr.add] using h
theorem conv_new (W : World) (c : UInt8) : (convert 22 9 (.slice (some ⟨W.heap.size, 0, none⟩) 1 1)).run Tryd.prog (W.alloc (.cells #[.int .u8 (c.toNat : Int)] 5)) = .ok (str [c]) (W.alloc (.cells #[.int .u8 (c.toNat : Int)] 5)) :=
  conv_one ((Has.fresh W 5 #[.int .u8 (c.toNat : Int)]).cell 0)
theorem conv_new2 (W : World) (c : UInt8) (o : Obj) : (convert 22 9 (.slice (some ⟨W.heap.size, 0, none⟩) 1 1)).run Tryd.prog ((W.alloc (.cells #[.int .u8 (c.toNat : Int)] 5)).alloc o) = .ok (str [c]) ((W.alloc (.cells #[.int .u8 (c.toNat : Int)] 5)).alloc o) :=
  conv_one (((Has.fresh W 5 #[.int .u8 (c.toNat : Int)]).alloc o).cell 0)

set_option maxRecDepth 100000 in
set_option maxHeartbeats 4000000 in
theorem oneLaw (b : Option Addr) (n c : Nat) (w : World) (hb : Bytes w w.heap.size b n) (hv : Vals w) (hp : Pow w) :
    Calls Tryd.prog 4 #[.slice b n c] w fun e w' => e = .returned (.bool true) ∧ Below w.heap.size w w' := by
  go_enter Tryd.func4, Tryd.ntmps4
  go_wp2_with fail
  refine (big b n c w).mono ?_
  rintro e w1 ⟨rfl, rfl⟩
  by_cases hbig : 4096 < n
  · have hd : decide (4096 < n) = true := by simp [hbig]
    go_wp2_with fail
    go_ret
    exact ⟨rfl, Below.refl _ _⟩
  · have hd : decide (4096 < n) = false := by simp [hbig]
    have hn : n ≤ 4096 := by omega
    go_wp2_with fail
    refine (drawShow b n c _ hn hb).mono ?_
    rintro e w1 ⟨k, sq, vs, a, cap, rfl, hI, hl6, hgg, g1⟩
    go_wp2_with fail
    refine (specShow k sq a cap vs _ hI (by unfold maxLen; omega)).mono ?_
    rintro e w2 ⟨rfl, g2⟩
    have g0 := gr_trans g1 g2
    clear g1 g2 hI hgg
    have hlen := showF_small k sq vs
    by_cases hs : showF k sq vs = []
    · rw [hs]
      go_wp2_with fail
      go_ret
      exact ⟨rfl, below_of_none g0⟩
    · have hr := read_some hs rfl
      have ho := ok_of_show hs
      have cI := fun W hV hP => (implRead (showF k sq vs) _ W (by omega) hr hV hP)
      have hone := @one_byte k sq vs ho
      clear hr ho
      generalize showF k sq vs = l at *
      have hes : l.isEmpty = false := by simpa using hs
      have hl0 : 0 < l.length := List.length_pos_iff.2 hs
      go_wp2_with fail
      refine (cI _ (hv.kept g0) (Pow.kept hp g0)).mono ?_
      rintro e w3 ⟨g3, a3, c3, rfl, -⟩
      replace g0 := gr_trans g0 g3
      clear g3 cI
      go_wp2_with fail
      have g4 := gr_alloc g0 (Obj.cells #[.int .i64 k, .int .i64 sq, .slice a3 vs.length c3] 26)
      clear g0
      generalize w3.alloc (Obj.cells #[.int .i64 k, .int .i64 sq, .slice a3 vs.length c3] 26) = w4 at *
      go_loopw [6] (fun i wr => ∃ j : Nat, j ≤ 6 ∧ i = .int .i64 j ∧ w.grownBy wr none) (fun i _ => 6 - (intOf i).toNat)
      case atStart => exact ⟨0, by omega, rfl, g4⟩
      case round =>
        clear g4
        obtain ⟨j, hj, rfl, g0⟩ := hrel
        have hb4 : Bytes wr w.heap.size b n := hb.below (Nat.le_refl _) (below_of_none g0)
        by_cases hj6 : j < 6
        · go_wp2_with fail
          refine (pick b n c w.heap.size _ _ _ hn hb4 (by omega) (by omega) (by omega) (by omega)).mono ?_
          rintro e w5 ⟨at_, h0, h1, rfl, rfl⟩
          go_wp2_with fail
          refine (pick b n c w.heap.size _ _ _ hn hb4 (by omega) (by omega) (by omega) (by omega)).mono ?_
          rintro e w5 ⟨sg, s0, s1, rfl, rfl⟩
          obtain ⟨i, rfl⟩ := Int.eq_ofNat_of_zero_le h0
          obtain ⟨cb, rfl⟩ : ∃ cb : UInt8, sg = (cb.toNat : Int) := ⟨UInt8.ofNat sg.toNat, by simp [UInt8.toNat_ofNat']; omega⟩
          replace h1 : i < l.length := by omega
          clear hb4 h0
          go_wp2_with fail
          · go_roundw
            case rel => exact ⟨j + 1, by omega, by go_num, g0⟩
            case measure => simp [intOf]; omega
          · have hne : ((((ByteArray.mk l.toArray)[i]'h1).toNat : Int) == (cb.toNat : Int)) = false := by assumption
            have hn : byt l i ≠ cb := fun e => by
              have : byt l i = (ByteArray.mk l.toArray)[i]'h1 := by rw [byt, List.getD, List.getElem?_eq_getElem h1]; rfl
              rw [this] at e
              rw [e] at hne
              simp at hne
            have hr := hone h1 hn
            have hi1 : i ≤ l.length := by omega
            have hi2 : i + 1 ≤ l.length := by omega
            have hi3 : (i : Int) ≤ l.length := by omega
            have hi4 : (i : Int) + 1 ≤ l.length := by omega
            have hw1 : ((i : Int) + 1).toNat = i + 1 := by omega
            have hw2 : (0 : Int) ≤ (i : Int) + 1 := by omega
            have hw3 : IntKind.i64.wrap ((i : Int) + 1) = (i : Int) + 1 := IntWalk.i64_in _ (by omega)
            have c1 : (convert 22 9 (.slice (some ⟨wr.heap.size, 0, none⟩) 1 1)).run Tryd.prog (wr.alloc (.cells #[.int .u8 (cb.toNat : Int)] 5)).drew = .ok (str [cb]) (wr.alloc (.cells #[.int .u8 (cb.toNat : Int)] 5)).drew :=
              conv_one ((Has.fresh wr 5 #[.int .u8 (cb.toNat : Int)]).cell 0)
            have c2 : ∀ o : Obj, (convert 22 9 (.slice (some ⟨wr.heap.size, 0, none⟩) 1 1)).run Tryd.prog ((wr.alloc (.cells #[.int .u8 (cb.toNat : Int)] 5)).alloc o).drew = .ok (str [cb]) ((wr.alloc (.cells #[.int .u8 (cb.toNat : Int)] 5)).alloc o).drew := fun o =>
              conv_one (((Has.fresh wr 5 #[.int .u8 (cb.toNat : Int)]).alloc o).cell 0)
            have c3 : ∀ o : Obj, (convert 22 9 (.slice (some ⟨wr.heap.size + 1, 0, none⟩) 1 1)).run Tryd.prog ((wr.alloc o).alloc (.cells #[.int .u8 (cb.toNat : Int)] 5)).drew = .ok (str [cb]) ((wr.alloc o).alloc (.cells #[.int .u8 (cb.toNat : Int)] 5)).drew := fun o => by
              have := (Has.fresh (wr.alloc o) 5 #[.int .u8 (cb.toNat : Int)]).cell 0
              rw [show (wr.alloc o).heap.size = wr.heap.size + 1 by simp] at this
              exact conv_one this
            have hz1 : ¬ 9223372036854775807 < i + 1 := by omega
            have hz2 : ¬ 9223372036854775807 < l.length := by omega
            have hT : (ByteArray.mk l.toArray).extract 0 i ++ ByteArray.mk [cb].toArray ++ (ByteArray.mk l.toArray).extract (i + 1) l.length = ByteArray.mk (l.take i ++ cb :: l.drop (i + 1)).toArray := by
              rw [str_drop, ByteArray.extract_mk, str_app, str_app]
              simp
            have hTl : (l.take i ++ cb :: l.drop (i + 1)).length ≤ 1048576 := by simp; omega
            have cN : ∀ W, Vals W → Pow W → Calls Tryd.prog 12 #[.string ((ByteArray.mk l.toArray).extract 0 i ++ ByteArray.mk [cb].toArray ++ (ByteArray.mk l.toArray).extract (i + 1) l.length)] W fun e w' => e = .returned (.tuple #[fr 0 0 none 0 0, .bool false]) ∧ W.grownBy w' none := fun W hV hP => by
              rw [hT]
              exact (implRead _ none W hTl hr hV hP).mono fun e w' h => ⟨h.2, h.1⟩
            have gA : w.grownBy (wr.alloc (.cells #[.int .u8 (cb.toNat : Int)] 5)).drew none := gr_drewN (gr_alloc g0 _) 1
            have gB : w.grownBy ((wr.alloc (.cells #[.int .u8 (cb.toNat : Int)] 5)).alloc (Obj.cells #[.int .i64 0, .int .i64 0, .slice none 0 0] 26)).drew none := gr_drewN (gr_alloc (gr_alloc g0 _) _) 1
            have gC : w.grownBy ((wr.alloc (Obj.cells #[.int .i64 0, .int .i64 0, .slice none 0 0] 26)).alloc (.cells #[.int .u8 (cb.toNat : Int)] 5)).drew none := gr_drewN (gr_alloc (gr_alloc g0 _) _) 1
            have HB : Has ((wr.alloc (.cells #[.int .u8 (cb.toNat : Int)] 5)).alloc (Obj.cells #[.int .i64 0, .int .i64 0, .slice none 0 0] 26)).drew (wr.heap.size + 1) 26 #[.int .i64 0, .int .i64 0, .slice none 0 0] := by
              have := Has.fresh (wr.alloc (.cells #[.int .u8 (cb.toNat : Int)] 5)) 26 #[.int .i64 0, .int .i64 0, .slice none 0 0]
              rw [show (wr.alloc (.cells #[.int .u8 (cb.toNat : Int)] 5)).heap.size = wr.heap.size + 1 by simp] at this
              exact this.drewN 1
            have HC : Has ((wr.alloc (Obj.cells #[.int .i64 0, .int .i64 0, .slice none 0 0] 26)).alloc (.cells #[.int .u8 (cb.toNat : Int)] 5)).drew wr.heap.size 26 #[.int .i64 0, .int .i64 0, .slice none 0 0] := ((Has.fresh wr 26 #[.int .i64 0, .int .i64 0, .slice none 0 0]).alloc _).drewN 1
            have hws := g0.size
            clear hone hn hne hr hT hTl
            refine wp_region_noPanic ?_
            go_region_held (fun W => True) (exact trivial) (first | (go_at_call 12; refine (cN _ (hv.kept gA) (Pow.kept hp gA)).mono ?_; rintro e w7 ⟨rfl, g7⟩; have gf := gr_trans gA g7) | (go_at_call 12; refine (cN _ (hv.kept gB) (Pow.kept hp gB)).mono ?_; rintro e w7 ⟨rfl, g7⟩; have gf := gr_trans gB g7; obtain ⟨x0, x1, x2, y0, y1, y2⟩ := three (HB.grown g7 (by simp))) | (go_at_call 12; refine (cN _ (hv.kept gC) (Pow.kept hp gC)).mono ?_; rintro e w7 ⟨rfl, g7⟩; have gf := gr_trans gC g7; obtain ⟨x0, x1, x2, y0, y1, y2⟩ := three (HC.grown g7 (by simp))))
            all_goals try refine NoPanic.normal ?_
            all_goals clear c1 c2 c3 gA gB gC HB HC g7 cN g0
            all_goals go_wp2_with fail
            all_goals go_roundw
            case measure => simp [intOf]; omega
            case measure => simp [intOf]; omega
            case measure => simp [intOf]; omega
            case measure => simp [intOf]; omega
            all_goals refine ⟨j + 1, by omega, by go_num, ?_⟩
            all_goals first | exact gr_alloc gf _ | exact gr_new (gr_new (gr_new gf (by omega) _ _) (by omega) _ _) (by omega) _ _ | trace_state
        · obtain rfl : j = 6 := by omega
          go_wp2_with fail
          go_ret
          exact ⟨rfl, below_of_none g0⟩
end Go.Proofs.YtgilpdgomneaoaaDoor.frm
