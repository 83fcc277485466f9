/- Slewed of the model. -/
import Derived.Test.YtdikhdfpcipdbaaGreatDoorBlSlew
import Derived.Deep.AppendLies
import Derived.Deep.RegionHeldLaw
namespace Go.Proofs.YtdikhdfpcipdbaaGreatDoor.bl
open Go.ChangeShapes Go.WideShapes Go.ChangeAt Go.RowKit
open Go.Proofs.YtdikhdfpcipdbaaGreatDoor.nums Go.Proofs.YtdikhdfpcipdbaaGreatDoor.mem
open Go.Proofs.YtdikhdfpcipdbaaGreatDoor.qt (region_below_tail rg_ret rg_same gr_rg)
open Go.Proofs.YtdikhdfpcipdbaaGreatDoor.il (nth Ints vals vals_snoc RetI IRow blk blk_some blk_nil infoInt gr_own row_base)
set_option linter.unusedVariables false

set_option maxHeartbeats 1000000 in
theorem specAll (a : Option Addr) (cap : Nat) (l : List Int) (n : Int) (w : World) (h : Ints w a l) (hl : l.length ≤ maxLen) :
    Calls Tryz.prog 53 #[.slice a l.length cap, .int .i64 n, .int .i64 0, .int .i64 1000] w fun e w' => e = .returned (.bool (decide ((l.length : Int) = n) && l.all okO)) ∧ w = w' := by
  have hm : l.length ≤ 9223372036854775807 := by unfold maxLen at hl; exact hl
  clear hl
  go_enter Tryz.func53, Tryz.ntmps53
  go_wp2_with fail
  go_loopw [9] (fun i wr => wr = w ∧ ∃ k : Nat, k ≤ l.length ∧ i = .int .i64 k ∧ Hid (∀ j, j < k → okO (nth l j) = true)) (fun i _ => l.length - (intOf i).toNat)
  case atStart => exact ⟨rfl, 0, Nat.zero_le _, rfl, Lib.hid (fun j hj => by omega)⟩
  case round =>
    obtain ⟨rfl, k, hk, rfl, hs⟩ := hrel
    by_cases hlt : k < l.length
    · obtain ⟨x, rfl, hb, cx⟩ := h k hlt
      cases hz : okO (nth l k)
      · have hz' : inb (nth l k) 0 1000 = false := hz
        go_wp2_with fail
        refine (fix.specIn _ _ _ _).mono ?_
        rintro e w' ⟨rfl, rfl⟩
        go_wp2_with fail
        go_ret
        exact ⟨by rw [all_not l k hlt hz]; simp, rfl⟩
      · have hz' : inb (nth l k) 0 1000 = true := hz
        go_wp2_with fail
        refine (fix.specIn _ _ _ _).mono ?_
        rintro e w' ⟨rfl, rfl⟩
        go_wp2_with fail
        go_roundw
        case rel => exact ⟨trivial, k + 1, by omega, by go_num, Lib.hid (fun j hj => by
          by_cases e : j = k
          · subst e; exact hz
          · exact hs.out j (by omega))⟩
        case measure => simp [intOf]; omega
    · obtain rfl : k = l.length := by omega
      go_wp2_with fail
      go_ret
      refine ⟨?_, rfl⟩
      rw [all_of hs.out, Bool.and_true]
      first | rfl | simp

set_option maxRecDepth 100000 in
set_option maxHeartbeats 4000000 in
theorem specSlewed (a b : Option Addr) (c d : Nat) (x y : List Int) (s : Int) (w : World) (hx : Ints w a x) (hy : Ints w b y) (hl : x.length ≤ maxLen) (hm : y.length ≤ maxLen) (hs1 : -9223372036854775808 ≤ s) (hs2 : s ≤ 9223372036854775807) :
    Calls Tryz.prog 164 #[.slice a x.length c, .slice b y.length d, .int .i64 s] w (RetI (slew x y s) w) := by
  obtain ⟨i0, hi, hz0, hz1, hz2⟩ := info_parts infoInt
  have hl' : x.length ≤ 9223372036854775807 := by unfold maxLen at hl; exact hl
  have hm' : y.length ≤ 9223372036854775807 := by unfold maxLen at hm; exact hm
  have hno := fun h => slew_no (x := x) (y := y) h s
  have hyes := fun h => slew_yes (x := x) (y := y) h s
  have g0 : w.grownBy (w.alloc (Obj.cells #[] 2)) none := World.grownBy_alloc _ _ _
  have o0 := World.ownsRow_made (base := w.heap.size) (e := 2) (size := 1) w #[] 0 (Nat.le_refl _) (Nat.zero_le _) rfl
  by_cases h7 : x.length ≤ 7
  · have hd7 : decide (7 < (x.length : Int)) = false := by simp; omega
    have cX := specAll a c x (x.length : Int)
    have cY := specAll b d y (x.length : Int)
    rw [decide_eq_true rfl, Bool.true_and] at cX
    cases h1 : x.all okO
    · rw [h1] at cX
      rw [hno (by unfold okAB okA; rw [h1]; simp)]
      clear hno hyes h1 cY
      go_enter Tryz.func164, Tryz.ntmps164
      go_wp2_with fail
      refine (cX _ (hx.kept g0) hl).mono ?_
      rintro e w' ⟨rfl, rfl⟩
      go_wp2_with fail
      go_ret
      exact ⟨_, 0, rfl, g0, Or.inl rfl, fun b e => by rw [blk_nil] at e; cases e⟩
    · rw [h1] at cX
      cases h2 : (decide ((y.length : Int) = (x.length : Int)) && y.all okO)
      · rw [h2] at cY
        have hab : okAB x y = false := by
          unfold okAB okA
          rw [h1]
          cases h3 : y.all okO
          · simp
          · rw [h3, Bool.and_true, decide_eq_false_iff_not] at h2
            have : decide (x.length = y.length) = false := by simp; omega
            rw [this]; rfl
        rw [hno hab]
        clear hno hyes h1 h2 hab
        go_enter Tryz.func164, Tryz.ntmps164
        go_wp2_with fail
        refine (cX _ (hx.kept g0) hl).mono ?_
        rintro e w' ⟨rfl, rfl⟩
        go_wp2_with fail
        refine (cY _ (hy.kept g0) hm).mono ?_
        rintro e w' ⟨rfl, rfl⟩
        go_wp2_with fail
        go_ret
        exact ⟨_, 0, rfl, g0, Or.inl rfl, fun b e => by rw [blk_nil] at e; cases e⟩
      · rw [h2] at cY
        have hxy : x.length = y.length := by simp only [Bool.and_eq_true, decide_eq_true_eq] at h2; omega
        have h3 : y.all okO = true := by simp only [Bool.and_eq_true] at h2; exact h2.2
        have HY := Lib.hid (hyes (by unfold okAB okA; rw [h1, h3]; simp [hxy]; omega))
        have HXY := Lib.hid hxy
        clear hno hyes h1 h2 h3 hxy
        go_enter Tryz.func164, Tryz.ntmps164
        go_wp2_with fail
        refine (cX _ (hx.kept g0) hl).mono ?_
        rintro e w' ⟨rfl, rfl⟩
        go_wp2_with fail
        refine (cY _ (hy.kept g0) hm).mono ?_
        rintro e w' ⟨rfl, rfl⟩
        go_wp2_with fail
        clear cX cY hd7
        go_loopw [7, 9] (fun t i wr => ∃ (k cp : Nat) (g : Option Addr) (L : List Int), k ≤ x.length ∧ i = .int .i64 k ∧ t = .slice g L.length cp ∧ Hid (L = slewTo x y s k) ∧ L.length ≤ 7 ∧ IRow wr w.heap.size (.slice g L.length cp) L ∧ w.grownBy wr none) (fun _ i _ => x.length - (intOf i).toNat)
        case atStart => exact ⟨0, _, _, [], Nat.zero_le _, rfl, rfl, Lib.hid rfl, by simp, o0, g0⟩
        case round =>
          clear o0 g0
          obtain ⟨k, cp, g, L, hk, rfl, rfl, hL, hL7, hown, hg⟩ := hrel
          by_cases hlt : k < x.length
          · have hky : k < y.length := by have := HXY.out; omega
            obtain ⟨z, rfl, hb, cz⟩ := (hy.kept hg) k hky
            have hL6 : L.length ≤ 6 := by rw [hL.out, to_len]; omega
            have hsz := hg.size
            have hbase := row_base hown
            have hto := to_succ x y s k
            by_cases h0 : nth y k = 0
            · rw [h0, one_zero] at hto
              rw [h0] at cz
              have HT := Lib.hid hto
              clear hto h0
              go_wp2_with (at_builtin; refine wpList_append_lies _ rfl _ _ _ rfl w.heap.size 2 i0 _ 1 8 Tryz.underlying25 hi hz0 hz1 hz2 rfl (by omega) (.slice g L.length cp) L.length _ rfl (hown.alloc _) ⟨wr.heap.size, 0, none⟩ 1 1 [.int .i64 0] rfl rfl (World.news_of_block (cs := #[.int .i64 0]) (t := 2) (fr := (0, 0)) (heap_alloc_new wr _)) (by simp [Value.oneCell']) (by omega) (by unfold maxLen; omega) (by omega) (by simp; omega) (wr.heap.size + 1) (by simp) ?_; intro gg cap1 w4 hown3 hgrow hat hlt3)
              have hg03 : w.grownBy w4 none := gr_own (gr_alloc hg _) hgrow hbase
              clear hgrow hat hlt3
              go_wp2_with fail
              go_roundw
              case rel => exact ⟨k + 1, cap1, some ⟨gg, 0, none⟩, L ++ [0], by omega, by go_num, by simp, Lib.hid (by rw [HT.out, hL.out]), by simp; omega, by unfold IRow; rw [vals_snoc]; simpa using hown3, hg03⟩
              case measure => simp [intOf]; omega
            · rw [one_else _ _ h0] at hto
              have he : (nth y k == 0) = false := by simpa using h0
              obtain ⟨z2, rfl, hb2, cz2⟩ := (hx.kept hg) k hlt
              have cT := fun W => fix.specToward (nth x k) (nth y k) s W hs1 hs2
              obtain ⟨v, hv⟩ : ∃ v, kToward (nth x k) (nth y k) s = v := ⟨_, rfl⟩
              rw [hv] at hto cT
              have HT := Lib.hid hto
              clear hto h0 hv
              go_upto_region 10 with fail
              have HA := hown.alloc (Obj.cells #[.int .i64 v] 2)
              have gA := gr_alloc hg (Obj.cells #[.int .i64 v] 2)
              have hbw : z.block < w.heap.size := by obtain ⟨z', e, h', _⟩ := hy k hky; injection e with e; subst e; exact h'
              have hbw2 : z2.block < w.heap.size := by obtain ⟨z', e, h', _⟩ := hx k hlt; injection e with e; subst e; exact h'
              have cA : (wr.alloc (Obj.cells #[.int .i64 v] 2)).cell? (z.add k) = some (.int .i64 (nth y k)) := (World.cell?_of_block (Below.heap_alloc wr _ _ (by rw [block_add]; exact hb))).trans cz
              have cB : (wr.alloc (Obj.cells #[.int .i64 v] 2)).cell? (z2.add k) = some (.int .i64 (nth x k)) := (World.cell?_of_block (Below.heap_alloc wr _ _ (by rw [block_add]; exact hb2))).trans cz2
              go_region_held_law (fun W => W.cell? (z.add k) = some (.int .i64 (nth y k)) ∧ W.cell? (z2.add k) = some (.int .i64 (nth x k)))
                (first | with_reducible exact ⟨cE, cF⟩ | exact ⟨cz, cz2⟩ | exact ⟨cA, cB⟩)
                (first
                  | (refine step_append_lies _ (by rfl) _ _ _ (by rfl) w.heap.size 2 i0 _ 1 8 Tryz.underlying25 hi hz0 hz1 hz2 rfl (by omega) (.slice g L.length cp) L.length (vals L) (by rfl) HA ⟨wr.heap.size, 0, none⟩ 1 1 [.int .i64 v] (by rfl) (by rfl) (World.news_of_block (cs := #[.int .i64 v]) (t := 2) (fr := (0, 0)) (heap_alloc_new wr _)) (by simp [Value.oneCell']) (by omega) (by unfold maxLen; omega) (by omega) (by simp; omega) (wr.heap.size + 1) (by simp) ?_; intro gg cap1 w4 hown3 hgrow hat hlt3; have cE := (hgrow.cell_far (z.add k) (by rw [block_add]; simp; omega) (fun e => by have := hbase _ e.symm; rw [block_add] at this; omega)).trans cA; have cF := (hgrow.cell_far (z2.add k) (by rw [block_add]; simp; omega) (fun e => by have := hbase _ e.symm; rw [block_add] at this; omega)).trans cB)
                  | (go_at_call 170; refine (cT _).mono ?_; rintro e w' ⟨rfl, rfl⟩))
              all_goals have hg03 : w.grownBy w4 none := gr_own (gr_drewN gA 1) hgrow hbase
              all_goals clear hgrow hat hlt3 cE cF cA cB gA HA cz cz2 cT he hown hg
              all_goals go_wp2_with fail
              all_goals go_roundw
              case rel => exact ⟨k + 1, cap1, some ⟨gg, 0, none⟩, L ++ [v], by omega, by go_num, by simp, Lib.hid (by rw [HT.out, hL.out]), by simp; omega, by unfold IRow; rw [vals_snoc]; simpa using hown3, hg03⟩
              case measure => simp [intOf]; omega
          · obtain rfl : k = x.length := by omega
            go_wp2_with fail
            go_ret
            rw [HY.out, ← hL.out]
            exact ⟨g, cp, rfl, hg, il.IRow.own hown, fun u e => il.IRow.above hown e⟩
  · have hd7 : decide (7 < (x.length : Int)) = true := by simp; omega
    rw [hno (by unfold okAB okA; simp [h7])]
    clear hno hyes
    go_enter Tryz.func164, Tryz.ntmps164
    go_wp2_with fail
    go_ret
    exact ⟨_, 0, rfl, g0, Or.inl rfl, fun b e => by rw [blk_nil] at e; cases e⟩
end Go.Proofs.YtdikhdfpcipdbaaGreatDoor.bl
