/- The values of those that are fresh: the program's list and the model's. -/
import Derived.Test.YtdikhdfpcipdbaaGreatDoorVt
namespace Go.Proofs.YtdikhdfpcipdbaaGreatDoor.vt
open Go.ChangeShapes Go.WideShapes Go.ChangeAt Go.RowKit
open Go.Proofs.YtdikhdfpcipdbaaGreatDoor.nums Go.Proofs.YtdikhdfpcipdbaaGreatDoor.mem Go.Proofs.YtdikhdfpcipdbaaGreatDoor.rd
open Go.Proofs.YtdikhdfpcipdbaaGreatDoor.tab (Ret quiet_w)
set_option linter.unusedVariables false

theorem row_base {w : World} {base : Nat} {v : Value} {l : List Int} (h : IRow w base v l) : ∀ g, v.ownBlock = some g → base ≤ g := fun g hg => (h.lt g hg).1
theorem frv_all {l : List R} {m : Int} : frv (l.take l.length) m = frv l m := by rw [List.take_of_length_le (Nat.le_refl _)]

set_option maxRecDepth 100000 in
set_option maxHeartbeats 4000000 in
theorem specFresh (a : Option Addr) (cap : Nat) (l : List R) (m : Int) (w : World) (h : Arg w a l) (hl : l.length ≤ 1000) : Calls Tryz.prog 80 #[.slice a l.length cap, .int .i64 m] w (RetJ (frv l m) w) := by
  obtain ⟨i0, hi, hz0, hz1, hz2⟩ := info_parts infoInt
  have g0 : w.grownBy (w.alloc (Obj.cells #[] 2)) none := World.grownBy_alloc _ _ _
  have o0 := World.ownsRow_made (base := w.heap.size) (e := 2) (size := 1) w #[] 0 (Nat.le_refl _) (Nat.zero_le _) rfl
  go_enter Tryz.func80, Tryz.ntmps80
  go_wp2_with fail
  go_loopw [5, 6] (fun t i wr => ∃ (k g c : Nat) (L : List Int), k ≤ l.length ∧ i = .int .i64 k ∧ t = .slice (some ⟨g, 0, none⟩) L.length c ∧ Hid (L = frv (l.take k) m) ∧ L.length ≤ k ∧ w.heap.size ≤ g ∧ IRow wr w.heap.size (.slice (some ⟨g, 0, none⟩) L.length c) L ∧ w.grownBy wr none) (fun _ i _ => l.length - (intOf i).toNat)
  case atStart => exact ⟨0, _, _, [], Nat.zero_le _, rfl, rfl, Lib.hid rfl, Nat.le_refl _, Nat.le_refl _, o0, g0⟩
  case round =>
    clear o0 g0
    obtain ⟨k, g, c, L, hk, rfl, rfl, hL, hLk, hge, hown, hg⟩ := hrel
    by_cases hlt : k < l.length
    · obtain ⟨x, rfl, hb, cx, cy, cz⟩ := (h.kept hg) k hlt
      cases hf : fresh (rx l k, ra l k, ro l k) m with
      | false =>
        have HF := Lib.hid hf
        go_wp2_with fail
        refine (specIsFresh _ _ _ _ _).mono ?_
        rintro e w1 ⟨rfl, hg1⟩
        rw [hf]
        clear hf
        go_wp2_with fail
        go_roundw
        case rel => exact ⟨k + 1, g, c, L, by omega, by go_num, rfl, Lib.hid (by rw [frv_no hlt HF.out]; exact hL.out), by omega, hge, hown.kept hg1 (.inr (by simp [Value.ownBlock])), gr_trans hg hg1⟩
        case measure => simp [intOf]; omega
      | true =>
        have HF := Lib.hid hf
        go_wp2_with fail
        refine (specIsFresh _ _ _ _ _).mono ?_
        rintro e w1 ⟨rfl, hg1⟩
        rw [hf]
        clear hf
        have hg01 := gr_trans hg hg1
        have hsz := hg01.size
        have hown1 := hown.kept hg1 (Or.inr (by simp [Value.ownBlock]))
        obtain ⟨x', e', hb', cx', cy', cz'⟩ := (h.kept hg01) k hlt
        injection e' with e'
        subst e'
        clear cx cy cz hg1 hown hg cy' cz'
        go_wp2_with (at_builtin; refine wpList_append_lies _ rfl _ _ _ rfl w.heap.size 2 i0 _ 1 8 Tryz.underlying25 hi hz0 hz1 hz2 rfl (by omega) (.slice (some ⟨g, 0, none⟩) L.length c) L.length _ rfl (hown1.alloc _) ⟨w1.heap.size, 0, none⟩ 1 1 [.int .i64 (rx l k)] rfl rfl (World.news_of_block (cs := #[.int .i64 (rx l k)]) (t := 2) (fr := (0, 0)) (heap_alloc_new w1 _)) (by simp [Value.oneCell']) (by omega) (by unfold maxLen; omega) (by omega) (by simp; omega) (w1.heap.size + 1) (by simp) ?_; intro gg cap1 w3 hown3 hgrow hat hlt3)
        have hgw : w1.grownBy w3 (some g) := gr_trans (World.grownBy_alloc _ _ _) hgrow
        have hg03 := gr_past hg01 hgw hge
        go_wp2_with fail
        go_roundw
        case rel => exact ⟨k + 1, gg, cap1, L ++ [rx l k], by omega, by go_num, by simp, Lib.hid (by rw [frv_yes hlt HF.out, hL.out]), by simp; omega, by
          rcases hat with hat | hat
          · simp [Value.ownBlock] at hat; omega
          · omega, by unfold IRow; rw [vals_snoc]; simpa using hown3, hg03⟩
        case measure => simp [intOf]; omega
    · obtain rfl : k = l.length := by omega
      go_wp2_with fail
      go_ret
      have e := hL.out
      rw [frv_all] at e
      subst e
      exact ⟨_, _, rfl, hg, hown⟩

set_option maxRecDepth 100000 in
set_option maxHeartbeats 4000000 in
theorem implFresh (a : Option Addr) (cap : Nat) (l : List R) (many : Nat) (m : Int) (w : World) (h : Arg w a l) (hl : l.length ≤ 1048576) (hm : many ≤ 100) :
    Calls Tryz.prog 70 #[.slice a l.length cap, .int .i64 many, .int .i64 m] w (RetI (voters l many m) w) := by
  obtain ⟨i0, hi, hz0, hz1, hz2⟩ := info_parts infoInt
  by_cases hlen : l.length = many
  · subst hlen
    go_enter Tryz.func70, Tryz.ntmps70
    go_wp2_with fail
    go_loopw [7, 16] (fun t i wr => ∃ (k c : Nat) (b : Option Addr) (L : List Int), k ≤ l.length ∧ i = .int .i64 k ∧ t = .slice b L.length c ∧ Hid (L = frv (l.take k) m) ∧ L.length ≤ k ∧ IRow wr w.heap.size (.slice b L.length c) L ∧ Hid (L = [] → b = none) ∧ Hid (∀ j, j < k → okR (rx l j, ra l j, ro l j) = true) ∧ w.grownBy wr none) (fun _ i _ => l.length - (intOf i).toNat)
    case atStart => exact ⟨0, _, _, [], Nat.zero_le _, rfl, rfl, Lib.hid rfl, Nat.le_refl _, World.ownsRow_nil _ _ _ _, Lib.hid (fun _ => rfl), Lib.hid (fun j hj => by omega), gr_refl _ _⟩
    case round =>
      obtain ⟨k, c, b, L, hk, rfl, rfl, hL, hLk, hown, hN, hok, hg⟩ := hrel
      by_cases hlt : k < l.length
      · obtain ⟨x, rfl, hb, cx, cy, cz⟩ := (h.kept hg) k hlt
        have hB := Has.fresh wr 42 #[.int .i64 (rx l k), .int .i64 (ra l k), .bool (ro l k)]
        have hown0 := hown.alloc (Obj.cells #[.int .i64 (rx l k), .int .i64 (ra l k), .bool (ro l k)] 42)
        have hg0 := gr_alloc hg (Obj.cells #[.int .i64 (rx l k), .int .i64 (ra l k), .bool (ro l k)] 42)
        cases ho : okR (rx l k, ra l k, ro l k) with
        | false =>
          have HA := Lib.hid (voters_bad (many := l.length) (m := m) (all_no hlt ho))
          go_wp2_with fail
          refine (implReadingOk _ _ _ _).mono ?_
          rintro e w1 ⟨rfl, hg1⟩
          rw [ho]
          clear ho
          go_wp2_with fail
          go_ret
          rw [HA.out]
          exact ⟨none, 0, rfl, gr_trans hg0 hg1, World.ownsRow_nil _ _ _ _, fun _ => rfl⟩
        | true =>
          have HO := Lib.hid ho
          go_wp2_with fail
          refine (implReadingOk _ _ _ _).mono ?_
          rintro e w1 ⟨rfl, hg1⟩
          rw [ho]
          clear ho
          replace hown0 := hown0.kept hg1 (by cases b <;> simp [Value.ownBlock])
          replace hB := hB.grown hg1 (by simp)
          replace hg0 := gr_trans hg0 hg1
          obtain ⟨c0, c1, c2, _, _, _⟩ := three hB
          clear hg1 cx cy cz hown hg
          cases hf : fresh (rx l k, ra l k, ro l k) m with
          | false =>
            have HF := Lib.hid hf
            go_wp2_with fail
            refine (implIsFresh _ _ _ _ _).mono ?_
            rintro e w2 ⟨rfl, hg2⟩
            rw [hf]
            clear hf
            replace hown0 := hown0.kept hg2 (by cases b <;> simp [Value.ownBlock])
            replace hg0 := gr_trans hg0 hg2
            go_wp2_with fail
            go_roundw
            case rel => exact ⟨k + 1, c, b, L, by omega, by go_num, rfl, Lib.hid (by rw [frv_no hlt HF.out]; exact hL.out), by omega, hown0, hN, Lib.hid (fun j hj => by
              by_cases e : j = k
              · subst e; exact HO.out
              · exact hok.out j (by omega)), hg0⟩
            case measure => simp [intOf]; omega
          | true =>
            have HF := Lib.hid hf
            go_wp2_with fail
            refine (implIsFresh _ _ _ _ _).mono ?_
            rintro e w2 ⟨rfl, hg2⟩
            rw [hf]
            clear hf
            replace hown0 := hown0.kept hg2 (by cases b <;> simp [Value.ownBlock])
            replace hB := hB.grown hg2 (by simp)
            replace hg0 := gr_trans hg0 hg2
            have hsz := hg0.size
            have hbase := row_base hown0
            clear hg2 c0 c1 c2
            obtain ⟨c0, _, _, _, _, _⟩ := three hB
            clear hB
            go_wp2_with (at_builtin; refine wpList_append_lies _ rfl _ _ _ rfl w.heap.size 2 i0 _ 1 8 Tryz.underlying25 hi hz0 hz1 hz2 rfl (by omega) (.slice b L.length c) L.length _ rfl (hown0.alloc _) ⟨w2.heap.size, 0, none⟩ 1 1 [.int .i64 (rx l k)] rfl rfl (World.news_of_block (cs := #[.int .i64 (rx l k)]) (t := 2) (fr := (0, 0)) (heap_alloc_new w2 _)) (by simp [Value.oneCell']) (by omega) (by unfold maxLen; omega) (by omega) (by simp; omega) (w2.heap.size + 1) (by simp) ?_; intro gg cap1 w3 hown3 hgrow hat hlt3)
            have hg03 : w.grownBy w3 none := gr_own (gr_alloc hg0 _) hgrow hbase
            clear hgrow hat hlt3
            go_wp2_with fail
            go_roundw
            case rel => exact ⟨k + 1, cap1, some ⟨gg, 0, none⟩, L ++ [rx l k], by omega, by go_num, by simp, Lib.hid (by rw [frv_yes hlt HF.out, hL.out]), by simp; omega, by unfold IRow; rw [vals_snoc]; simpa using hown3, Lib.hid (fun e => by simp at e), Lib.hid (fun j hj => by
              by_cases e : j = k
              · subst e; exact HO.out
              · exact hok.out j (by omega)), hg03⟩
            case measure => simp [intOf]; omega
      · obtain rfl : k = l.length := by omega
        have HA := Lib.hid (voters_ok (m := m) (rfl : l.length = l.length) (all_yes hok.out))
        go_wp2_with fail
        go_ret
        have e := hL.out
        rw [frv_all] at e
        subst e
        rw [HA.out]
        exact ⟨b, c, rfl, hg, hown, hN.out⟩
  · rw [voters_len hlen]
    go_enter Tryz.func70, Tryz.ntmps70
    go_wp2_with fail
    go_ret
    exact ⟨none, 0, rfl, gr_refl _ _, World.ownsRow_nil _ _ _ _, fun _ => rfl⟩
end Go.Proofs.YtdikhdfpcipdbaaGreatDoor.vt
