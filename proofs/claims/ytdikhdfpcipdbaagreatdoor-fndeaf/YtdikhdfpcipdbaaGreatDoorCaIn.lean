/- StaysIn of both sides. -/
import Derived.Test.YtdikhdfpcipdbaaGreatDoorCa
namespace Go.Proofs.YtdikhdfpcipdbaaGreatDoor.cas
open Go.ChangeShapes Go.WideShapes Go.ChangeAt Go.RowKit
open Go.Proofs.YtdikhdfpcipdbaaGreatDoor.nums Go.Proofs.YtdikhdfpcipdbaaGreatDoor.mem
open Go.Proofs.YtdikhdfpcipdbaaGreatDoor.il (nth IRow vals vals_snoc gr_own row_base RetI infoInt)
set_option linter.unusedVariables false

theorem in_len (c : Int) : (staysIn c).length ≤ 6 := to_len c 6

set_option maxRecDepth 100000 in
set_option maxHeartbeats 4000000 in
theorem specStaysIn (c : Int) (w : World) : Calls Tryz.prog 187 #[.int .i64 c] w (RetI (staysIn c) w) := by
  obtain ⟨i0, hi, hz0, hz1, hz2⟩ := info_parts infoInt
  have g0 : w.grownBy (w.alloc (Obj.cells #[] 2)) none := World.grownBy_alloc _ _ _
  have o0 := World.ownsRow_made (base := w.heap.size) (e := 2) (size := 1) w #[] 0 (Nat.le_refl _) (Nat.zero_le _) rfl
  go_enter Tryz.func187, Tryz.ntmps187
  go_wp2_with fail
  go_loopw [3, 4] (fun t i wr => ∃ (k cp : Nat) (b : Option Addr) (L : List Int), k ≤ 6 ∧ i = .int .i64 k ∧ t = .slice b L.length cp ∧ Hid (L = staysTo c k) ∧ L.length ≤ k ∧ IRow wr w.heap.size (.slice b L.length cp) L ∧ w.grownBy wr none) (fun _ i _ => 6 - (intOf i).toNat)
  case atStart => exact ⟨0, _, _, [], Nat.zero_le _, rfl, rfl, Lib.hid rfl, Nat.le_refl _, o0, g0⟩
  case round =>
    clear o0 g0
    obtain ⟨k, cp, b, L, hk, rfl, rfl, hL, hLk, hown, hg⟩ := hrel
    by_cases hlt : k < 6
    · have hd : decide ((k : Int) < 6) = true := by simp; omega
      obtain ⟨o, ho⟩ : ∃ o, staysOn c (k : Int) = o := ⟨_, rfl⟩
      have cS : ∀ W, Calls Tryz.prog 192 #[.int .i64 c, .int .i64 (k : Int)] W fun e w' => e = .returned (.bool o) ∧ W = w' := fun W => ho ▸ specStaysOn c k W
      have HO := Lib.hid ho
      clear ho
      have hsz := hg.size
      have hbase := row_base hown
      cases o with
      | false =>
        go_wp2_with (go_at_call 192; refine (cS _).mono ?_; rintro e w' ⟨rfl, rfl⟩)
        go_roundw
        case rel => exact ⟨k + 1, cp, b, L, by omega, by go_num, rfl, Lib.hid (by rw [to_no HO.out]; exact hL.out), by omega, hown, hg⟩
        case measure => simp [intOf]; omega
      | true =>
        go_wp2_with (first | (go_at_call 192; refine (cS _).mono ?_; rintro e w' ⟨rfl, rfl⟩) | (at_builtin; refine wpList_append_lies _ rfl _ _ _ rfl w.heap.size 2 i0 _ 1 8 Tryz.underlying25 hi hz0 hz1 hz2 rfl (by omega) (.slice b L.length cp) L.length _ rfl (hown.alloc _) ⟨wr.heap.size, 0, none⟩ 1 1 [.int .i64 (k : Int)] rfl rfl (World.news_of_block (cs := #[.int .i64 (k : Int)]) (t := 2) (fr := (0, 0)) (heap_alloc_new wr _)) (by simp [Value.oneCell']) (by omega) (by unfold maxLen; omega) (by omega) (by simp; omega) (wr.heap.size + 1) (by simp) ?_; intro gg cap1 w3 hown3 hgrow hat hlt3))
        have hg03 : w.grownBy w3 none := gr_own (gr_alloc hg _) hgrow hbase
        clear hgrow hat hlt3
        go_wp2_with fail
        go_roundw
        case rel => exact ⟨k + 1, cap1, some ⟨gg, 0, none⟩, L ++ [(k : Int)], by omega, by go_num, by simp, Lib.hid (by rw [to_yes HO.out, hL.out]), by simp; omega, by unfold IRow; rw [vals_snoc]; simpa using hown3, hg03⟩
        case measure => simp [intOf]; omega
    · obtain rfl : k = 6 := by omega
      go_wp2_with fail
      go_ret
      show RetI (staysTo c 6) _ _ _
      rw [← hL.out]
      exact ⟨b, cp, rfl, hg, il.IRow.own hown, fun x e => il.IRow.above hown e⟩
end Go.Proofs.YtdikhdfpcipdbaaGreatDoor.cas
