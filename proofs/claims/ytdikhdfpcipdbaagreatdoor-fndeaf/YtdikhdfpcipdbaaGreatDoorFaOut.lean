/- OutIn of both sides. -/
import Derived.Test.YtdikhdfpcipdbaaGreatDoorFaLst
import Derived.Test.YtdikhdfpcipdbaaGreatDoorIl
namespace Go.Proofs.YtdikhdfpcipdbaaGreatDoor.fan
open Go.ChangeShapes Go.WideShapes Go.ChangeAt Go.RowKit
open Go.Proofs.YtdikhdfpcipdbaaGreatDoor.nums Go.Proofs.YtdikhdfpcipdbaaGreatDoor.mem
open Go.Proofs.YtdikhdfpcipdbaaGreatDoor.rd (three set3 fresh1)
open Go.Proofs.YtdikhdfpcipdbaaGreatDoor.il (IRow vals vals_snoc gr_own row_base RetI infoInt)
open Go.Proofs.YtdikhdfpcipdbaaGreatDoor.tab (Ret quiet_w wpList_make_has add_off)
set_option linter.unusedVariables false

/-- Which of the first k are given up. -/
def outs (l : List F) (k : Nat) : List Int := ((List.range k).filter fun j => fT l j).map fun j : Nat => (j : Int)
def outIn (l : List F) : List Int := if l.length ≤ 6 ∧ l.all okF = true then outs l l.length else []
theorem outs_zero (l : List F) : outs l 0 = [] := rfl
theorem outs_yes {l : List F} {k : Nat} (h : fT l k = true) : outs l (k + 1) = outs l k ++ [(k : Int)] := by
  unfold outs; rw [List.range_succ, List.filter_append, List.map_append]; simp [h]
theorem outs_no {l : List F} {k : Nat} (h : fT l k = false) : outs l (k + 1) = outs l k := by
  unfold outs; rw [List.range_succ, List.filter_append, List.map_append]; simp [h]
theorem outs_len (l : List F) (k : Nat) : (outs l k).length ≤ k := by
  unfold outs; rw [List.length_map]; exact Nat.le_trans (List.length_filter_le _ _) (by simp)
theorem outIn_ok {l : List F} (h : l.length ≤ 6) (h2 : l.all okF = true) : outIn l = outs l l.length := if_pos ⟨h, h2⟩
theorem outIn_bad {l : List F} (h : l.all okF = false) : outIn l = [] := if_neg (by rw [h]; simp)
theorem outIn_many {l : List F} (h : 6 < l.length) : outIn l = [] := if_neg (fun e => by omega)
theorem outIn_len (l : List F) : (outIn l).length ≤ 6 := by
  unfold outIn; split
  · rename_i h; have := outs_len l l.length; omega
  · simp
theorem all_at {l : List F} (h : l.all okF = true) {k : Nat} (hk : k < l.length) : inb (fN l k) 0 100 = true := by
  have := List.all_eq_true.1 h _ (List.getElem_mem hk)
  rw [← getD_lt hk] at this
  exact this
theorem all_no {l : List F} {k : Nat} (hk : k < l.length) (h : inb (fN l k) 0 100 = false) : l.all okF = false := by
  cases ha : l.all okF with
  | false => rfl
  | true => rw [all_at ha hk] at h; cases h
theorem all_yes {l : List F} (h : ∀ k, k < l.length → inb (fN l k) 0 100 = true) : l.all okF = true := by
  rw [List.all_eq_true]
  intro r hr
  obtain ⟨k, hk, rfl⟩ := List.getElem_of_mem hr
  have := h k hk
  unfold fN at this
  rwa [getD_lt hk] at this

set_option maxRecDepth 100000 in
set_option maxHeartbeats 4000000 in
theorem specOutIn (a : Option Addr) (cap : Nat) (l : List F) (w : World) (h : Arg w a l) (hl : l.length ≤ 1048576) : Calls Tryz.prog 162 #[.slice a l.length cap] w (RetI (outIn l) w) := by
  obtain ⟨i0, hi, hz0, hz1, hz2⟩ := info_parts infoInt
  have g0 : w.grownBy (w.alloc (Obj.cells #[] 2)) none := World.grownBy_alloc _ _ _
  have o0 := World.ownsRow_made (base := w.heap.size) (e := 2) (size := 1) w #[] 0 (Nat.le_refl _) (Nat.zero_le _) rfl
  by_cases hm : l.length ≤ 6
  · have hd : decide (6 < (l.length : Int)) = false := by simp; omega
    go_enter Tryz.func162, Tryz.ntmps162
    go_wp2_with fail
    go_loopw [3, 4] (fun t i wr => ∃ (k c : Nat) (b : Option Addr) (L : List Int), k ≤ l.length ∧ i = .int .i64 k ∧ t = .slice b L.length c ∧ Hid (L = outs l k) ∧ L.length ≤ k ∧ IRow wr w.heap.size (.slice b L.length c) L ∧ Hid (∀ j, j < k → inb (fN l j) 0 100 = true) ∧ w.grownBy wr none) (fun _ i _ => l.length - (intOf i).toNat)
    case atStart => exact ⟨0, _, _, [], Nat.zero_le _, rfl, rfl, Lib.hid rfl, Nat.le_refl _, o0, Lib.hid (fun j hj => by omega), g0⟩
    case round =>
      clear o0 g0
      obtain ⟨k, c, b, L, hk, rfl, rfl, hL, hLk, hown, hok, hg⟩ := hrel
      by_cases hlt : k < l.length
      · obtain ⟨x, rfl, hb, cx, cy, cz⟩ := (h.kept hg) k hlt
        obtain ⟨o, ho⟩ : ∃ o, inb (fN l k) 0 100 = o := ⟨_, rfl⟩
        obtain ⟨f, hf⟩ : ∃ f, fT l k = f := ⟨_, rfl⟩
        have cF : ∀ W, Calls Tryz.prog 143 #[.agg #[.int .i64 (fN l k), .bool (fO l k), .bool f]] W (Ret (.bool o) W) := fun W => ho ▸ hf ▸ specFanOk (fN l k) (fO l k) (fT l k) W
        have HF := Lib.hid hf
        have HO := Lib.hid ho
        rw [hf] at cz
        clear hf ho
        cases o with
        | false =>
          have HA := Lib.hid (outIn_bad (all_no hlt HO.out))
          go_wp2_with fail
          refine (cF _).mono ?_
          rintro e w1 ⟨rfl, hg1⟩
          go_wp2_with fail
          go_ret
          rw [HA.out]
          exact ⟨_, _, rfl, gr_alloc (gr_trans hg hg1) _, Or.inl rfl, fun b e => by rw [il.blk_nil] at e; cases e⟩
        | true =>
          go_wp2_with fail
          refine (cF _).mono ?_
          rintro e w1 ⟨rfl, hg1⟩
          have hg01 := gr_trans hg hg1
          have hsz := hg01.size
          replace hown := hown.kept hg1 (by cases b <;> simp [Value.ownBlock])
          obtain ⟨x', e', hb', cx', cy', cz'⟩ := (h.kept hg01) k hlt
          injection e' with e'
          subst e'
          rw [HF.out] at cz'
          clear cx cy cz hg1 hg cF cx' cy'
          have hbase := row_base hown
          cases f with
          | false =>
            go_wp2_with fail
            go_roundw
            case rel => exact ⟨k + 1, c, b, L, by omega, by go_num, rfl, Lib.hid (by rw [outs_no HF.out]; exact hL.out), by omega, hown, Lib.hid (fun j hj => by
              by_cases e : j = k
              · subst e; exact HO.out
              · exact hok.out j (by omega)), hg01⟩
            case measure => simp [intOf]; omega
          | true =>
            go_wp2_with (at_builtin; refine wpList_append_lies _ rfl _ _ _ rfl w.heap.size 2 i0 _ 1 8 Tryz.underlying25 hi hz0 hz1 hz2 rfl (by omega) (.slice b L.length c) L.length _ rfl (hown.alloc _) ⟨w1.heap.size, 0, none⟩ 1 1 [.int .i64 (k : Int)] rfl rfl (World.news_of_block (cs := #[.int .i64 (k : Int)]) (t := 2) (fr := (0, 0)) (heap_alloc_new w1 _)) (by simp [Value.oneCell']) (by omega) (by unfold maxLen; omega) (by omega) (by simp; omega) (w1.heap.size + 1) (by simp) ?_; intro gg cap1 w3 hown3 hgrow hat hlt3)
            have hg03 : w.grownBy w3 none := gr_own (gr_alloc hg01 _) hgrow hbase
            clear hgrow hat hlt3
            go_wp2_with fail
            go_roundw
            case rel => exact ⟨k + 1, cap1, some ⟨gg, 0, none⟩, L ++ [(k : Int)], by omega, by go_num, by simp, Lib.hid (by rw [outs_yes HF.out, hL.out]), by simp; omega, by unfold IRow; rw [vals_snoc]; simpa using hown3, Lib.hid (fun j hj => by
              by_cases e : j = k
              · subst e; exact HO.out
              · exact hok.out j (by omega)), hg03⟩
            case measure => simp [intOf]; omega
      · obtain rfl : k = l.length := by omega
        have HA := Lib.hid (outIn_ok hm (all_yes hok.out))
        go_wp2_with fail
        go_ret
        rw [HA.out, ← hL.out]
        exact ⟨b, c, rfl, hg, il.IRow.own hown, fun x e => il.IRow.above hown e⟩
  · have hd : decide (6 < (l.length : Int)) = true := by simp; omega
    rw [outIn_many (by omega)]
    go_enter Tryz.func162, Tryz.ntmps162
    go_wp2_with fail
    go_loopw [3, 4] (fun t i wr => i = .int .i64 0 ∧ t = .slice (some ⟨w.heap.size, 0, none⟩) 0 0 ∧ w.grownBy wr none) (fun _ i _ => 0)
    case atStart => exact ⟨rfl, rfl, g0⟩
    case round =>
      clear o0 g0
      obtain ⟨rfl, rfl, hg⟩ := hrel
      obtain ⟨x, rfl, hb, cx, cy, cz⟩ := (h.kept hg) 0 (by omega)
      have hx0 : x.add 0 = x := by simp [Addr.add]
      simp only [Nat.zero_mul, hx0] at cx cy cz
      obtain ⟨o, ho⟩ : ∃ o, inb (fN l 0) 0 100 = o := ⟨_, rfl⟩
      have cF : ∀ W, Calls Tryz.prog 143 #[.agg #[.int .i64 (fN l 0), .bool (fO l 0), .bool (fT l 0)]] W (Ret (.bool o) W) := fun W => ho ▸ specFanOk (fN l 0) (fO l 0) (fT l 0) W
      clear ho
      cases o with
      | false =>
        go_wp2_with fail
        refine (cF _).mono ?_
        rintro e w1 ⟨rfl, hg1⟩
        go_wp2_with fail
        go_ret
        exact ⟨_, _, rfl, gr_alloc (gr_trans hg hg1) _, Or.inl rfl, fun b e => by rw [il.blk_nil] at e; cases e⟩
      | true =>
        go_wp2_with fail
        refine (cF _).mono ?_
        rintro e w1 ⟨rfl, hg1⟩
        go_wp2_with fail
        go_ret
        exact ⟨_, _, rfl, gr_alloc (gr_trans hg hg1) _, Or.inl rfl, fun b e => by rw [il.blk_nil] at e; cases e⟩
end Go.Proofs.YtdikhdfpcipdbaaGreatDoor.fan
