/- AgedAll, the model's and the program's. -/
import Derived.Test.YtdikhdfpcipdbaaGreatDoorRdLst
namespace Go.Proofs.YtdikhdfpcipdbaaGreatDoor.rd
open Go.ChangeShapes Go.WideShapes Go.ChangeAt Go.RowKit
open Go.Proofs.YtdikhdfpcipdbaaGreatDoor.nums Go.Proofs.YtdikhdfpcipdbaaGreatDoor.mem
open Go.Proofs.YtdikhdfpcipdbaaGreatDoor.tab (Ret quiet_w wpList_make_has add_off)
set_option linter.unusedVariables false

def agedAll (l : List R) : List R := if l.all okR = true then l.map ageR else []
theorem agedAll_ok {l : List R} (h : l.all okR = true) : agedAll l = l.map ageR := if_pos h
theorem agedAll_no {l : List R} (h : l.all okR = false) : agedAll l = [] := if_neg (by rw [h]; simp)
theorem all_at {l : List R} (h : l.all okR = true) {k : Nat} (hk : k < l.length) : okR (rx l k, ra l k, ro l k) = true := by
  rw [← rr, getD_lt hk]
  exact List.all_eq_true.1 h _ (List.getElem_mem _)
theorem all_no {l : List R} {k : Nat} (hk : k < l.length) (h : okR (rx l k, ra l k, ro l k) = false) : l.all okR = false := by
  cases ha : l.all okR with
  | false => rfl
  | true => rw [all_at ha hk] at h; cases h
theorem all_yes {l : List R} (h : ∀ k, k < l.length → okR (rx l k, ra l k, ro l k) = true) : l.all okR = true := by
  rw [List.all_eq_true]
  intro r hr
  obtain ⟨k, hk, rfl⟩ := List.getElem_of_mem hr
  have := h k hk
  rwa [← rr, getD_lt hk] at this

theorem specRight (a : Option Addr) (cap : Nat) (l : List R) (w : World) (h : Arg w a l) (hl : l.length ≤ 1048576) : Calls Tryz.prog 52 #[.slice a l.length cap] w (Ret (.bool (l.all okR)) w) := by
  go_enter Tryz.func52, Tryz.ntmps52
  go_wp2_with fail
  go_loopw [3] (fun i wr => ∃ k : Nat, k ≤ l.length ∧ i = .int .i64 k ∧ Hid (∀ j, j < k → okR (rx l j, ra l j, ro l j) = true) ∧ w.grownBy wr none) (fun i _ => l.length - (intOf i).toNat)
  case atStart => exact ⟨0, Nat.zero_le _, rfl, Lib.hid (fun j hj => by omega), gr_refl _ _⟩
  case round =>
    obtain ⟨k, hk, rfl, hr, hg⟩ := hrel
    by_cases hlt : k < l.length
    · obtain ⟨x, rfl, hb, cx, cy, cz⟩ := (h.kept hg) k hlt
      by_cases ho : okR (rx l k, ra l k, ro l k) = true
      · go_wp2_with fail
        refine (specReadingOk _ _ _ _).mono ?_
        rintro e w1 ⟨rfl, hg1⟩
        have HO := Lib.hid ho
        go_wp2_with fail
        go_roundw
        case rel => exact ⟨k + 1, by omega, by go_num, Lib.hid (fun j hj => by
          by_cases e : j = k
          · subst e; exact HO.out
          · exact hr.out j (by omega)), gr_trans hg hg1⟩
        case measure => simp [intOf]; omega
      · have ho' : okR (rx l k, ra l k, ro l k) = false := by simpa using ho
        clear ho
        have HA := Lib.hid (all_no hlt ho')
        go_wp2_with fail
        refine (specReadingOk _ _ _ _).mono ?_
        rintro e w1 ⟨rfl, hg1⟩
        go_wp2_with fail
        go_ret
        exact ⟨fix.ret_bool HA.out.symm, gr_trans hg hg1⟩
    · obtain rfl : k = l.length := by omega
      have HA := Lib.hid (all_yes hr.out)
      go_wp2_with fail
      go_ret
      exact ⟨fix.ret_bool HA.out.symm, hg⟩

/-- A list comes back that can be read: of what was there nothing is another. -/
def RetL (l : List R) (w : World) (e : Ending) (w' : World) : Prop := ∃ a cap, e = .returned (.slice a l.length cap) ∧ w.grownBy w' none ∧ Arg w' a l

theorem map_take_snoc {l : List R} {k : Nat} (h : k < l.length) : (l.map ageR).take (k + 1) = (l.map ageR).take k ++ [ageR (rx l k, ra l k, ro l k)] := by
  have hk : k < (l.map ageR).length := by simpa using h
  rw [List.take_succ_eq_append_getElem hk, List.getElem_map, ← rr, getD_lt h]

set_option maxRecDepth 100000 in
set_option maxHeartbeats 4000000 in
theorem specAgedAll (a : Option Addr) (cap : Nat) (l : List R) (w : World) (h : Arg w a l) (hl : l.length ≤ 1048576) : Calls Tryz.prog 42 #[.slice a l.length cap] w (RetL (agedAll l) w) := by
  obtain ⟨i0, hi, hz0, hz1, hz2⟩ := info_parts infoReading
  have g0 : w.grownBy (w.alloc (Obj.cells #[] 42)) none := World.grownBy_alloc _ _ _
  have o0 := World.ownsRow_made (base := w.heap.size) (e := 42) (size := 3) w #[] 0 (Nat.le_refl _) (Nat.zero_le _) rfl
  by_cases ha : l.all okR = true
  · rw [agedAll_ok ha]
    have HA := Lib.hid ha
    go_enter Tryz.func42, Tryz.ntmps42
    go_wp2_with fail
    go_loopw [3, 4] (fun t i wr => ∃ (k g c : Nat), k ≤ l.length ∧ i = .int .i64 k ∧ t = .slice (some ⟨g, 0, none⟩) k c ∧ w.heap.size ≤ g ∧ wr.ownsRow w.heap.size 42 3 (.slice (some ⟨g, 0, none⟩) k c) k (rowR ((l.map ageR).take k)) ∧ w.grownBy wr none) (fun _ i _ => l.length - (intOf i).toNat)
    case atStart => exact ⟨0, _, _, Nat.zero_le _, rfl, rfl, Nat.le_refl _, o0, g0⟩
    case round =>
      clear o0 g0
      obtain ⟨k, g, c, hk, rfl, rfl, hge, hown, hg⟩ := hrel
      by_cases hlt : k < l.length
      · have hA := h.kept hg
        obtain ⟨x, rfl, hb, cx, cy, cz⟩ := hA k hlt
        obtain ⟨_, q0, q1⟩ := okR_iff.1 (all_at ha hlt)
        go_wp2_with fail
        refine (specRight _ _ _ _ hA hl).mono ?_
        rintro e w1 ⟨rfl, hg1⟩
        have hg01 := gr_trans hg hg1
        have hsz := hg01.size
        have hown1 := hown.kept hg1 (Or.inr (by simp [Value.ownBlock]))
        obtain ⟨x', e', hb', cx', cy', cz'⟩ := (h.kept hg01) k hlt
        injection e' with e'
        subst e'
        clear cx cy cz hg1 hown
        go_wp2_with fail
        refine (specAge _ _ _ _ q0 q1).mono ?_
        rintro e w2 ⟨rfl, hg2⟩
        have hg02 := gr_trans hg01 hg2
        have hsz2 := hg02.size
        have hown2 := hown1.kept hg2 (Or.inr (by simp [Value.ownBlock]))
        clear cx' cy' cz' hg2 hown1 hg01
        go_wp2_with (at_builtin; refine wpList_append_lies _ rfl _ _ _ rfl w.heap.size 42 i0 _ 3 24 Tryz.underlying24 hi hz0 hz1 hz2 rfl (by omega) (.slice (some ⟨g, 0, none⟩) k c) k _ rfl (hown2.alloc _) ⟨w2.heap.size, 0, none⟩ 1 1 [.int .i64 (rx l k), .int .i64 (min 1000 (ra l k + 1)), .bool (ro l k)] rfl rfl (World.news_of_block (cs := #[.int .i64 (rx l k), .int .i64 (min 1000 (ra l k + 1)), .bool (ro l k)]) (t := 42) (fr := (0, 0)) (heap_alloc_new w2 _)) (by simp [Value.oneCell']) (by omega) (by unfold maxLen; omega) (by omega) (by simp; omega) (w2.heap.size + 1) (by simp) ?_; intro gg cap1 w3 hown3 hgrow hat hlt3)
        have hgw : w2.grownBy w3 (some g) := gr_trans (World.grownBy_alloc _ _ _) hgrow
        have hg03 := gr_past hg02 hgw hge
        go_wp2_with fail
        go_roundw
        case rel => exact ⟨k + 1, gg, cap1, by omega, by go_num, rfl, by
          rcases hat with hat | hat
          · simp [Value.ownBlock] at hat; omega
          · omega, by rw [map_take_snoc hlt, rowR_snoc]; exact hown3, hg03⟩
        case measure => simp [intOf]; omega
      · obtain rfl : k = l.length := by omega
        go_wp2_with fail
        go_ret
        have ht : (l.map ageR).take l.length = l.map ageR := by rw [List.take_of_length_le (by simp)]
        rw [ht] at hown
        exact ⟨some ⟨g, 0, none⟩, c, by simp, hg, arg_of_row (base := w.heap.size) (m := l.length) (cap := c) (by simpa using hown)⟩
  · have ha' : l.all okR = false := Bool.eq_false_iff.2 ha
    clear ha
    rw [agedAll_no ha']
    go_enter Tryz.func42, Tryz.ntmps42
    go_wp2_with fail
    go_loopw [3, 4] (fun t i wr => i = .int .i64 0 ∧ t = .slice (some ⟨w.heap.size, 0, none⟩) 0 0 ∧ w.grownBy wr none) (fun _ i _ => 0)
    case atStart => exact ⟨rfl, rfl, g0⟩
    case round =>
      clear o0 g0
      obtain ⟨rfl, rfl, hg⟩ := hrel
      have hne : 0 < l.length := by
        cases l with
        | nil => simp at ha'
        | cons _ _ => simp
      go_wp2_with fail
      refine (specRight _ _ _ _ (h.kept hg) hl).mono ?_
      rintro e w1 ⟨rfl, hg1⟩
      go_wp2_with fail
      go_ret
      exact ⟨_, _, rfl, gr_trans hg hg1, Arg.nil _ _⟩

theorem map_age {l : List R} {k : Nat} (h : k < l.length) : (l.map ageR).getD k zR = (rx l k, min 1000 (ra l k + 1), ro l k) := by rw [rx_map h, ageR]

set_option maxRecDepth 100000 in
set_option maxHeartbeats 4000000 in
theorem implAgedAll (a : Option Addr) (cap : Nat) (l : List R) (w : World) (h : Arg w a l) (hl : l.length ≤ 1048576) : Calls Tryz.prog 63 #[.slice a l.length cap] w (RetO (agedAll l) w) := by
  obtain ⟨i0, hi, hz0, hz1, hz2⟩ := info_parts infoReading
  go_enter Tryz.func63, Tryz.ntmps63
  go_wp2_with (at_make; refine wpList_make_has _ rfl _ _ _ rfl 42 i0 _ 3 Tryz.underlying24 hi hz0 hz1 .i64 .i64 _ _ l.length rfl rfl rfl rfl (by rw [hz2]; omega) (by unfold maxLen; omega) ?_)
  have hA0 := Has.fresh w 42 (madeCells (Value.cells (.agg #[.int .i64 0, .int .i64 0, .bool false])) (l.length * 3))
  go_loopw [11] (fun i wr => ∃ (k : Nat) (A : Array Value), k ≤ l.length ∧ i = .int .i64 k ∧ Has wr w.heap.size 42 A ∧ Hid (A.size = l.length * 3) ∧ Hid (Laid A (l.map ageR) k) ∧ Hid (∀ j, j < k → okR (rx l j, ra l j, ro l j) = true) ∧ w.grownBy wr none) (fun i _ => l.length - (intOf i).toNat)
  case atStart => exact ⟨0, _, Nat.zero_le _, rfl, hA0, Lib.hid (size_madeCells _ _), Lib.hid (fun j hj => by omega), Lib.hid (fun j hj => by omega), World.grownBy_alloc _ _ _⟩
  case round =>
    clear hA0
    obtain ⟨k, A, hk, rfl, hA, hs, hr, hok, hg⟩ := hrel
    by_cases hlt : k < l.length
    · obtain ⟨x, rfl, hb, cx, cy, cz⟩ := (h.kept hg) k hlt
      have hsz := hA.lt
      have hB := Has.fresh wr 42 #[.int .i64 (rx l k), .int .i64 (ra l k), .bool (ro l k)]
      replace hA := hA.alloc (Obj.cells #[.int .i64 (rx l k), .int .i64 (ra l k), .bool (ro l k)] 42)
      have hg0 := gr_alloc hg (Obj.cells #[.int .i64 (rx l k), .int .i64 (ra l k), .bool (ro l k)] 42)
      by_cases ho : okR (rx l k, ra l k, ro l k) = true
      · go_wp2_with fail
        refine (implReadingOk _ _ _ _).mono ?_
        rintro e w1 ⟨rfl, hg1⟩
        replace hA := hA.grown hg1 (by simp)
        replace hB := hB.grown hg1 (by simp)
        replace hg0 := gr_trans hg0 hg1
        obtain ⟨c0, c1, c2, _, _, _⟩ := three hB
        clear hg1
        go_wp2_with fail
        refine (implAged _ _ _ _).mono ?_
        rintro e w2 ⟨rfl, hg2⟩
        rw [aged_ok ho]
        have HO := Lib.hid ho
        clear ho
        replace hA := hA.grown hg2 (by simp)
        replace hg0 := gr_trans hg0 hg2
        obtain ⟨v0, e0⟩ : ∃ v, A[k * 3]? = some v := ⟨_, Array.getElem?_eq_getElem (by have := hs.out; omega)⟩
        obtain ⟨v1, e1⟩ : ∃ v, A[k * 3 + 1]? = some v := ⟨_, Array.getElem?_eq_getElem (by have := hs.out; omega)⟩
        obtain ⟨v2, e2⟩ : ∃ v, A[k * 3 + 2]? = some v := ⟨_, Array.getElem?_eq_getElem (by have := hs.out; omega)⟩
        have d0 := (hA.cell (k * 3)).trans e0
        have d1 := (hA.cell (k * 3 + 1)).trans e1
        have d2 := (hA.cell (k * 3 + 2)).trans e2
        have g0 := hA.frozen (k * 3)
        have g1 := hA.frozen (k * 3 + 1)
        have g2 := hA.frozen (k * 3 + 2)
        clear e0 e1 e2 c0 c1 c2 hB hg2 cx cy cz
        go_wp2_with fail
        go_roundw
        case rel => exact ⟨k + 1, _, by omega, by go_num, ((hA.set _ _).set _ _).set _ _, Lib.hid (by simpa using hs.out), Lib.hid (hr.out.next (r := (rx l k, min 1000 (ra l k + 1), ro l k)) (Nat.le_of_eq hs.out.symm) hlt (map_age hlt)), Lib.hid (fun j hj => by
          by_cases e : j = k
          · subst e; exact HO.out
          · exact hok.out j (by omega)), gr_new (gr_new (gr_new hg0 (Nat.le_refl _) _ _) (Nat.le_refl _) _ _) (Nat.le_refl _) _ _⟩
        case measure => simp [intOf]; omega
      · have ho' : okR (rx l k, ra l k, ro l k) = false := Bool.eq_false_iff.2 ho
        clear ho
        have HA := Lib.hid (agedAll_no (all_no hlt ho'))
        go_wp2_with fail
        refine (implReadingOk _ _ _ _).mono ?_
        rintro e w1 ⟨rfl, hg1⟩
        go_wp2_with fail
        go_ret
        rw [HA.out]
        exact ⟨none, 0, rfl, gr_trans hg0 hg1, Or.inl ⟨rfl, rfl⟩, fun x e => by cases e⟩
    · obtain rfl : k = l.length := by omega
      have HA := Lib.hid (agedAll_ok (all_yes hok.out))
      go_wp2_with fail
      go_ret
      rw [HA.out]
      exact ⟨_, l.length, by rw [List.length_map]; rfl, hg, Or.inr ⟨_, A, rfl, hA, fun j hj => hr.out j (by simpa using hj)⟩, fun x e => by injection e with e; subst e; exact Nat.le_refl _⟩

end Go.Proofs.YtdikhdfpcipdbaaGreatDoor.rd
