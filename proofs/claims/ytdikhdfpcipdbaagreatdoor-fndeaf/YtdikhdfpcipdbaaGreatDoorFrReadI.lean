/- The model's l1Read. -/
import Derived.Test.YtdikhdfpcipdbaaGreatDoorFrSplit
namespace Go.Proofs.YtdikhdfpcipdbaaGreatDoor.frm
open Go.ChangeShapes Go.WideShapes Go.ChangeAt Go.RowKit
open Go.Proofs.YtdikhdfpcipdbaaGreatDoor.nums Go.Proofs.YtdikhdfpcipdbaaGreatDoor.mem Go.Proofs.YtdikhdfpcipdbaaGreatDoor.txt Go.Proofs.YtdikhdfpcipdbaaGreatDoor.fix
open Go.Proofs.YtdikhdfpcipdbaaGreatDoor.tab (Ret quiet_w wpList_make_has)
set_option linter.unusedVariables false

def readA (m : List UInt8) : Option Nat := if m.length < 1 ∨ 9 < m.length ∨ m.all isD = false then none else some (val m)
/-- The number that a word tells. -/
def readI (l : List UInt8) : Option Int :=
  if byt l 0 = 45 then (match readA (l.drop 1) with | none => none | some v => if byt (l.drop 1) 0 = 48 then none else some (-(v : Int)))
  else (match readA l with | none => none | some v => if byt l 0 = 48 ∧ 1 < l.length then none else some (v : Int))
def readV : Option Int → Value
  | some n => .tuple #[.int .i64 n, .bool true]
  | none => .tuple #[.int .i64 0, .bool false]

theorem readA_dec (u : Nat) (h : u < 1000000000) : readA (Lib.decDigits u) = some u := by
  have h1 := dec_len 8 u (by simpa using h)
  have h2 : (Lib.decDigits u).length ≠ 0 := fun e => dec_ne u (List.length_eq_zero_iff.1 e)
  rw [readA, if_neg, dec_val]
  rintro (h | h | h)
  · omega
  · omega
  · rw [List.all_eq_false] at h
    obtain ⟨c, hc, hcd⟩ := h
    exact hcd (dec_isD u c hc)
theorem readI_itoa (n : Int) (h1 : -1000000000 < n) (h2 : n < 1000000000) : readI (Lib.itoa n) = some n := by
  unfold Lib.itoa
  split
  · have e : byt (45 :: Lib.decDigits n.natAbs) 0 = 45 := rfl
    have e2 : (45 :: Lib.decDigits n.natAbs).drop 1 = Lib.decDigits n.natAbs := rfl
    rw [readI, if_pos e, e2, readA_dec _ (by omega)]
    obtain ⟨c, r, hc, hd⟩ := dec_head n.natAbs
    have h48 : byt (Lib.decDigits n.natAbs) 0 ≠ 48 := fun h => by
      have := dec_zero n.natAbs (by rw [hc] at h ⊢; simpa [byt] using h)
      omega
    dsimp only
    rw [if_neg h48]
    congr 1; omega
  · obtain ⟨c, r, hc, hd⟩ := dec_head n.toNat
    have e : byt (Lib.decDigits n.toNat) 0 ≠ 45 := fun h => by
      rw [hc] at h
      have : c = 45 := by simpa [byt] using h
      rw [this] at hd; simp [isD] at hd
    rw [readI, if_neg e, readA_dec _ (by omega)]
    dsimp only
    rw [if_neg]
    · congr 1; omega
    · rintro ⟨h48, h1⟩
      have hz := dec_zero n.toNat (by rw [hc] at h48 ⊢; simpa [byt] using h48)
      rw [hz, dec_small (by omega)] at h1
      simp at h1

set_option maxRecDepth 100000 in
set_option maxHeartbeats 4000000 in
theorem specReadI (l : List UInt8) (w : World) (hl : l.length ≤ maxLen) : Calls Tryz.prog 186 #[str l] w fun e w' => e = .returned (readV (readI l)) ∧ w = w' := by
  have hm : l.length ≤ 9223372036854775807 := by unfold maxLen at hl; exact hl
  clear hl
  have hat := at_byt l
  by_cases h45 : byt l 0 = 45
  · have hB0 : ((byt l 0).toNat : Int) = 45 := by rw [h45]; rfl
    have hl0 : 0 < l.length := Nat.pos_of_ne_zero (fun e => by rw [byt_ge l 0 (by omega)] at h45; exact absurd h45 (by decide))
    have hz : (l == ([] : List UInt8)) = false := by rw [beq_eq_false_iff_ne]; intro e; rw [e] at hl0; simp at hl0
    have hRI : readI l = (match readA (l.drop 1) with | none => none | some v => if byt (l.drop 1) 0 = 48 then none else some (-(v : Int))) := by rw [readI, if_pos h45]
    by_cases hbad : (l.drop 1).length < 1 ∨ 9 < (l.drop 1).length
    · have hF := Lib.hid (show readI l = none by rw [hRI, readA, if_pos (by rcases hbad with h | h; exact Or.inl h; exact Or.inr (Or.inl h))])
      have hbd : l.length - 1 < 1 ∨ 9 < l.length - 1 := by simpa using hbad
      clear hRI hbad h45
      rcases hbd with h | h
      · have e1 : decide ((l.length : Int) - 1 < 1) = true := by simp; omega
        go_enter Tryz.func186, Tryz.ntmps186
        go_wp2_with fail
        exact bodyPost_ret (v := readV (readI l)) (by rw [hF.out]; simp [results, Tryz.results186, go_sem, readV]) rfl ⟨rfl, rfl⟩
      · have e1 : decide ((l.length : Int) - 1 < 1) = false := by simp; omega
        have e2 : decide (9 < (l.length : Int) - 1) = true := by simp; omega
        go_enter Tryz.func186, Tryz.ntmps186
        go_wp2_with fail
        exact bodyPost_ret (v := readV (readI l)) (by rw [hF.out]; simp [results, Tryz.results186, go_sem, readV]) rfl ⟨rfl, rfl⟩
    · have hgood : 1 ≤ l.length - 1 ∧ l.length - 1 ≤ 9 := by have := hbad; simp at this; omega
      have e1 : decide ((l.length : Int) - 1 < 1) = false := by simp; omega
      have e2 : decide (9 < (l.length : Int) - 1) = false := by simp; omega
      go_enter Tryz.func186, Tryz.ntmps186
      go_wp2_with fail
      go_loopw [6, 7] (fun n i wr => w = wr ∧ ∃ k : Nat, k ≤ l.length - 1 ∧ i = .int .i64 ((k : Int) + 1) ∧ n = .int .i64 (val ((l.drop 1).take k) : Int) ∧ Hid (∀ j, j < k → isD (byt (l.drop 1) j) = true)) (fun n i _ => l.length - (intOf i).toNat)
      case atStart => exact ⟨rfl, 0, Nat.zero_le _, rfl, rfl, Lib.hid (fun j hj => by omega)⟩
      case round =>
        obtain ⟨rfl, k, hk, rfl, rfl, hD⟩ := hrel
        have hvb := val_bd (l.drop 1) k hD.out (by omega)
        by_cases hlt : k < l.length - 1
        · have hbt := UInt8.toNat_lt (byt l (k + 1))
          have eidx : byt (l.drop 1) k = byt l (k + 1) := by rw [byt_drop, Nat.add_comm]
          cases hd : isD (byt l (k + 1))
          · have hF := Lib.hid (show readI l = none by
              rw [hRI, readA, if_pos (Or.inr (Or.inr (List.all_eq_false.2 ⟨byt (l.drop 1) k, ?_, by rw [eidx, hd]; simp⟩)))]
              rw [byt, List.getD, List.getElem?_eq_getElem (by simp; omega)]
              exact List.getElem_mem _)
            have hx : (byt l (k + 1)).toNat < 48 ∨ 57 < (byt l (k + 1)).toNat := by
              have : ¬ (48 ≤ (byt l (k + 1)).toNat ∧ (byt l (k + 1)).toNat ≤ 57) := fun h => by rw [(isD_iff _).2 h] at hd; cases hd
              omega
            clear hD hRI hd eidx
            rcases hx with hx | hx
            · have t1 : decide (((byt l (k + 1)).toNat : Int) < 48) = true := by simp; omega
              go_wp2_with fail
              exact bodyPost_ret (v := readV (readI l)) (by rw [hF.out]; simp [results, Tryz.results186, go_sem, readV]) rfl ⟨rfl, rfl⟩
            · have t1 : decide (((byt l (k + 1)).toNat : Int) < 48) = false := by simp; omega
              have t2 : decide (57 < ((byt l (k + 1)).toNat : Int)) = true := by simp; omega
              go_wp2_with fail
              exact bodyPost_ret (v := readV (readI l)) (by rw [hF.out]; simp [results, Tryz.results186, go_sem, readV]) rfl ⟨rfl, rfl⟩
          · have hx := (isD_iff _).1 hd
            have t1 : decide (((byt l (k + 1)).toNat : Int) < 48) = false := by simp; omega
            have t2 : decide (57 < ((byt l (k + 1)).toNat : Int)) = false := by simp; omega
            have hV := val_take (l.drop 1) k (by simp; omega)
            rw [eidx] at hV
            have hD2 : Hid (∀ j, j < k + 1 → isD (byt (l.drop 1) j) = true) := Lib.hid (fun j hj => by
              by_cases e : j = k
              · subst e; rw [eidx]; exact hd
              · exact hD.out j (by omega))
            have HV := Lib.hid hV
            clear hV hD hd eidx
            generalize val ((l.drop 1).take k) = V at *
            go_wp2_with fail
            go_roundw
            case rel => exact ⟨trivial, k + 1, by omega, by go_num, by rw [HV.out]; go_num, hD2⟩
            case measure => simp [intOf]; omega
        · have hkE : k = l.length - 1 := by omega
          have hlen : (l.drop 1).length = k := by simp; omega
          have hA : readA (l.drop 1) = some (val ((l.drop 1).take k)) := by
            rw [readA, if_neg, List.take_of_length_le (by omega)]
            rintro (h | h | h)
            · omega
            · omega
            · rw [List.all_eq_false] at h
              obtain ⟨c, hc, hcd⟩ := h
              obtain ⟨j, hj, rfl⟩ := List.getElem_of_mem hc
              have := hD.out j (by omega)
              rw [byt, List.getD, List.getElem?_eq_getElem hj] at this
              exact hcd this
          have hend : decide ((k : Int) + 1 < l.length) = false := by simp; omega
          rw [hA] at hRI
          dsimp only at hRI
          clear hA hD hlen
          generalize val ((l.drop 1).take k) = V at *
          by_cases h48 : byt l 1 = 48
          · have hF := Lib.hid (show readI l = none by rw [hRI, if_pos (by rw [byt_drop]; exact h48)])
            have hx : ((byt l 1).toNat : Int) = 48 := by rw [h48]; rfl
            clear hRI h48 h45
            go_wp2_with fail
            exact bodyPost_ret (v := readV (readI l)) (by rw [hF.out]; simp [results, Tryz.results186, go_sem, readV]) rfl ⟨rfl, rfl⟩
          · have hF := Lib.hid (show readI l = some (-(V : Int)) by rw [hRI, if_neg (by rw [byt_drop]; exact h48)])
            have hx : (((byt l 1).toNat : Int) == 48) = false := by
              rw [beq_eq_false_iff_ne]
              intro e
              exact h48 (UInt8.toNat.inj (by have : (48 : UInt8).toNat = 48 := rfl; omega))
            clear hRI h48 h45
            go_wp2_with fail
            exact bodyPost_ret (v := readV (readI l)) (by rw [hF.out]; simp [results, Tryz.results186, go_sem, readV]) rfl ⟨rfl, rfl⟩
  · have hB0 : (((byt l 0).toNat : Int) == 45) = false := by
      rw [beq_eq_false_iff_ne]
      intro e
      exact h45 (UInt8.toNat.inj (by have : (45 : UInt8).toNat = 45 := rfl; omega))
    have hRI : readI l = (match readA (l) with | none => none | some v => if byt l 0 = 48 ∧ 1 < l.length then none else some (v : Int)) := by rw [readI, if_neg h45]
    by_cases hbad : (l).length < 1 ∨ 9 < (l).length
    · have hF := Lib.hid (show readI l = none by rw [hRI, readA, if_pos (by rcases hbad with h | h; exact Or.inl h; exact Or.inr (Or.inl h))])
      have hbd : l.length < 1 ∨ 9 < l.length := by simpa using hbad
      clear hRI hbad h45
      rcases hbd with h | h
      · obtain rfl : l = [] := List.length_eq_zero_iff.1 (by omega)
        clear hat
        go_enter Tryz.func186, Tryz.ntmps186
        go_wp2_with fail
        exact bodyPost_ret (v := readV (readI [])) (by rw [hF.out]; simp [results, Tryz.results186, go_sem, readV]) rfl ⟨rfl, rfl⟩
      · have e1 : decide ((l.length : Int) < 1) = false := by simp; omega
        have e2 : decide (9 < (l.length : Int)) = true := by simp; omega
        have hz : (l == ([] : List UInt8)) = false := by rw [beq_eq_false_iff_ne]; intro e; rw [e] at h; simp at h
        have hl0 : 0 < l.length := by omega
        go_enter Tryz.func186, Tryz.ntmps186
        go_wp2_with fail
        exact bodyPost_ret (v := readV (readI l)) (by rw [hF.out]; simp [results, Tryz.results186, go_sem, readV]) rfl ⟨rfl, rfl⟩
    · have hgood : 1 ≤ l.length ∧ l.length ≤ 9 := by have := hbad; simp at this; omega
      have e1 : decide ((l.length : Int) < 1) = false := by simp; omega
      have e2 : decide (9 < (l.length : Int)) = false := by simp; omega
      have hl0 : 0 < l.length := by omega
      have hz : (l == ([] : List UInt8)) = false := by rw [beq_eq_false_iff_ne]; intro e; rw [e] at hl0; simp at hl0
      go_enter Tryz.func186, Tryz.ntmps186
      go_wp2_with fail
      go_loopw [6, 7] (fun n i wr => w = wr ∧ ∃ k : Nat, k ≤ l.length ∧ i = .int .i64 ((k : Int) + 0) ∧ n = .int .i64 (val ((l).take k) : Int) ∧ Hid (∀ j, j < k → isD (byt (l) j) = true)) (fun n i _ => l.length - (intOf i).toNat)
      case atStart => exact ⟨rfl, 0, Nat.zero_le _, rfl, rfl, Lib.hid (fun j hj => by omega)⟩
      case round =>
        obtain ⟨rfl, k, hk, rfl, rfl, hD⟩ := hrel
        have hvb := val_bd (l) k hD.out (by omega)
        by_cases hlt : k < l.length
        · have hbt := UInt8.toNat_lt (byt l (k))
          have eidx : byt (l) k = byt l (k) := rfl
          cases hd : isD (byt l (k))
          · have hF := Lib.hid (show readI l = none by
              rw [hRI, readA, if_pos (Or.inr (Or.inr (List.all_eq_false.2 ⟨byt (l) k, ?_, by rw [eidx, hd]; simp⟩)))]
              rw [byt, List.getD, List.getElem?_eq_getElem (by omega)]
              exact List.getElem_mem _)
            have hx : (byt l (k)).toNat < 48 ∨ 57 < (byt l (k)).toNat := by
              have : ¬ (48 ≤ (byt l (k)).toNat ∧ (byt l (k)).toNat ≤ 57) := fun h => by rw [(isD_iff _).2 h] at hd; cases hd
              omega
            clear hD hRI hd eidx
            rcases hx with hx | hx
            · have t1 : decide (((byt l (k)).toNat : Int) < 48) = true := by simp; omega
              go_wp2_with fail
              exact bodyPost_ret (v := readV (readI l)) (by rw [hF.out]; simp [results, Tryz.results186, go_sem, readV]) rfl ⟨rfl, rfl⟩
            · have t1 : decide (((byt l (k)).toNat : Int) < 48) = false := by simp; omega
              have t2 : decide (57 < ((byt l (k)).toNat : Int)) = true := by simp; omega
              go_wp2_with fail
              exact bodyPost_ret (v := readV (readI l)) (by rw [hF.out]; simp [results, Tryz.results186, go_sem, readV]) rfl ⟨rfl, rfl⟩
          · have hx := (isD_iff _).1 hd
            have t1 : decide (((byt l (k)).toNat : Int) < 48) = false := by simp; omega
            have t2 : decide (57 < ((byt l (k)).toNat : Int)) = false := by simp; omega
            have hV := val_take (l) k (by omega)
            rw [eidx] at hV
            have hD2 : Hid (∀ j, j < k + 1 → isD (byt (l) j) = true) := Lib.hid (fun j hj => by
              by_cases e : j = k
              · subst e; rw [eidx]; exact hd
              · exact hD.out j (by omega))
            have HV := Lib.hid hV
            clear hV hD hd eidx
            generalize val ((l).take k) = V at *
            go_wp2_with fail
            go_roundw
            case rel => exact ⟨trivial, k + 1, by omega, by go_num, by rw [HV.out]; go_num, hD2⟩
            case measure => simp [intOf]; omega
        · have hkE : k = l.length := by omega
          have hlen : (l).length = k := by omega
          have hA : readA (l) = some (val ((l).take k)) := by
            rw [readA, if_neg, List.take_of_length_le (by omega)]
            rintro (h | h | h)
            · omega
            · omega
            · rw [List.all_eq_false] at h
              obtain ⟨c, hc, hcd⟩ := h
              obtain ⟨j, hj, rfl⟩ := List.getElem_of_mem hc
              have := hD.out j (by omega)
              rw [byt, List.getD, List.getElem?_eq_getElem hj] at this
              exact hcd this
          have hend : decide ((k : Int) + 0 < l.length) = false := by simp; omega
          rw [hA] at hRI
          dsimp only at hRI
          clear hA hD hlen
          generalize val ((l).take k) = V at *
          by_cases h48 : byt l 0 = 48
          · have hx : ((byt l 0).toNat : Int) = 48 := by rw [h48]; rfl
            clear hB0
            by_cases h1 : 1 < l.length
            · have hF := Lib.hid (show readI l = none by rw [hRI, if_pos ⟨h48, h1⟩])
              have h1' : decide (1 < (l.length : Int)) = true := by simp; omega
              clear hRI h48 h45
              go_wp2_with fail
              exact bodyPost_ret (v := readV (readI l)) (by rw [hF.out]; simp [results, Tryz.results186, go_sem, readV]) rfl ⟨rfl, rfl⟩
            · have hF := Lib.hid (show readI l = some (V : Int) by rw [hRI, if_neg (fun h => h1 h.2)])
              have h1' : decide (1 < (l.length : Int)) = false := by simp; omega
              clear hRI h48 h45
              go_wp2_with fail
              exact bodyPost_ret (v := readV (readI l)) (by rw [hF.out]; simp [results, Tryz.results186, go_sem, readV]) rfl ⟨rfl, rfl⟩
          · have hF := Lib.hid (show readI l = some (V : Int) by rw [hRI, if_neg (fun h => h48 h.1)])
            have hx : (((byt l 0).toNat : Int) == 48) = false := by
              rw [beq_eq_false_iff_ne]
              intro e
              exact h48 (UInt8.toNat.inj (by have : (48 : UInt8).toNat = 48 := rfl; omega))
            clear hRI h48 h45
            go_wp2_with fail
            exact bodyPost_ret (v := readV (readI l)) (by rw [hF.out]; simp [results, Tryz.results186, go_sem, readV]) rfl ⟨rfl, rfl⟩
end Go.Proofs.YtdikhdfpcipdbaaGreatDoor.frm
