/- The model's texts of numbers: l1Int, l1Ints. -/
import Derived.Test.YtdikhdfpcipdbaaGreatDoorFrArg
import Derived.Laws.BytesString
import Derived.Laws.IdiomStrings
namespace Go.Proofs.YtdikhdfpcipdbaaGreatDoor.frm
open Go.ChangeShapes Go.WideShapes Go.ChangeAt Go.RowKit
open Go.Proofs.YtdikhdfpcipdbaaGreatDoor.nums Go.Proofs.YtdikhdfpcipdbaaGreatDoor.mem Go.Proofs.YtdikhdfpcipdbaaGreatDoor.txt Go.Proofs.YtdikhdfpcipdbaaGreatDoor.fix
open Go.Proofs.YtdikhdfpcipdbaaGreatDoor.tab (Ret quiet_w wpList_make_has)
set_option linter.unusedVariables false

def strOf : Value → List UInt8
  | .string b => b.data.toList
  | _ => []
def dig (v : Nat) : UInt8 := UInt8.ofNat (48 + v % 10)
/-- Of u's digits those of v are still to come; s stands already. -/
def Left (u v : Nat) (s : List UInt8) : Prop := (s = [] ∨ v ≠ 0 → Lib.decDigits u = Lib.decDigits v ++ s) ∧ (s ≠ [] → v = 0 → Lib.decDigits u = s)
theorem Left.start (u : Nat) : Left u u [] := ⟨fun _ => by simp, fun h => absurd rfl h⟩
theorem Left.step {u v : Nat} {s : List UInt8} (h : Left u v s) (hv : s = [] ∨ v ≠ 0) : Left u (v / 10) (dig v :: s) := by
  have e := h.1 hv
  by_cases h10 : v < 10
  · rw [dec_small h10] at e
    have hz : v / 10 = 0 := by omega
    have hm : v % 10 = v := by omega
    refine ⟨fun h => ?_, fun _ _ => ?_⟩
    · rcases h with h | h
      · simp at h
      · exact absurd hz h
    · rw [e, dig, hm]; rfl
  · rw [dec_big h10] at e
    refine ⟨fun _ => by rw [e]; simp [dig], fun _ h => ?_⟩
    omega
theorem Left.len {u v : Nat} {s : List UInt8} (h : Left u v s) (hu : u < 1000000000) : s.length ≤ 9 := by
  have hl := dec_len 8 u (by simpa using hu)
  by_cases h1 : s = []
  · rw [h1]; simp
  · by_cases h2 : v = 0
    · rw [h.2 h1 h2] at hl; exact hl
    · rw [h.1 (Or.inr h2)] at hl; simp at hl; omega

/-- One byte as a text. -/
theorem conv_byte (w : World) (v : Nat) (src dst e : TypeId) (hs : Tryz.prog.underlying src = some (.slice e)) (he : Tryz.prog.underlying e = some (.int .u8)) (hd : Tryz.prog.underlying dst = some .string) :
    (convert src dst (.slice (some ⟨w.heap.size, 0, none⟩) 1 1)).run Tryz.prog (w.alloc (.cells #[.int .u8 (48 + (v : Int) % 10)] e)) = .ok (str [dig v]) (w.alloc (.cells #[.int .u8 (48 + (v : Int) % 10)] e)) := by
  refine run_convert_bytes_back (P := Tryz.prog) _ src dst e ⟨w.heap.size, 0, none⟩ 1 [dig v] hs he hd (fun j hj => ?_)
  have hj0 : j = 0 := by simpa using hj
  subst hj0
  have hc := (Has.fresh w e #[.int .u8 (48 + (v : Int) % 10)]).cell 0
  rw [add0, hc]
  simp only [List.getElem_cons_zero]
  rw [dig, digit_nat _ (Nat.mod_lt _ (by decide))]
  simp
theorem str_cons (c : UInt8) (t : List UInt8) : (ByteArray.mk [c].toArray ++ ByteArray.mk t.toArray) = ByteArray.mk (c :: t).toArray := by rw [ByteArray.mk_append_mk]; rfl
theorem lt_step {v : Nat} (t : List UInt8) (c : UInt8) (h : t = [] ∨ v ≠ 0) :
    (v / 10) + (if (strOf (.string (ByteArray.mk #[c] ++ ByteArray.mk t.toArray))).length = 0 then 1 else 0) < v + (if (strOf (str t)).length = 0 then 1 else 0) := by
  have e : (ByteArray.mk #[c] ++ ByteArray.mk t.toArray) = ByteArray.mk (c :: t).toArray := str_cons c t
  have e1 : (strOf (.string (ByteArray.mk #[c] ++ ByteArray.mk t.toArray))).length = t.length + 1 := by rw [e]; simp [strOf]
  have e2 : (strOf (str t)).length = t.length := by simp [strOf]
  rw [e1, e2, if_neg (by omega)]
  rcases h with h | h
  · subst h; simp; omega
  · have : v / 10 < v := Nat.div_lt_self (by omega) (by omega)
    omega

set_option maxRecDepth 100000 in
set_option maxHeartbeats 1000000 in
theorem specIntPos (u : Nat) (w : World) (hu : u < 1000000000) : Calls Tryz.prog 181 #[.int .i64 u] w (Ret (str (Lib.decDigits u)) w) := by
  have hd : decide ((u : Int) < 0) = false := by simp
  go_enter Tryz.func181, Tryz.ntmps181
  go_wp2_with fail
  go_loopw [0, 3] (fun n s wr => ∃ (v : Nat) (t : List UInt8), n = .int .i64 v ∧ s = str t ∧ v ≤ u ∧ Hid (Left u v t) ∧ w.grownBy wr none) (fun n s _ => (intOf n).toNat + (if (strOf s).length = 0 then 1 else 0))
  case atStart => exact ⟨u, [], rfl, rfl, Nat.le_refl _, Lib.hid (Left.start u), gr_refl _ _⟩
  case round =>
    obtain ⟨v, t, rfl, rfl, hv, hL, hg⟩ := hrel
    have hlen := hL.out.len hu
    have hm : decide ((v : Int) % 10 < 0) = false := by simp; omega
    by_cases hs : t = [] ∨ v ≠ 0
    · have ht : (t == ([] : List UInt8)) = true ∨ ((t == ([] : List UInt8)) = false ∧ ((v : Int) == 0) = false) := by
        rcases hs with h | h
        · left; simp [h]
        · by_cases h2 : t = []
          · left; simp [h2]
          · right; exact ⟨by simpa using h2, by simpa using h⟩
      rcases ht with ht | ⟨ht, hv0⟩
      all_goals go_wp2_with fail
      all_goals rw [conv_byte wr v _ _ _ Tryz.underlying22 Tryz.underlying5 Tryz.underlying9]
      all_goals go_wp2_with fail
      all_goals go_roundw
      case rel => exact ⟨v / 10, dig v :: t, by go_num, congrArg Value.string (str_cons (dig v) t), by omega, Lib.hid (hL.out.step hs), gr_alloc hg _⟩
      case measure => simp only [intOf]; have := lt_step (v := v) t (dig v) hs; rw [show ((v : Int) / 10).toNat = v / 10 by omega]; simpa using this
      case rel => exact ⟨v / 10, dig v :: t, by go_num, congrArg Value.string (str_cons (dig v) t), by omega, Lib.hid (hL.out.step hs), gr_alloc hg _⟩
      case measure => simp only [intOf]; have := lt_step (v := v) t (dig v) hs; rw [show ((v : Int) / 10).toNat = v / 10 by omega]; simpa using this
    · have ht : (t == ([] : List UInt8)) = false := by
        have : t ≠ [] := fun h => hs (Or.inl h)
        simpa using this
      have hv0 : v = 0 := Decidable.byContradiction fun h => hs (Or.inr h)
      subst hv0
      go_wp2_with fail
      go_ret
      rw [hL.out.2 (fun h => hs (Or.inl h)) rfl]
      exact ⟨rfl, hg⟩

set_option maxRecDepth 100000 in
set_option maxHeartbeats 1000000 in
theorem specIntNeg (u : Nat) (w : World) (h0 : 0 < u) (hu : u < 1000000000) : Calls Tryz.prog 181 #[.int .i64 (-(u : Int))] w (Ret (str (45 :: Lib.decDigits u)) w) := by
  have hd : decide (-(u : Int) < 0) = true := by simp; omega
  go_enter Tryz.func181, Tryz.ntmps181
  go_wp2_with fail
  go_loopw [0, 3] (fun n s wr => ∃ (v : Nat) (t : List UInt8), n = .int .i64 (-(v : Int)) ∧ s = str t ∧ v ≤ u ∧ Hid (Left u v t) ∧ w.grownBy wr none) (fun n s _ => (-(intOf n)).toNat + (if (strOf s).length = 0 then 1 else 0))
  case atStart => exact ⟨u, [], rfl, rfl, Nat.le_refl _, Lib.hid (Left.start u), gr_refl _ _⟩
  case round =>
    obtain ⟨v, t, rfl, rfl, hv, hL, hg⟩ := hrel
    have hlen := hL.out.len hu
    have e1 : (-(v : Int)).tmod 10 = -((v : Int) % 10) := by rw [Int.neg_tmod, Int.tmod_eq_emod_of_nonneg (by omega)]
    have e2 : (-(v : Int)).tdiv 10 = -((v : Int) / 10) := by rw [Int.neg_tdiv, Int.tdiv_eq_ediv_of_nonneg (by omega)]
    by_cases hs : t = [] ∨ v ≠ 0
    · have ht : (t == ([] : List UInt8)) = true ∨ ((t == ([] : List UInt8)) = false ∧ (-(v : Int) == 0) = false) := by
        rcases hs with h | h
        · left; simp [h]
        · by_cases h2 : t = []
          · left; simp [h2]
          · right; exact ⟨by simpa using h2, by simp; omega⟩
      rcases ht with ht | ⟨ht, hv0⟩
      all_goals go_wp2_with fail
      all_goals first | rw [conv_byte wr v _ _ _ Tryz.underlying22 Tryz.underlying5 Tryz.underlying9] | rw [show (48 + -((v : Int) % 10)) = 48 + (v : Int) % 10 by omega, conv_byte wr v _ _ _ Tryz.underlying22 Tryz.underlying5 Tryz.underlying9]
      all_goals go_wp2_with fail
      all_goals go_roundw
      all_goals first
        | exact ⟨v / 10, dig v :: t, by go_num, congrArg Value.string (str_cons (dig v) t), by omega, Lib.hid (hL.out.step hs), gr_alloc hg _⟩
        | (simp only [intOf]; have := lt_step (v := v) t (dig v) hs; rw [show (-(-((v : Int) / 10))).toNat = v / 10 by omega, show (-(-(v : Int))).toNat = v by omega]; simpa using this)
    · have ht : (t == ([] : List UInt8)) = false := by
        have : t ≠ [] := fun h => hs (Or.inl h)
        simpa using this
      have hv0 : v = 0 := Decidable.byContradiction fun h => hs (Or.inr h)
      subst hv0
      go_wp2_with fail
      go_ret
      rw [hL.out.2 (fun h => hs (Or.inl h)) rfl]
      exact ⟨congrArg (fun b => Ending.returned (Value.string b)) (str_cons 45 t), hg⟩

theorem specInt (n : Int) (w : World) (h1 : -1000000000 < n) (h2 : n < 1000000000) : Calls Tryz.prog 181 #[.int .i64 n] w (Ret (str (Lib.itoa n)) w) := by
  unfold Lib.itoa
  by_cases h : n < 0
  · rw [if_pos h]
    have := specIntNeg n.natAbs w (by omega) (by omega)
    rwa [show -((n.natAbs : Nat) : Int) = n by omega] at this
  · rw [if_neg h]
    have := specIntPos n.toNat w (by omega)
    rwa [show ((n.toNat : Nat) : Int) = n by omega] at this

/-- The numbers with blanks between. -/
def words : List Int → List UInt8
  | [] => []
  | n :: ns => Lib.itoa n ++ blanks ns
theorem words_snoc (l : List Int) (v : Int) : words (l ++ [v]) = if l.length = 0 then Lib.itoa v else words l ++ 32 :: Lib.itoa v := by
  cases l with
  | nil => simp [words, blanks]
  | cons n ns => simp [words, blanks]
theorem itoa_len (n : Int) (h1 : -1000000000 < n) (h2 : n < 1000000000) : (Lib.itoa n).length ≤ 10 := by
  unfold Lib.itoa
  split
  · have := dec_len 8 n.natAbs (by simp; omega)
    simp; omega
  · have := dec_len 8 n.toNat (by simp; omega)
    omega
theorem blanks_len (l : List Int) (h : ∀ n ∈ l, -1000000000 < n ∧ n < 1000000000) : (blanks l).length ≤ 11 * l.length := by
  induction l with
  | nil => simp [blanks]
  | cons n ns ih =>
    rw [blanks_cons]
    have h1 := ih (fun x hx => h x (by simp [hx]))
    have h2 := itoa_len n (h n (by simp)).1 (h n (by simp)).2
    simp; omega
theorem words_len (l : List Int) (h : ∀ n ∈ l, -1000000000 < n ∧ n < 1000000000) : (words l).length ≤ 11 * l.length := by
  cases l with
  | nil => simp [words]
  | cons n ns =>
    have h1 := blanks_len ns (fun x hx => h x (by simp [hx]))
    have h2 := itoa_len n (h n (by simp)).1 (h n (by simp)).2
    simp [words]; omega
theorem words_take (l : List Int) (k : Nat) (h : k < l.length) : words (l.take (k + 1)) = if k = 0 then Lib.itoa (nth l k) else words (l.take k) ++ 32 :: Lib.itoa (nth l k) := by
  rw [nth_take h, words_snoc]
  have : (l.take k).length = k := by simp; omega
  rw [this]
theorem str_app (s t : List UInt8) : (ByteArray.mk s.toArray ++ ByteArray.mk t.toArray) = ByteArray.mk (s ++ t).toArray := ByteArray.mk_append_mk s t

set_option maxRecDepth 100000 in
set_option maxHeartbeats 1000000 in
theorem specInts (a : Option Addr) (cap : Nat) (l : List Int) (w : World) (h : Ints w a l) (hl : l.length ≤ 100) (hb : ∀ n ∈ l, -1000000000 < n ∧ n < 1000000000) :
    Calls Tryz.prog 182 #[.slice a l.length cap] w (Ret (str (words l)) w) := by
  go_enter Tryz.func182, Tryz.ntmps182
  go_wp2_with fail
  go_loopw [3, 4] (fun s i wr => ∃ k : Nat, k ≤ l.length ∧ i = .int .i64 k ∧ s = str (words (l.take k)) ∧ w.grownBy wr none) (fun s i _ => l.length - (intOf i).toNat)
  case atStart => exact ⟨0, Nat.zero_le _, rfl, rfl, gr_refl _ _⟩
  case round =>
    obtain ⟨k, hk, rfl, rfl, hg⟩ := hrel
    have hlen := words_len (l.take k) (fun n hn => hb n (List.mem_of_mem_take hn))
    have htl : (l.take k).length = k := by simp; omega
    rw [htl] at hlen
    clear htl
    by_cases hlt : k < l.length
    · obtain ⟨x, rfl, hbk, cx⟩ := (h.kept hg) k hlt
      have hn := hb _ (nth_mem hlt)
      have hil := itoa_len _ hn.1 hn.2
      have hw := words_take l k hlt
      have hc := fun W => specInt (nth l k) W hn.1 hn.2
      have HW := Lib.hid hw
      clear hw
      have hS0 : k = 0 → words (l.take k) = [] := fun e => by subst e; rfl
      generalize hS : words (l.take k) = S at *
      clear hS
      by_cases hk0 : k = 0
      · subst hk0
        have ea : x.add 0 = x := by unfold Addr.add; simp
        rw [ea] at cx
        clear ea
        go_wp2_with fail
        refine (hc _).mono ?_
        rintro e w1 ⟨rfl, hg1⟩
        go_wp2_with fail
        go_roundw
        case rel => exact ⟨1, by omega, rfl, by have e := HW.out; simp only [if_true] at e; rw [show (1 : Nat) = 0 + 1 from rfl, e]; exact congrArg Value.string (str_app [] _), gr_trans hg hg1⟩
        case measure => simp [intOf]; omega
      · go_wp2_with fail
        refine (hc _).mono ?_
        rintro e w1 ⟨rfl, hg1⟩
        go_wp2_with fail
        go_roundw
        case rel => exact ⟨k + 1, by omega, by go_num, by rw [HW.out, if_neg hk0]; exact congrArg Value.string (by rw [str_app S [32], str_app]; simp), gr_trans hg hg1⟩
        case measure => simp [intOf]; omega
    · obtain rfl : k = l.length := by omega
      go_wp2_with fail
      go_ret
      rw [List.take_length]
      exact ⟨rfl, hg⟩
end Go.Proofs.YtdikhdfpcipdbaaGreatDoor.frm
