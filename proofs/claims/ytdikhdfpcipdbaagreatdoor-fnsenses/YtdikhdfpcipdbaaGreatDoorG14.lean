/- Chapter 10, the small functions: cases, who is across, who stays on; of the program and of the model. Chapter 13 on plain facts: the modes, what is asked, the ways out of each; the small functions of both sides. Senses of one's own beside a box of another type. Chapter 7 on plain numbers; lists of numbers of one's own in memory. -/
import Derived.Test.YtdikhdfpcipdbaaGreatDoorG4
import Derived.Test.YtdikhdfpcipdbaaGreatDoorG1
import Derived.WalkMore
import Derived.Deep.RegionHeldLaw
import Derived.Deep.RegionHeld3
import Derived.Test.YtdikhdfpcipdbaaGreatDoorG13
import Derived.Test.YtdikhdfpcipdbaaGreatDoorG3
/- Chapter 10, the small functions: cases, who is across, who stays on; of the program and of the model. -/
namespace Go.Proofs.YtdikhdfpcipdbaaGreatDoor.cas
open Go.ChangeShapes Go.WideShapes Go.ChangeAt Go.RowKit
open Go.Proofs.YtdikhdfpcipdbaaGreatDoor.nums Go.Proofs.YtdikhdfpcipdbaaGreatDoor.mem
open Go.Proofs.YtdikhdfpcipdbaaGreatDoor.fix (ret_int ret_bool)
open Go.Proofs.YtdikhdfpcipdbaaGreatDoor.il (nth)
set_option linter.unusedVariables false

def across (f : Int) : Int := if 0 ≤ f ∧ f ≤ 5 then (f + 3) % 6 else -1
def caseOk (c : Int) : Bool := inb c 0 7
def staysOn (c f : Int) : Bool := decide (0 ≤ c ∧ c ≤ 6 ∧ 0 ≤ f ∧ f ≤ 5 ∧ (c = 0 ∨ f ≠ c - 1 ∧ f ≠ across (c - 1)))
def caseOf (l : List Int) : Int := if l = [] then 0 else if l.length = 1 ∧ 0 ≤ nth l 0 ∧ nth l 0 ≤ 5 then nth l 0 + 1 else 7
/-- Which of the first k stay on. -/
def staysTo (c : Int) (k : Nat) : List Int := ((List.range k).filter fun j : Nat => staysOn c (j : Int)).map fun j : Nat => (j : Int)
def staysIn (c : Int) : List Int := staysTo c 6

theorem across_yes {f : Int} (h0 : 0 ≤ f) (h1 : f ≤ 5) : across f = (f + 3) % 6 := if_pos ⟨h0, h1⟩
theorem across_no {f : Int} (h : f < 0 ∨ 5 < f) : across f = -1 := if_neg (by omega)
theorem to_yes {c : Int} {k : Nat} (h : staysOn c k = true) : staysTo c (k + 1) = staysTo c k ++ [(k : Int)] := by
  unfold staysTo; rw [List.range_succ, List.filter_append, List.map_append]; simp [h]
theorem to_no {c : Int} {k : Nat} (h : staysOn c k = false) : staysTo c (k + 1) = staysTo c k := by
  unfold staysTo; rw [List.range_succ, List.filter_append, List.map_append]; simp [h]
theorem to_len (c : Int) (k : Nat) : (staysTo c k).length ≤ k := by
  unfold staysTo; rw [List.length_map]; exact Nat.le_trans (List.length_filter_le _ _) (by simp)

theorem implCaseOk (c : Int) (w : World) :
    Calls Tryz.prog 33 #[.int .i64 c] w fun e w' => e = .returned (.bool (caseOk c)) ∧ w = w' := by
  go_enter Tryz.func33, Tryz.ntmps33
  go_wp2
  all_goals go_ret
  all_goals exact ⟨ret_bool (by unfold caseOk inb; simp <;> omega), rfl⟩

theorem specCaseOk (c : Int) (w : World) :
    Calls Tryz.prog 46 #[.int .i64 c] w fun e w' => e = .returned (.bool (caseOk c)) ∧ w = w' := by
  go_enter Tryz.func46, Tryz.ntmps46
  go_wp2_with fail
  refine (fix.specIn c _ _ _).mono ?_
  rintro e w' ⟨rfl, rfl⟩
  go_wp2_with fail
  go_ret
  exact ⟨rfl, rfl⟩

theorem specAcross (f : Int) (w : World) :
    Calls Tryz.prog 195 #[.int .i64 f] w fun e w' => e = .returned (.int .i64 (across f)) ∧ w = w' := by
  go_enter Tryz.func195, Tryz.ntmps195
  go_wp2_with fail
  refine (fix.specIn f _ _ _).mono ?_
  rintro e w' ⟨rfl, rfl⟩
  by_cases h : 0 ≤ f ∧ f ≤ 5
  · rw [show inb f 0 5 = true by unfold inb; simp; omega]
    go_wp2_with fail
    go_ret
    exact ⟨ret_int (by rw [across_yes h.1 h.2]), rfl⟩
  · rw [show inb f 0 5 = false by unfold inb; simp; omega]
    go_wp2_with fail
    go_ret
    exact ⟨ret_int (by rw [across_no (by omega)]), rfl⟩

/-- Of one fan's case: out is that fan, x the one across from it. -/
theorem on_one {c f out x : Int} (h0 : 1 ≤ c) (h1 : c ≤ 6) (ho : out = c - 1) (hx : across out = x) : staysOn c f = (decide (f ≠ out) && (decide (f ≠ x) && inb f 0 5)) := by
  subst ho
  unfold staysOn inb
  rw [hx, Bool.eq_iff_iff]
  simp
  omega
theorem on_none (f : Int) : staysOn 0 f = inb f 0 5 := by unfold staysOn inb; simp
theorem on_no {c f : Int} (h : c < 0 ∨ 6 < c) : staysOn c f = false := by unfold staysOn; simp; omega

set_option maxHeartbeats 1000000 in
theorem specStaysOn (c f : Int) (w : World) :
    Calls Tryz.prog 192 #[.int .i64 c, .int .i64 f] w fun e w' => e = .returned (.bool (staysOn c f)) ∧ w = w' := by
  by_cases h : 0 ≤ c ∧ c ≤ 6
  · have k1 : caseOk c = true := by unfold caseOk inb; simp; omega
    by_cases hf : 0 ≤ f ∧ f ≤ 5
    · have k2 : inb f 0 5 = true := by unfold inb; simp; omega
      have h7 : decide (c = 7) = false := by simp; omega
      by_cases h0 : c = 0
      · subst h0
        rw [on_none, k2]
        go_enter Tryz.func192, Tryz.ntmps192
        go_wp2_with (first | (go_at_call 46; refine (specCaseOk _ _).mono ?_; rw [k1]; rintro e w' ⟨rfl, rfl⟩) | (go_at_call 24; refine (fix.specIn f _ _ _).mono ?_; rw [k2]; rintro e w' ⟨rfl, rfl⟩))
        go_ret
        exact ⟨rfl, rfl⟩
      · obtain ⟨x, hx⟩ : ∃ x, across (c - 1) = x := ⟨_, rfl⟩
        rw [on_one (by omega) h.2 rfl hx, k2, Bool.and_true]
        have cA : ∀ W, Calls Tryz.prog 195 #[.int .i64 (c - 1)] W fun e w' => e = .returned (.int .i64 x) ∧ W = w' := fun W => hx ▸ specAcross (c - 1) W
        clear hx
        have h0' : decide (c = 0) = false := by simp [h0]
        go_enter Tryz.func192, Tryz.ntmps192
        go_wp2_with (first | (go_at_call 46; refine (specCaseOk _ _).mono ?_; rw [k1]; rintro e w' ⟨rfl, rfl⟩) | (go_at_call 24; refine (fix.specIn f _ _ _).mono ?_; rw [k2]; rintro e w' ⟨rfl, rfl⟩) | (go_at_call 195; refine (cA _).mono ?_; rintro e w' ⟨rfl, rfl⟩))
        all_goals go_ret
        all_goals exact ⟨ret_bool (by rw [Bool.eq_iff_iff]; simp; omega), rfl⟩
    · have k2 : inb f 0 5 = false := by unfold inb; simp; omega
      have e : staysOn c f = false := by unfold staysOn; simp; omega
      rw [e]
      go_enter Tryz.func192, Tryz.ntmps192
      go_wp2_with (first | (go_at_call 46; refine (specCaseOk _ _).mono ?_; rw [k1]; rintro e w' ⟨rfl, rfl⟩) | (go_at_call 24; refine (fix.specIn f _ _ _).mono ?_; rw [k2]; rintro e w' ⟨rfl, rfl⟩))
      go_ret
      exact ⟨rfl, rfl⟩
  · rw [on_no (by omega)]
    by_cases h7 : c = 7
    · subst h7
      have k1 : caseOk 7 = true := rfl
      obtain ⟨k, hk⟩ : ∃ k, inb f 0 5 = k := ⟨_, rfl⟩
      cases k
      all_goals go_enter Tryz.func192, Tryz.ntmps192
      all_goals go_wp2_with (first | (go_at_call 46; refine (specCaseOk _ _).mono ?_; rw [k1]; rintro e w' ⟨rfl, rfl⟩) | (go_at_call 24; refine (fix.specIn f _ _ _).mono ?_; rw [hk]; rintro e w' ⟨rfl, rfl⟩))
      all_goals go_ret
      all_goals exact ⟨rfl, rfl⟩
    · have k1 : caseOk c = false := by unfold caseOk inb; simp; omega
      go_enter Tryz.func192, Tryz.ntmps192
      go_wp2_with (first | (go_at_call 46; refine (specCaseOk _ _).mono ?_; rw [k1]; rintro e w' ⟨rfl, rfl⟩))
      go_ret
      exact ⟨rfl, rfl⟩
end Go.Proofs.YtdikhdfpcipdbaaGreatDoor.cas

/- Chapter 13 on plain facts: the modes, what is asked, the ways out of each; the small functions of both sides. -/
namespace Go.Proofs.YtdikhdfpcipdbaaGreatDoor.md
open Go.ChangeShapes Go.WideShapes Go.ChangeAt Go.RowKit
open Go.Proofs.YtdikhdfpcipdbaaGreatDoor.nums Go.Proofs.YtdikhdfpcipdbaaGreatDoor.mem
open Go.Proofs.YtdikhdfpcipdbaaGreatDoor.fix (ret_int ret_bool)
open Go.Proofs.YtdikhdfpcipdbaaGreatDoor.tab (Ret quiet_w)
open Go.Proofs.YtdikhdfpcipdbaaGreatDoor.cas (caseOk)
set_option linter.unusedVariables false

/-- What is known: the speed and whether it is, the height and whether it is, the case, armed, the want, the timer. -/
structure Fx where
  sp : Int
  so : Bool
  h : Int
  ho : Bool
  c : Int
  ar : Bool
  wn : Int
  tm : Int
/-- Its cells, and the value. -/
abbrev cs8 (f : Fx) : Array Value := #[.int .i64 f.sp, .bool f.so, .int .i64 f.h, .bool f.ho, .int .i64 f.c, .bool f.ar, .int .i64 f.wn, .int .i64 f.tm]
abbrev fac (f : Fx) : Value := .agg #[.int .i64 f.sp, .bool f.so, .int .i64 f.h, .bool f.ho, .int .i64 f.c, .bool f.ar, .int .i64 f.wn, .int .i64 f.tm]

def factsOk (f : Fx) : Bool := inb f.sp (-1000000) 1000000 && (inb f.h (-1000000) 1000000 && (caseOk f.c && (inb f.wn 0 2 && inb f.tm 0 1000)))
def modeOk (m : Int) : Bool := inb m 0 5
def inAir (m : Int) : Bool := inb m 1 4

def many (f : Fx) : Bool := decide (f.c = 7)
def rise (f : Fx) : Bool := f.ar && (f.so && (f.ho && decide (f.c = 0)))
def landed (f : Fx) : Bool := decide (f.wn = 2) && (f.ho && decide (f.h ≤ 1))
def setOut (f : Fx) : Bool := decide (f.wn = 1) && (f.so && decide (f.c = 0))
def giveUp (f : Fx) : Bool := !setOut f || decide (60 ≤ f.tm)
def fast (f : Fx) : Bool := decide (200 ≤ f.sp)
def turnBack (f : Fx) : Bool := !f.so || (decide (f.wn ≠ 1) || decide (f.sp < 120))
def back (f : Fx) : Bool := (f.so && decide (f.sp ≤ 60)) || decide (80 ≤ f.tm)

theorem implWantOk (m : Int) (w : World) :
    Calls Tryz.prog 50 #[.int .i64 m] w fun e w' => e = .returned (.bool (inb m 0 2)) ∧ w = w' := by
  go_enter Tryz.func50, Tryz.ntmps50
  go_wp2
  all_goals go_ret
  all_goals exact ⟨ret_bool (by unfold inb; simp <;> omega), rfl⟩
theorem implTimerOk (m : Int) (w : World) :
    Calls Tryz.prog 56 #[.int .i64 m] w fun e w' => e = .returned (.bool (inb m 0 1000)) ∧ w = w' := by
  go_enter Tryz.func56, Tryz.ntmps56
  go_wp2
  all_goals go_ret
  all_goals exact ⟨ret_bool (by unfold inb; simp <;> omega), rfl⟩

theorem specMode (m : Int) (w : World) :
    Calls Tryz.prog 144 #[.int .i64 m] w fun e w' => e = .returned (.bool (modeOk m)) ∧ w = w' := by
  go_enter Tryz.func144, Tryz.ntmps144
  go_wp2_with fail
  refine (fix.specIn m _ _ _).mono ?_
  rintro e w' ⟨rfl, rfl⟩
  go_wp2_with fail
  go_ret
  exact ⟨rfl, rfl⟩
theorem specWant (m : Int) (w : World) :
    Calls Tryz.prog 45 #[.int .i64 m] w fun e w' => e = .returned (.bool (inb m 0 2)) ∧ w = w' := by
  go_enter Tryz.func45, Tryz.ntmps45
  go_wp2_with fail
  refine (fix.specIn m _ _ _).mono ?_
  rintro e w' ⟨rfl, rfl⟩
  go_wp2_with fail
  go_ret
  exact ⟨rfl, rfl⟩
theorem specInAir (m : Int) (w : World) :
    Calls Tryz.prog 175 #[.int .i64 m] w fun e w' => e = .returned (.bool (inAir m)) ∧ w = w' := by
  go_enter Tryz.func175, Tryz.ntmps175
  go_wp2_with fail
  refine (fix.specIn m _ _ _).mono ?_
  rintro e w' ⟨rfl, rfl⟩
  go_wp2_with fail
  go_ret
  exact ⟨rfl, rfl⟩

end Go.Proofs.YtdikhdfpcipdbaaGreatDoor.md

/- Senses of one's own beside a box of another type. -/
namespace Go.Proofs.YtdikhdfpcipdbaaGreatDoor.se
open Go.ChangeShapes Go.WideShapes Go.ChangeAt Go.RowKit
open Go.Proofs.YtdikhdfpcipdbaaGreatDoor.nums Go.Proofs.YtdikhdfpcipdbaaGreatDoor.mem
open Go.Proofs.YtdikhdfpcipdbaaGreatDoor.tab (Ret)
open Go.Proofs.YtdikhdfpcipdbaaGreatDoor.rd (R okR ageR zR rx ra ro OwnR)
open Go.Proofs.YtdikhdfpcipdbaaGreatDoor.il (nth Ints Own)
set_option linter.unusedVariables false

/-- Its own blocks are none of senses' own. -/
theorem OwnS.nbox {b : Nat} {w : World} {s : S} {p : P} (h : OwnS b w s p) {g : Nat} {t : TypeId} {cs : Array Value} (k : Has w g t cs) (ht : t ≠ 42) (ht' : t ≠ 2) : ∀ c, blkS s p c → c ≠ g := by
  have key : ∀ {a : Option Addr} {l : List R}, OwnR w a l → ∀ x : Addr, a = some x → x.block ≠ g := by
    intro a l o x e eg
    rcases o with ⟨o, _⟩ | ⟨g', cs', o, hc, _⟩
    · rw [o] at e; cases e
    · rw [o] at e; injection e with e; subst e
      have e2 : g' = g := eg
      subst e2
      have := hc.symm.trans k
      simp at this
      exact ht this.2.symm
  rintro c (⟨x, e, rfl⟩ | ⟨x, e, rfl⟩ | ⟨x, e, rfl⟩ | e) eg
  · exact key h.sp x e eg
  · exact key h.he x e eg
  · exact key h.fa x e eg
  · subst eg; exact h.sq.ne k ht' e.symm
theorem OwnS.boxed {b : Nat} {w : World} {s : S} {p : P} (h : OwnS b w s p) {g : Nat} {x0 x1 x2 x3 x4 x5 : Value} (k : Has w g 27 #[x0, x1, x2, x3, x4, x5]) (u0 u1 u2 u3 u4 u5 : Value) :
    OwnS b ((((((w.setCell ⟨g, 0, none⟩ u0).setCell ⟨g, 1, none⟩ u1).setCell ⟨g, 2, none⟩ u2).setCell ⟨g, 3, none⟩ u3).setCell ⟨g, 4, none⟩ u4).setCell ⟨g, 5, none⟩ u5) s p := by
  have n1 : (27 : TypeId) ≠ 42 := by decide
  have n2 : (27 : TypeId) ≠ 2 := by decide
  have h0 := h.set g 0 u0 (h.nbox k n1 n2)
  have k0 := k.put 0 u0 rfl
  have h1 := h0.set g 1 u1 (h0.nbox k0 n1 n2)
  have k1 := k0.put 1 u1 rfl
  have h2 := h1.set g 2 u2 (h1.nbox k1 n1 n2)
  have k2 := k1.put 2 u2 rfl
  have h3 := h2.set g 3 u3 (h2.nbox k2 n1 n2)
  have k3 := k2.put 3 u3 rfl
  have h4 := h3.set g 4 u4 (h3.nbox k3 n1 n2)
  have k4 := k3.put 4 u4 rfl
  exact h4.set g 5 u5 (h4.nbox k4 n1 n2)
end Go.Proofs.YtdikhdfpcipdbaaGreatDoor.se

/- Chapter 7 on plain numbers; lists of numbers of one's own in memory. -/
namespace Go.Proofs.YtdikhdfpcipdbaaGreatDoor.vt
open Go.ChangeShapes Go.WideShapes Go.ChangeAt Go.RowKit
open Go.Proofs.YtdikhdfpcipdbaaGreatDoor.nums Go.Proofs.YtdikhdfpcipdbaaGreatDoor.mem Go.Proofs.YtdikhdfpcipdbaaGreatDoor.rd
open Go.Proofs.YtdikhdfpcipdbaaGreatDoor.tab (Ret quiet_w wpList_make_has add_off)
set_option linter.unusedVariables false

def mid (a b c : Int) : Int := max (min a b) (min (max a b) c)
/-- The numbers in order. -/
def srt (l : List Int) : List Int := l.mergeSort fun x y => decide (x ≤ y)
theorem srt_length (l : List Int) : (srt l).length = l.length := List.length_mergeSort _
theorem srt_sorted (l : List Int) : (srt l).Pairwise (fun x y => x ≤ y) := by
  have h := List.pairwise_mergeSort (le := fun x y : Int => decide (x ≤ y)) (by intro a b c; simp; omega) (by intro a b; simp; omega) l
  exact h.imp (by simp)
theorem srt_perm (l : List Int) : (srt l).Perm l := List.mergeSort_perm _ _
theorem srt_eq {l r : List Int} (hp : r.Perm l) (hs : r.Pairwise (fun x y => x ≤ y)) : srt l = r :=
  List.Perm.eq_of_pairwise (fun a b _ _ h1 h2 => Int.le_antisymm h1 h2) (srt_sorted l) hs ((srt_perm l).trans hp.symm)
theorem srt_one (a : Int) : srt [a] = [a] := srt_eq (List.Perm.refl _) (by simp)
theorem srt_two (a b : Int) : srt [a, b] = [min a b, max a b] := by
  refine srt_eq ?_ (by simp; omega)
  by_cases h : a ≤ b
  · rw [Int.min_eq_left h, Int.max_eq_right h]
  · rw [Int.min_eq_right (by omega), Int.max_eq_left (by omega)]; exact List.Perm.swap _ _ _
theorem srt_three (a b c : Int) : ∃ x z, srt [a, b, c] = [x, mid a b c, z] := by
  unfold mid
  by_cases h1 : a ≤ b
  · by_cases h2 : b ≤ c
    · refine ⟨a, c, srt_eq ?_ (by simp; omega)⟩
      rw [show max (min a b) (min (max a b) c) = b by omega]
    · by_cases h3 : a ≤ c
      · refine ⟨a, b, srt_eq ?_ (by simp; omega)⟩
        rw [show max (min a b) (min (max a b) c) = c by omega]; exact (List.Perm.swap _ _ _).cons _
      · refine ⟨c, b, srt_eq ?_ (by simp; omega)⟩
        rw [show max (min a b) (min (max a b) c) = a by omega]; exact (List.Perm.swap _ _ _).trans ((List.Perm.swap _ _ _).cons _)
  · by_cases h2 : a ≤ c
    · refine ⟨b, c, srt_eq ?_ (by simp; omega)⟩
      rw [show max (min a b) (min (max a b) c) = a by omega]; exact List.Perm.swap _ _ _
    · by_cases h3 : b ≤ c
      · refine ⟨b, a, srt_eq ?_ (by simp; omega)⟩
        rw [show max (min a b) (min (max a b) c) = c by omega]; exact ((List.Perm.swap _ _ _).cons _).trans (List.Perm.swap _ _ _)
      · refine ⟨c, a, srt_eq ?_ (by simp; omega)⟩
        rw [show max (min a b) (min (max a b) c) = b by omega]
        exact ((List.Perm.swap _ _ _).trans ((List.Perm.swap _ _ _).cons _)).trans (List.Perm.swap _ _ _)

/-- The values of those that are fresh. -/
def frv (l : List R) (m : Int) : List Int := (l.filter fun r => fresh r m).map fun r => r.1
theorem take_snoc {l : List R} {k : Nat} (h : k < l.length) : l.take (k + 1) = l.take k ++ [(rx l k, ra l k, ro l k)] := by
  rw [List.take_succ_eq_append_getElem h, ← rr, getD_lt h]
theorem frv_yes {l : List R} {m : Int} {k : Nat} (h : k < l.length) (hf : fresh (rx l k, ra l k, ro l k) m = true) : frv (l.take (k + 1)) m = frv (l.take k) m ++ [rx l k] := by
  unfold frv; rw [take_snoc h, List.filter_append, List.map_append]; simp [hf]
theorem frv_no {l : List R} {m : Int} {k : Nat} (h : k < l.length) (hf : fresh (rx l k, ra l k, ro l k) m = false) : frv (l.take (k + 1)) m = frv (l.take k) m := by
  unfold frv; rw [take_snoc h, List.filter_append, List.map_append]; simp [hf]
theorem frv_length (l : List R) (m : Int) : (frv l m).length ≤ l.length := by
  unfold frv; rw [List.length_map]; exact List.length_filter_le _ _
theorem frv_in {l : List R} {m v : Int} (h : v ∈ frv l m) : -1000000 ≤ v ∧ v ≤ 1000000 := by
  unfold frv at h
  simp only [List.mem_map, List.mem_filter] at h
  obtain ⟨⟨x, a, o⟩, ⟨_, hf⟩, rfl⟩ := h
  unfold fresh at hf
  simp only [Bool.and_eq_true] at hf
  exact (okR_iff.1 hf.1).1
/-- Those that vote: none where they are not so many, or one is not right. -/
def voters (l : List R) (many : Nat) (m : Int) : List Int := if l.length = many ∧ l.all okR = true then frv l m else []
theorem voters_ok {l : List R} {many : Nat} {m : Int} (h1 : l.length = many) (h2 : l.all okR = true) : voters l many m = frv l m := if_pos ⟨h1, h2⟩
theorem voters_bad {l : List R} {many : Nat} {m : Int} (h : l.all okR = false) : voters l many m = [] := if_neg (by rw [h]; simp)
theorem voters_len {l : List R} {many : Nat} {m : Int} (h : l.length ≠ many) : voters l many m = [] := if_neg (fun e => h e.1)
theorem voters_length (l : List R) (many : Nat) (m : Int) : (voters l many m).length ≤ many := by
  unfold voters
  split
  · rename_i h; have := frv_length l m; omega
  · simp
theorem voters_in {l : List R} {many : Nat} {m v : Int} (h : v ∈ voters l many m) : -1000000 ≤ v ∧ v ≤ 1000000 := by
  unfold voters at h
  split at h
  · exact frv_in h
  · simp at h
/-- A list of three at most. -/
theorem upto3 {l : List Int} (h : l.length ≤ 3) : l = [] ∨ (∃ a, l = [a]) ∨ (∃ a b, l = [a, b]) ∨ ∃ a b c, l = [a, b, c] := by
  match l, h with
  | [], _ => exact .inl rfl
  | [a], _ => exact .inr (.inl ⟨a, rfl⟩)
  | [a, b], _ => exact .inr (.inr (.inl ⟨a, b, rfl⟩))
  | [a, b, c], _ => exact .inr (.inr (.inr ⟨a, b, c, rfl⟩))
  | _ :: _ :: _ :: _ :: _, h => simp at h
def v3 : List Int → Int × Bool
  | [a, b, c] => (mid a b c, true)
  | [a, b] => ((a + b).tdiv 2, true)
  | [a] => (a, false)
  | _ => (0, false)
def v2 (ap : Int) : List Int → Int × Bool
  | [a, b] => (min a b, decide (kApart a b ≤ ap))
  | [a] => (a, true)
  | _ => (0, false)
def voteThree (l : List R) (m : Int) : Int × Bool := v3 (voters l 3 m)
def voteTwo (l : List R) (m ap : Int) : Int × Bool := if inb ap 0 1000000 = true then v2 ap (voters l 2 m) else (0, false)

abbrev vals (l : List Int) : List Value := l.map (Value.int .i64)
theorem vals_one (l : List Int) : ∀ u ∈ vals l, u.oneCell' = true := by
  intro u hu
  simp only [vals, List.mem_map] at hu
  obtain ⟨n, _, rfl⟩ := hu
  rfl
theorem vals_snoc (l : List Int) (x : Int) : vals (l ++ [x]) = vals l ++ [.int .i64 x] := by simp [vals]
/-- The value v holds the numbers l, in a block of its own that is not below base, or there are none. -/
abbrev IRow (w : World) (base : Nat) (v : Value) (l : List Int) : Prop := w.ownsRow base 2 1 v l.length (vals l)
theorem infoInt : (Tryz.prog.info? 2).map (fun i => (i.zero, i.size, i.bytes)) = some (some (.int .i64 0), 1, 8) := by kernel_rfl
theorem gr_own {a b c : World} {v : Value} (h : a.grownBy b none) (k : b.grownBy c v.ownBlock) (hq : ∀ g, v.ownBlock = some g → a.heap.size ≤ g) : a.grownBy c none :=
  ⟨k.os.trans h.os, k.tape.trans h.tape, k.output.trans h.output, Nat.le_trans h.size k.size, fun i hi _ => (k.block i (Nat.lt_of_lt_of_le hi h.size) (fun e => by have := hq i e.symm; omega)).trans (h.block i hi (by simp))⟩
theorem row_cell {w : World} {base g cap m : Nat} {l : List Int} (h : IRow w base (.slice (some ⟨g, 0, none⟩) m cap) l) (k : Nat) (hk : k < l.length) : w.cell? ⟨g, k, none⟩ = some (.int .i64 l[k]) := by
  have hv := h.cells (g := g) rfl k (.int .i64 l[k]) (by simp [hk])
  rwa [add0] at hv
/-- A list of its own comes back, nil where it is empty; of what was there nothing is another. -/
def RetI (l : List Int) (w : World) (e : Ending) (w' : World) : Prop :=
  ∃ a cap, e = .returned (.slice a l.length cap) ∧ w.grownBy w' none ∧ IRow w' w.heap.size (.slice a l.length cap) l ∧ (l = [] → a = none)
/-- The same, it may be empty and not nil. -/
def RetJ (l : List Int) (w : World) (e : Ending) (w' : World) : Prop :=
  ∃ a cap, e = .returned (.slice a l.length cap) ∧ w.grownBy w' none ∧ IRow w' w.heap.size (.slice a l.length cap) l
theorem row_some {w : World} {base cap : Nat} {a : Option Addr} {l : List Int} (h : IRow w base (.slice a l.length cap) l) (h0 : l ≠ []) : ∃ g, a = some ⟨g, 0, none⟩ ∧ base ≤ g ∧ g < w.heap.size := by
  obtain ⟨g, c, hv, hb, hlt⟩ := h.form (List.length_pos_iff.2 h0)
  injection hv with h1 _ _
  exact ⟨g, h1, hb, hlt⟩
end Go.Proofs.YtdikhdfpcipdbaaGreatDoor.vt

