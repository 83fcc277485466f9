/- Chapter 7 on plain numbers; lists of numbers of one's own in memory. -/
import Derived.Test.YtdikhdfpcipdbaaGreatDoorRdAll
namespace Go.Proofs.YtdikhdfpcipdbaaGreatDoor.vt
open Go.ChangeShapes Go.WideShapes Go.ChangeAt Go.RowKit
open Go.Proofs.YtdikhdfpcipdbaaGreatDoor.nums Go.Proofs.YtdikhdfpcipdbaaGreatDoor.mem Go.Proofs.YtdikhdfpcipdbaaGreatDoor.rd
open Go.Proofs.YtdikhdfpcipdbaaGreatDoor.tab (Ret quiet_w wpList_make_has add_off)
set_option linter.unusedVariables false

def mid (a b c : Int) : Int := max (min a b) (min (max a b) c)
/-- The numbers in order. -/
def srt (l : List Int) : List Int := l.mergeSort fun x y => decide (x ≤ y)
theorem srt_length (l : List Int) : (srt l).length = l.length := List.length_mergeSort _
theorem srt_sorted (l : List Int) : (srt l).Pairwise (fun x y => x ≤ y) := by
  have h := List.pairwise_mergeSort (le := fun x y : Int => decide (x ≤ y)) (by intro a b c; simp; omega) (by intro a b; simp; omega) l
  exact h.imp (by simp)
theorem srt_perm (l : List Int) : (srt l).Perm l := List.mergeSort_perm _ _
theorem srt_eq {l r : List Int} (hp : r.Perm l) (hs : r.Pairwise (fun x y => x ≤ y)) : srt l = r :=
  List.Perm.eq_of_pairwise (fun a b _ _ h1 h2 => Int.le_antisymm h1 h2) (srt_sorted l) hs ((srt_perm l).trans hp.symm)
theorem srt_nil : srt [] = [] := srt_eq (List.Perm.refl _) List.Pairwise.nil
theorem srt_one (a : Int) : srt [a] = [a] := srt_eq (List.Perm.refl _) (by simp)
theorem srt_two (a b : Int) : srt [a, b] = [min a b, max a b] := by
  refine srt_eq ?_ (by simp; omega)
  by_cases h : a ≤ b
  · rw [Int.min_eq_left h, Int.max_eq_right h]
  · rw [Int.min_eq_right (by omega), Int.max_eq_left (by omega)]; exact List.Perm.swap _ _ _
theorem srt_three (a b c : Int) : ∃ x z, srt [a, b, c] = [x, mid a b c, z] := by
  unfold mid
  by_cases h1 : a ≤ b
  · by_cases h2 : b ≤ c
    · refine ⟨a, c, srt_eq ?_ (by simp; omega)⟩
      rw [show max (min a b) (min (max a b) c) = b by omega]
    · by_cases h3 : a ≤ c
      · refine ⟨a, b, srt_eq ?_ (by simp; omega)⟩
        rw [show max (min a b) (min (max a b) c) = c by omega]; exact (List.Perm.swap _ _ _).cons _
      · refine ⟨c, b, srt_eq ?_ (by simp; omega)⟩
        rw [show max (min a b) (min (max a b) c) = a by omega]; exact (List.Perm.swap _ _ _).trans ((List.Perm.swap _ _ _).cons _)
  · by_cases h2 : a ≤ c
    · refine ⟨b, c, srt_eq ?_ (by simp; omega)⟩
      rw [show max (min a b) (min (max a b) c) = a by omega]; exact List.Perm.swap _ _ _
    · by_cases h3 : b ≤ c
      · refine ⟨b, a, srt_eq ?_ (by simp; omega)⟩
        rw [show max (min a b) (min (max a b) c) = c by omega]; exact ((List.Perm.swap _ _ _).cons _).trans (List.Perm.swap _ _ _)
      · refine ⟨c, a, srt_eq ?_ (by simp; omega)⟩
        rw [show max (min a b) (min (max a b) c) = b by omega]
        exact ((List.Perm.swap _ _ _).trans ((List.Perm.swap _ _ _).cons _)).trans (List.Perm.swap _ _ _)

/-- The values of those that are fresh. -/
def frv (l : List R) (m : Int) : List Int := (l.filter fun r => fresh r m).map fun r => r.1
theorem frv_nil (m : Int) : frv [] m = [] := rfl
theorem take_snoc {l : List R} {k : Nat} (h : k < l.length) : l.take (k + 1) = l.take k ++ [(rx l k, ra l k, ro l k)] := by
  rw [List.take_succ_eq_append_getElem h, ← rr, getD_lt h]
theorem frv_yes {l : List R} {m : Int} {k : Nat} (h : k < l.length) (hf : fresh (rx l k, ra l k, ro l k) m = true) : frv (l.take (k + 1)) m = frv (l.take k) m ++ [rx l k] := by
  unfold frv; rw [take_snoc h, List.filter_append, List.map_append]; simp [hf]
theorem frv_no {l : List R} {m : Int} {k : Nat} (h : k < l.length) (hf : fresh (rx l k, ra l k, ro l k) m = false) : frv (l.take (k + 1)) m = frv (l.take k) m := by
  unfold frv; rw [take_snoc h, List.filter_append, List.map_append]; simp [hf]
theorem frv_length (l : List R) (m : Int) : (frv l m).length ≤ l.length := by
  unfold frv; rw [List.length_map]; exact List.length_filter_le _ _
theorem frv_take_length (l : List R) (m : Int) (k : Nat) : (frv (l.take k) m).length ≤ k := by
  have := frv_length (l.take k) m
  have := List.length_take_le k l
  omega
theorem frv_in {l : List R} {m v : Int} (h : v ∈ frv l m) : -1000000 ≤ v ∧ v ≤ 1000000 := by
  unfold frv at h
  simp only [List.mem_map, List.mem_filter] at h
  obtain ⟨⟨x, a, o⟩, ⟨_, hf⟩, rfl⟩ := h
  unfold fresh at hf
  simp only [Bool.and_eq_true] at hf
  exact (okR_iff.1 hf.1).1
/-- Those that vote: none where they are not so many, or one is not right. -/
def voters (l : List R) (many : Nat) (m : Int) : List Int := if l.length = many ∧ l.all okR = true then frv l m else []
theorem voters_ok {l : List R} {many : Nat} {m : Int} (h1 : l.length = many) (h2 : l.all okR = true) : voters l many m = frv l m := if_pos ⟨h1, h2⟩
theorem voters_bad {l : List R} {many : Nat} {m : Int} (h : l.all okR = false) : voters l many m = [] := if_neg (by rw [h]; simp)
theorem voters_len {l : List R} {many : Nat} {m : Int} (h : l.length ≠ many) : voters l many m = [] := if_neg (fun e => h e.1)
theorem voters_length (l : List R) (many : Nat) (m : Int) : (voters l many m).length ≤ many := by
  unfold voters
  split
  · rename_i h; have := frv_length l m; omega
  · simp
theorem voters_in {l : List R} {many : Nat} {m v : Int} (h : v ∈ voters l many m) : -1000000 ≤ v ∧ v ≤ 1000000 := by
  unfold voters at h
  split at h
  · exact frv_in h
  · simp at h
/-- A list of three at most. -/
theorem upto3 {l : List Int} (h : l.length ≤ 3) : l = [] ∨ (∃ a, l = [a]) ∨ (∃ a b, l = [a, b]) ∨ ∃ a b c, l = [a, b, c] := by
  match l, h with
  | [], _ => exact .inl rfl
  | [a], _ => exact .inr (.inl ⟨a, rfl⟩)
  | [a, b], _ => exact .inr (.inr (.inl ⟨a, b, rfl⟩))
  | [a, b, c], _ => exact .inr (.inr (.inr ⟨a, b, c, rfl⟩))
  | _ :: _ :: _ :: _ :: _, h => simp at h
def v3 : List Int → Int × Bool
  | [a, b, c] => (mid a b c, true)
  | [a, b] => ((a + b).tdiv 2, true)
  | [a] => (a, false)
  | _ => (0, false)
def v2 (ap : Int) : List Int → Int × Bool
  | [a, b] => (min a b, decide (kApart a b ≤ ap))
  | [a] => (a, true)
  | _ => (0, false)
def voteThree (l : List R) (m : Int) : Int × Bool := v3 (voters l 3 m)
def voteTwo (l : List R) (m ap : Int) : Int × Bool := if inb ap 0 1000000 = true then v2 ap (voters l 2 m) else (0, false)

abbrev vals (l : List Int) : List Value := l.map (Value.int .i64)
theorem vals_one (l : List Int) : ∀ u ∈ vals l, u.oneCell' = true := by
  intro u hu
  simp only [vals, List.mem_map] at hu
  obtain ⟨n, _, rfl⟩ := hu
  rfl
theorem vals_snoc (l : List Int) (x : Int) : vals (l ++ [x]) = vals l ++ [.int .i64 x] := by simp [vals]
/-- The value v holds the numbers l, in a block of its own that is not below base, or there are none. -/
abbrev IRow (w : World) (base : Nat) (v : Value) (l : List Int) : Prop := w.ownsRow base 2 1 v l.length (vals l)
theorem infoInt : (Tryz.prog.info? 2).map (fun i => (i.zero, i.size, i.bytes)) = some (some (.int .i64 0), 1, 8) := by kernel_rfl
theorem gr_own {a b c : World} {v : Value} (h : a.grownBy b none) (k : b.grownBy c v.ownBlock) (hq : ∀ g, v.ownBlock = some g → a.heap.size ≤ g) : a.grownBy c none :=
  ⟨k.os.trans h.os, k.tape.trans h.tape, k.output.trans h.output, Nat.le_trans h.size k.size, fun i hi _ => (k.block i (Nat.lt_of_lt_of_le hi h.size) (fun e => by have := hq i e.symm; omega)).trans (h.block i hi (by simp))⟩
theorem row_cell {w : World} {base g cap m : Nat} {l : List Int} (h : IRow w base (.slice (some ⟨g, 0, none⟩) m cap) l) (k : Nat) (hk : k < l.length) : w.cell? ⟨g, k, none⟩ = some (.int .i64 l[k]) := by
  have hv := h.cells (g := g) rfl k (.int .i64 l[k]) (by simp [hk])
  rwa [add0] at hv
/-- A list of its own comes back, nil where it is empty; of what was there nothing is another. -/
def RetI (l : List Int) (w : World) (e : Ending) (w' : World) : Prop :=
  ∃ a cap, e = .returned (.slice a l.length cap) ∧ w.grownBy w' none ∧ IRow w' w.heap.size (.slice a l.length cap) l ∧ (l = [] → a = none)
/-- The same, it may be empty and not nil. -/
def RetJ (l : List Int) (w : World) (e : Ending) (w' : World) : Prop :=
  ∃ a cap, e = .returned (.slice a l.length cap) ∧ w.grownBy w' none ∧ IRow w' w.heap.size (.slice a l.length cap) l
theorem row_some {w : World} {base cap : Nat} {a : Option Addr} {l : List Int} (h : IRow w base (.slice a l.length cap) l) (h0 : l ≠ []) : ∃ g, a = some ⟨g, 0, none⟩ ∧ base ≤ g ∧ g < w.heap.size := by
  obtain ⟨g, c, hv, hb, hlt⟩ := h.form (List.length_pos_iff.2 h0)
  injection hv with h1 _ _
  exact ⟨g, h1, hb, hlt⟩
end Go.Proofs.YtdikhdfpcipdbaaGreatDoor.vt
