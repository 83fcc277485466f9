/- Chapter 15 on plain senses: what is fed stays right; what is heard twice is heard once; who hears nothing is deaf. -/
import Derived.Test.YtdikhdfpcipdbaaGreatDoorSeFed
import Derived.Test.YtdikhdfpcipdbaaGreatDoorVt
namespace Go.Proofs.YtdikhdfpcipdbaaGreatDoor.se
open Go.Proofs.YtdikhdfpcipdbaaGreatDoor.nums
open Go.Proofs.YtdikhdfpcipdbaaGreatDoor.rd (R okR ageR zR rx ra ro okR_iff fresh)
open Go.Proofs.YtdikhdfpcipdbaaGreatDoor.il (nth nth_lt)
open Go.Proofs.YtdikhdfpcipdbaaGreatDoor.txt (okF okF_parts)
open Go.Proofs.YtdikhdfpcipdbaaGreatDoor.stm (Fr heard hfold hfold_zero hst hfold_ok newer)
set_option linter.unusedVariables false

theorem inb_iff {x l h : Int} : inb x l h = true ↔ l ≤ x ∧ x ≤ h := by unfold inb; simp
theorem okR_age {r : R} (h : okR r = true) : okR (ageR r) = true := by
  obtain ⟨v, a, o⟩ := r
  obtain ⟨h1, h2, h3⟩ := okR_iff.1 h
  show okR (v, min 1000 (a + 1), o) = true
  exact okR_iff.2 ⟨h1, by omega, by omega⟩
theorem okR_at {l : List R} (h : l.all okR = true) {k : Nat} (hk : k < l.length) : okR (rx l k, ra l k, ro l k) = true := rd.all_at h hk
theorem okR_map {l : List R} (h : l.all okR = true) : (l.map ageR).all okR = true := by
  rw [List.all_eq_true] at h ⊢
  intro x hx
  obtain ⟨y, hy, rfl⟩ := List.mem_map.1 hx
  exact okR_age (h y hy)
theorem okR_tk {lo hi rt x : Int} {r : R} (hr : okR r = true) (h : sane.okG lo hi rt = true) : okR (tk lo hi rt r x) = true := by
  obtain ⟨v, a, o⟩ := r
  unfold tk
  cases hs : sane.saneB lo hi rt v a x o
  · rw [sane.taken_old h hr hs]; exact okR_age hr
  · rw [sane.taken_got h hr hs]
    obtain ⟨h1, h2, h3, _⟩ := sane.okG_iff.1 h
    have := sane.sane_in hs
    exact okR_iff.2 ⟨by omega, by omega, by omega⟩
theorem gt_ok {r : R} {x : Int} (hr : okR r = true) : gt r x = (btw x 0 1000, 0, true) := by
  obtain ⟨v, a, o⟩ := r
  have h1 : 0 ≤ btw x 0 1000 ∧ btw x 0 1000 ≤ 1000 := by unfold btw; omega
  exact rd.got_ok hr (inb_iff.2 ⟨by omega, by omega⟩)
theorem okR_gt {r : R} {x : Int} (hr : okR r = true) : okR (gt r x) = true := by
  have h1 : 0 ≤ btw x 0 1000 ∧ btw x 0 1000 ≤ 1000 := by unfold btw; omega
  rw [gt_ok hr]
  exact okR_iff.2 ⟨by omega, by omega, by omega⟩
theorem ok_part {f : R → Int → R} (hf : ∀ r x, okR r = true → okR (f r x) = true) {l : List R} (hl : l.all okR = true) (o : Option Fr) : (part f l o).all okR = true := by
  cases o with
  | none => exact okR_map hl
  | some v =>
    rw [List.all_eq_true]
    intro x hx
    obtain ⟨i, hi, rfl⟩ := List.mem_map.1 hx
    exact hf _ _ (okR_at hl (by simpa using hi))
theorem hd_ok {s : S} {fs : List Fr} {k : Nat} {f : Fr} (h : hd s fs k = some f) : okF f.1 f.2.1 f.2.2 = true ∧ f.1 = (k : Int) + 1 := hfold_ok _ _ fs fs.length f h
theorem hd_seq {s : S} {fs : List Fr} {k : Nat} {f : Fr} (h : hd s fs k = some f) : 0 ≤ f.2.1 ∧ f.2.1 ≤ 99 := by
  have := okF_parts (hd_ok h).1
  exact ⟨this.2.2.1, this.2.2.2.1⟩
theorem okQ_iff {n : Int} : okQ n = true ↔ -1 ≤ n ∧ n ≤ 99 := inb_iff
theorem okQ_at {l : List Int} (h : l.all okQ = true) {k : Nat} (hk : k < l.length) : okQ (nth l k) = true := List.all_eq_true.1 h _ (il.nth_mem hk)
theorem okQ_sq {s : S} {fs : List Fr} (h : Ok s) {k : Nat} (hk : k < 4) : okQ (sqOf s fs k) = true := by
  unfold sqOf
  split
  · exact okQ_at h.sq (by rw [h.sq4]; exact hk)
  · rename_i f hf
    have := hd_seq hf
    exact okQ_iff.2 ⟨by omega, by omega⟩
theorem wn_ok {s : S} {fs : List Fr} (h : Ok s) : inb (wnOf s fs) 0 2 = true := by
  unfold wnOf
  split
  · exact h.wn
  · split
    · rename_i h1; exact h1
    · exact h.wn
theorem okG_speed : sane.okG 0 400 20 = true := by decide
theorem okG_height : sane.okG 0 2000 60 = true := by decide
theorem ok_upto {s : S} {fs : List Fr} {k : Nat} (h : Ok s) : Ok (upto s fs k) where
  sp := ok_part (fun r x hr => okR_tk hr okG_speed) h.sp _
  sp3 := by rw [← h.sp3]; exact part_len _ _ _
  he := ok_part (fun r x hr => okR_tk hr okG_height) h.he _
  he2 := by rw [← h.he2]; exact part_len _ _ _
  fa := ok_part (fun r x hr => okR_gt hr) h.fa _
  fa6 := by rw [← h.fa6]; exact part_len _ _ _
  wn := by
    show inb (if 3 < k then wnOf s fs else s.wn) 0 2 = true
    split
    · exact wn_ok h
    · exact h.wn
  sq := by
    have q : ∀ j, j < 4 → okQ (nth s.sq j) = true := fun j hj => okQ_at h.sq (by rw [h.sq4]; exact hj)
    show List.all [_, _, _, _] okQ = true
    rw [List.all_eq_true]
    intro x hx
    simp only [List.mem_cons, List.not_mem_nil, or_false] at hx
    rcases hx with rfl | rfl | rfl | rfl
    · split
      · exact okQ_sq h (by omega)
      · exact q 0 (by omega)
    · split
      · exact okQ_sq h (by omega)
      · exact q 1 (by omega)
    · split
      · exact okQ_sq h (by omega)
      · exact q 2 (by omega)
    · split
      · exact okQ_sq h (by omega)
      · exact q 3 (by omega)
  sq4 := rfl
theorem ok_fed {s : S} {fs : List Fr} (h : ok s = true) : ok (fed s fs) = true := by
  rw [fed_ok h]; exact ok_iff.2 (ok_upto (ok_iff.1 h))

/-- Nothing is heard of nothing. -/
theorem heard_nil (k q : Int) : heard k q [] = none := rfl
theorem hd_nil (s : S) (k : Nat) : hd s [] k = none := rfl
theorem four_of {l : List Int} (h : l.length = 4) : l = [nth l 0, nth l 1, nth l 2, nth l 3] := by
  match l, h with
  | [a, b, c, d], _ => rfl
/-- Where nothing new is heard all is aged. -/
def agedS (s : S) : S := ⟨s.sp.map ageR, s.he.map ageR, s.fa.map ageR, s.wn, s.ar, s.sq⟩
theorem upto_none {s : S} {fs : List Fr} (h4 : s.sq.length = 4) (h : ∀ k, k < 4 → hd s fs k = none) : upto s fs 4 = agedS s := by
  have e0 := h 0 (by omega)
  have e1 := h 1 (by omega)
  have e2 := h 2 (by omega)
  have e3 := h 3 (by omega)
  simp only [upto, sqOf, wnOf, arOf, e0, e1, e2, e3, part, agedS]
  have q := (four_of h4).symm
  simp [q]
theorem fed_nil {s : S} (h : ok s = true) : fed s [] = agedS s := by
  rw [fed_ok h]; exact upto_none (ok_iff.1 h).sq4 (fun k _ => hd_nil s k)

/-- A number is not newer than itself. -/
theorem not_newer (q : Int) : newer q q = false := by
  unfold newer inb
  by_cases h : 0 ≤ q ∧ q ≤ 99
  · have : (q - q + 100) % 100 = 0 := by omega
    rw [this]; simp; omega
  · simp; omega
theorem heard_one (k q : Int) (f : Fr) : heard k q [f] = if (decide (f.1 = k) && (okF f.1 f.2.1 f.2.2 && newer q f.2.1)) = true then some f else none := by
  show (hst k (q, none) f).2 = _
  unfold hst
  split <;> rfl
theorem sq_upto {s : S} {fs : List Fr} {k : Nat} (hk : k < 4) : nth (upto s fs 4).sq k = sqOf s fs k := by
  rcases (show k = 0 ∨ k = 1 ∨ k = 2 ∨ k = 3 by omega) with rfl | rfl | rfl | rfl <;> rfl
/-- Of one frame nothing is heard a second time. -/
theorem again_none {s : S} {f : Fr} {k : Nat} (hk : k < 4) : hd (upto s [f] 4) [f] k = none := by
  unfold hd
  rw [sq_upto hk, heard_one]
  unfold sqOf hd
  rw [heard_one]
  cases h : (decide (f.1 = (k : Int) + 1) && (okF f.1 f.2.1 f.2.2 && newer (nth s.sq k) f.2.1))
  · simp only [Bool.false_eq_true, if_false]
    rw [h]; rfl
  · simp only [if_true]
    rw [not_newer]; simp
theorem again {s : S} {fs : List Fr} (h : ok s = true) (hl : fs.length ≤ 1) : fed (fed s fs) fs = fed (fed s fs) [] := by
  match fs, hl with
  | [], _ => rfl
  | [f], _ =>
    rw [fed_nil (ok_fed h), fed_ok (ok_fed h)]
    rw [fed_ok h]
    exact upto_none rfl (fun k hk => again_none hk)

/-- All are at least so old. -/
def Old (n : Int) (l : List R) : Prop := ∀ r ∈ l, n ≤ r.2.1
theorem Old.zero {l : List R} (h : l.all okR = true) : Old 0 l := fun r hr => by
  obtain ⟨v, a, o⟩ := r
  exact (okR_iff.1 (List.all_eq_true.1 h _ hr)).2.1
theorem Old.age {n : Int} {l : List R} (h : Old n l) (hn : n < 1000) : Old (n + 1) (l.map ageR) := fun r hr => by
  obtain ⟨s, hs, rfl⟩ := List.mem_map.1 hr
  have := h s hs
  show n + 1 ≤ min 1000 (s.2.1 + 1)
  omega
theorem Old.deaf {l : List R} (h : Old 4 l) : vt.frv l 3 = [] := by
  unfold vt.frv
  rw [List.map_eq_nil_iff, List.filter_eq_nil_iff]
  intro r hr
  have := h r hr
  unfold fresh
  simp only [Bool.and_eq_true, decide_eq_true_eq]
  omega
theorem Old.three {l : List R} (h : Old 4 l) : vt.voteThree l 3 = (0, false) := by
  unfold vt.voteThree vt.voters
  rw [h.deaf]
  split <;> rfl
theorem Old.two {l : List R} (h : Old 4 l) : vt.voteTwo l 3 10 = (0, false) := by
  unfold vt.voteTwo vt.voters
  rw [h.deaf]
  split
  · split <;> rfl
  · rfl
end Go.Proofs.YtdikhdfpcipdbaaGreatDoor.se
