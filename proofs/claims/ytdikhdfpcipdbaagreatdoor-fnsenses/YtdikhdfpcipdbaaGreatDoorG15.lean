/- Chapter 15 on plain senses: what is fed stays right; what is heard twice is heard once; who hears nothing is deaf. The cursor over the bytes of a draw: whatever it hands out is in range, and it turns no memory but its own. The cursor, continued: a new one; the draw of a size; the draws of chapter 1. The draws of chapter 6: whatever the bytes, readings; and nothing that was there is another. -/
import Derived.Test.YtdikhdfpcipdbaaGreatDoorG11
import Derived.Test.YtdikhdfpcipdbaaGreatDoorG14
import Derived.Test.YtdikhdfpcipdbaaGreatDoorG1
import Derived.BigQuiet
import Derived.Deep.QuietTactic
import Derived.Laws.BitsLemmas
import Derived.Test.YtdikhdfpcipdbaaGreatDoorG3
/- Chapter 15 on plain senses: what is fed stays right; what is heard twice is heard once; who hears nothing is deaf. -/
namespace Go.Proofs.YtdikhdfpcipdbaaGreatDoor.se
open Go.Proofs.YtdikhdfpcipdbaaGreatDoor.nums
open Go.Proofs.YtdikhdfpcipdbaaGreatDoor.rd (R okR ageR zR rx ra ro okR_iff fresh)
open Go.Proofs.YtdikhdfpcipdbaaGreatDoor.il (nth nth_lt)
open Go.Proofs.YtdikhdfpcipdbaaGreatDoor.txt (okF okF_parts)
open Go.Proofs.YtdikhdfpcipdbaaGreatDoor.stm (Fr heard hfold hfold_zero hst hfold_ok newer)
set_option linter.unusedVariables false

theorem inb_iff {x l h : Int} : inb x l h = true ↔ l ≤ x ∧ x ≤ h := by unfold inb; simp
theorem okR_age {r : R} (h : okR r = true) : okR (ageR r) = true := by
  obtain ⟨v, a, o⟩ := r
  obtain ⟨h1, h2, h3⟩ := okR_iff.1 h
  show okR (v, min 1000 (a + 1), o) = true
  exact okR_iff.2 ⟨h1, by omega, by omega⟩
theorem okR_at {l : List R} (h : l.all okR = true) {k : Nat} (hk : k < l.length) : okR (rx l k, ra l k, ro l k) = true := rd.all_at h hk
theorem okR_map {l : List R} (h : l.all okR = true) : (l.map ageR).all okR = true := by
  rw [List.all_eq_true] at h ⊢
  intro x hx
  obtain ⟨y, hy, rfl⟩ := List.mem_map.1 hx
  exact okR_age (h y hy)
theorem okR_tk {lo hi rt x : Int} {r : R} (hr : okR r = true) (h : sane.okG lo hi rt = true) : okR (tk lo hi rt r x) = true := by
  obtain ⟨v, a, o⟩ := r
  unfold tk
  cases hs : sane.saneB lo hi rt v a x o
  · rw [sane.taken_old h hr hs]; exact okR_age hr
  · rw [sane.taken_got h hr hs]
    obtain ⟨h1, h2, h3, _⟩ := sane.okG_iff.1 h
    have := sane.sane_in hs
    exact okR_iff.2 ⟨by omega, by omega, by omega⟩
theorem gt_ok {r : R} {x : Int} (hr : okR r = true) : gt r x = (btw x 0 1000, 0, true) := by
  obtain ⟨v, a, o⟩ := r
  have h1 : 0 ≤ btw x 0 1000 ∧ btw x 0 1000 ≤ 1000 := by unfold btw; omega
  exact rd.got_ok hr (inb_iff.2 ⟨by omega, by omega⟩)
theorem okR_gt {r : R} {x : Int} (hr : okR r = true) : okR (gt r x) = true := by
  have h1 : 0 ≤ btw x 0 1000 ∧ btw x 0 1000 ≤ 1000 := by unfold btw; omega
  rw [gt_ok hr]
  exact okR_iff.2 ⟨by omega, by omega, by omega⟩
theorem ok_part {f : R → Int → R} (hf : ∀ r x, okR r = true → okR (f r x) = true) {l : List R} (hl : l.all okR = true) (o : Option Fr) : (part f l o).all okR = true := by
  cases o with
  | none => exact okR_map hl
  | some v =>
    rw [List.all_eq_true]
    intro x hx
    obtain ⟨i, hi, rfl⟩ := List.mem_map.1 hx
    exact hf _ _ (okR_at hl (by simpa using hi))
theorem hd_ok {s : S} {fs : List Fr} {k : Nat} {f : Fr} (h : hd s fs k = some f) : okF f.1 f.2.1 f.2.2 = true ∧ f.1 = (k : Int) + 1 := hfold_ok _ _ fs fs.length f h
theorem hd_seq {s : S} {fs : List Fr} {k : Nat} {f : Fr} (h : hd s fs k = some f) : 0 ≤ f.2.1 ∧ f.2.1 ≤ 99 := by
  have := okF_parts (hd_ok h).1
  exact ⟨this.2.2.1, this.2.2.2.1⟩
theorem okQ_iff {n : Int} : okQ n = true ↔ -1 ≤ n ∧ n ≤ 99 := inb_iff
theorem okQ_at {l : List Int} (h : l.all okQ = true) {k : Nat} (hk : k < l.length) : okQ (nth l k) = true := List.all_eq_true.1 h _ (il.nth_mem hk)
theorem okQ_sq {s : S} {fs : List Fr} (h : Ok s) {k : Nat} (hk : k < 4) : okQ (sqOf s fs k) = true := by
  unfold sqOf
  split
  · exact okQ_at h.sq (by rw [h.sq4]; exact hk)
  · rename_i f hf
    have := hd_seq hf
    exact okQ_iff.2 ⟨by omega, by omega⟩
theorem wn_ok {s : S} {fs : List Fr} (h : Ok s) : inb (wnOf s fs) 0 2 = true := by
  unfold wnOf
  split
  · exact h.wn
  · split
    · rename_i h1; exact h1
    · exact h.wn
theorem okG_speed : sane.okG 0 400 20 = true := by decide
theorem okG_height : sane.okG 0 2000 60 = true := by decide
theorem ok_upto {s : S} {fs : List Fr} {k : Nat} (h : Ok s) : Ok (upto s fs k) where
  sp := ok_part (fun r x hr => okR_tk hr okG_speed) h.sp _
  sp3 := by rw [← h.sp3]; exact part_len _ _ _
  he := ok_part (fun r x hr => okR_tk hr okG_height) h.he _
  he2 := by rw [← h.he2]; exact part_len _ _ _
  fa := ok_part (fun r x hr => okR_gt hr) h.fa _
  fa6 := by rw [← h.fa6]; exact part_len _ _ _
  wn := by
    show inb (if 3 < k then wnOf s fs else s.wn) 0 2 = true
    split
    · exact wn_ok h
    · exact h.wn
  sq := by
    have q : ∀ j, j < 4 → okQ (nth s.sq j) = true := fun j hj => okQ_at h.sq (by rw [h.sq4]; exact hj)
    show List.all [_, _, _, _] okQ = true
    rw [List.all_eq_true]
    intro x hx
    simp only [List.mem_cons, List.not_mem_nil, or_false] at hx
    rcases hx with rfl | rfl | rfl | rfl
    · split
      · exact okQ_sq h (by omega)
      · exact q 0 (by omega)
    · split
      · exact okQ_sq h (by omega)
      · exact q 1 (by omega)
    · split
      · exact okQ_sq h (by omega)
      · exact q 2 (by omega)
    · split
      · exact okQ_sq h (by omega)
      · exact q 3 (by omega)
  sq4 := rfl
theorem ok_fed {s : S} {fs : List Fr} (h : ok s = true) : ok (fed s fs) = true := by
  rw [fed_ok h]; exact ok_iff.2 (ok_upto (ok_iff.1 h))

theorem hd_nil (s : S) (k : Nat) : hd s [] k = none := rfl
theorem four_of {l : List Int} (h : l.length = 4) : l = [nth l 0, nth l 1, nth l 2, nth l 3] := by
  match l, h with
  | [a, b, c, d], _ => rfl
/-- Where nothing new is heard all is aged. -/
def agedS (s : S) : S := ⟨s.sp.map ageR, s.he.map ageR, s.fa.map ageR, s.wn, s.ar, s.sq⟩
theorem upto_none {s : S} {fs : List Fr} (h4 : s.sq.length = 4) (h : ∀ k, k < 4 → hd s fs k = none) : upto s fs 4 = agedS s := by
  have e0 := h 0 (by omega)
  have e1 := h 1 (by omega)
  have e2 := h 2 (by omega)
  have e3 := h 3 (by omega)
  simp only [upto, sqOf, wnOf, arOf, e0, e1, e2, e3, part, agedS]
  have q := (four_of h4).symm
  simp [q]
theorem fed_nil {s : S} (h : ok s = true) : fed s [] = agedS s := by
  rw [fed_ok h]; exact upto_none (ok_iff.1 h).sq4 (fun k _ => hd_nil s k)

/-- A number is not newer than itself. -/
theorem not_newer (q : Int) : newer q q = false := by
  unfold newer inb
  by_cases h : 0 ≤ q ∧ q ≤ 99
  · have : (q - q + 100) % 100 = 0 := by omega
    rw [this]; simp; omega
  · simp; omega
theorem heard_one (k q : Int) (f : Fr) : heard k q [f] = if (decide (f.1 = k) && (okF f.1 f.2.1 f.2.2 && newer q f.2.1)) = true then some f else none := by
  show (hst k (q, none) f).2 = _
  unfold hst
  split <;> rfl
theorem sq_upto {s : S} {fs : List Fr} {k : Nat} (hk : k < 4) : nth (upto s fs 4).sq k = sqOf s fs k := by
  rcases (show k = 0 ∨ k = 1 ∨ k = 2 ∨ k = 3 by omega) with rfl | rfl | rfl | rfl <;> rfl
/-- Of one frame nothing is heard a second time. -/
theorem again_none {s : S} {f : Fr} {k : Nat} (hk : k < 4) : hd (upto s [f] 4) [f] k = none := by
  unfold hd
  rw [sq_upto hk, heard_one]
  unfold sqOf hd
  rw [heard_one]
  cases h : (decide (f.1 = (k : Int) + 1) && (okF f.1 f.2.1 f.2.2 && newer (nth s.sq k) f.2.1))
  · simp only [Bool.false_eq_true, if_false]
    rw [h]; rfl
  · simp only [if_true]
    rw [not_newer]; simp
theorem again {s : S} {fs : List Fr} (h : ok s = true) (hl : fs.length ≤ 1) : fed (fed s fs) fs = fed (fed s fs) [] := by
  match fs, hl with
  | [], _ => rfl
  | [f], _ =>
    rw [fed_nil (ok_fed h), fed_ok (ok_fed h)]
    rw [fed_ok h]
    exact upto_none rfl (fun k hk => again_none hk)

/-- All are at least so old. -/
def Old (n : Int) (l : List R) : Prop := ∀ r ∈ l, n ≤ r.2.1
theorem Old.zero {l : List R} (h : l.all okR = true) : Old 0 l := fun r hr => by
  obtain ⟨v, a, o⟩ := r
  exact (okR_iff.1 (List.all_eq_true.1 h _ hr)).2.1
theorem Old.age {n : Int} {l : List R} (h : Old n l) (hn : n < 1000) : Old (n + 1) (l.map ageR) := fun r hr => by
  obtain ⟨s, hs, rfl⟩ := List.mem_map.1 hr
  have := h s hs
  show n + 1 ≤ min 1000 (s.2.1 + 1)
  omega
theorem Old.deaf {l : List R} (h : Old 4 l) : vt.frv l 3 = [] := by
  unfold vt.frv
  rw [List.map_eq_nil_iff, List.filter_eq_nil_iff]
  intro r hr
  have := h r hr
  unfold fresh
  simp only [Bool.and_eq_true, decide_eq_true_eq]
  omega
theorem Old.three {l : List R} (h : Old 4 l) : vt.voteThree l 3 = (0, false) := by
  unfold vt.voteThree vt.voters
  rw [h.deaf]
  split <;> rfl
theorem Old.two {l : List R} (h : Old 4 l) : vt.voteTwo l 3 10 = (0, false) := by
  unfold vt.voteTwo vt.voters
  rw [h.deaf]
  split
  · split <;> rfl
  · rfl
end Go.Proofs.YtdikhdfpcipdbaaGreatDoor.se

/- The cursor over the bytes of a draw: whatever it hands out is in range, and it turns no memory but its own. -/
namespace Go.Proofs.YtdikhdfpcipdbaaGreatDoor.cur
open Go.ChangeShapes Go.WideShapes Go.ChangeAt Go.RowKit
open Go.Proofs.YtdikhdfpcipdbaaGreatDoor.nums Go.Proofs.YtdikhdfpcipdbaaGreatDoor.mem
set_option linter.unusedVariables false

/-- The bytes that a draw reads: so many, each in its cell, in a block below q. -/
def Bytes (w : World) (q : Nat) (b : Option Addr) (n : Nat) : Prop := ∀ k, k < n → ∃ (x : Addr) (z : Int), b = some x ∧ x.block < q ∧ w.cell? (x.add k) = some (.int .u8 z) ∧ 0 ≤ z ∧ z ≤ 255
/-- A cursor in block q. -/
def Cur (b : Option Addr) (n c : Nat) (w : World) (q : Nat) : Prop :=
  Bytes w q b n ∧ ∃ (i : Nat) (h : Int), i ≤ n ∧ Has w q 83 #[.slice b n c, .int .i64 i, .int .i64 h]
/-- A draw from it: a number with P; of what was there its own block alone is another. -/
def Drawn (P : Int → Prop) (b : Option Addr) (n c : Nat) (w : World) (q : Nat) (e : Ending) (w' : World) : Prop :=
  ∃ x : Int, P x ∧ e = .returned (.int .i64 x) ∧ w.grownBy w' (some q) ∧ Cur b n c w' q

theorem block_add (a : Addr) (n : Nat) : (a.add n).block = a.block := by unfold Addr.add; split <;> rfl
theorem Bytes.kept {w w' : World} {q n : Nat} {b : Option Addr} (h : Bytes w q b n) (hq : q ≤ w.heap.size) (hg : w.grownBy w' (some q)) : Bytes w' q b n := by
  intro k hk
  obtain ⟨x, z, e, hx, hc, hz⟩ := h k hk
  refine ⟨x, z, e, hx, ?_, hz⟩
  rw [← hc]
  refine World.cell?_of_block (hg.block _ ?_ ?_)
  · rw [block_add]; omega
  · rw [block_add]; intro e; injection e with e; omega

theorem and_mask (x : Int) (m : Nat) (hm : m < 4611686018427387904) : 0 ≤ bits .and .i64 x (m : Int) ∧ bits .and .i64 x (m : Int) ≤ m := by
  have h : (BitVec.ofInt 64 (m : Int)).toNat = m := by
    rw [BitVec.ofInt_natCast, BitVec.toNat_ofNat]; exact Nat.mod_eq_of_lt (by omega)
  have e : bits .and .i64 x (m : Int) = IntKind.i64.wrap ((BitVec.ofInt 64 x &&& BitVec.ofInt 64 (m : Int)).toNat : Int) := rfl
  have l : (BitVec.ofInt 64 x &&& BitVec.ofInt 64 (m : Int)).toNat ≤ m := by
    rw [BitVec.toNat_and, h]; exact Nat.and_le_right
  rw [e, IntKind.wrap_i64]
  omega
theorem and_255 (x : Int) : 0 ≤ bits .and .i64 x 255 ∧ bits .and .i64 x 255 ≤ 255 := and_mask x 255 (by decide)

set_option maxHeartbeats 400000 in
theorem byte (b : Option Addr) (n c q : Nat) (w : World) (hn : n ≤ 4096) (h : Cur b n c w q) :
    Calls Tryz.prog 61 #[.pointer (some ⟨q, 0, none⟩)] w (Drawn (fun x => 0 ≤ x ∧ x ≤ 255) b n c w q) := by
  obtain ⟨hb, i, h, hi, hh⟩ := h
  have c2 := hh.cell 2; have f2 := hh.frozen 2
  simp at c2
  go_enter Tryz.func61, Tryz.ntmps61
  go_wp2
  generalize wrap64 (wrap64 (h * 6364136223846793005) + 1442695040888963407) = v
  have hh1 := hh.set 2 (.int .i64 v)
  have g1 := gr_set (gr_refl w (some q)) 2 (.int .i64 v)
  have hb1 := hb.kept (Nat.le_of_lt hh.lt) g1
  generalize w.setCell ⟨q, 2, none⟩ (.int .i64 v) = w1 at *
  simp at hh1
  clear c2 f2 hh hb
  have c0 := hh1.cell 0; have c1 := hh1.cell 1; have c2 := hh1.cell 2; have f1 := hh1.frozen 1
  simp at c0 c1 c2
  go_quiet (fail)
  obtain ⟨m0, m1⟩ := and_255 (bits BinOp.xor IntKind.i64 (v / 8589934592) (v / 35184372088832))
  generalize bits BinOp.and IntKind.i64 (bits BinOp.xor IntKind.i64 (v / 8589934592) (v / 35184372088832)) 255 = m at *
  go_wp2
  by_cases hlt : i < n
  · obtain ⟨x, z, rfl, hx, hz, hz0, hz1⟩ := hb1 i hlt
    go_quiet (fail)
    go_wp2
    go_quiet (fail)
    obtain ⟨k0, k1⟩ := and_255 (m + z)
    go_wp2
    go_ret
    exact ⟨_, ⟨k0, k1⟩, rfl, gr_set (gr_drewN g1 _) 1 _, hb1.kept (Nat.le_of_lt hh1.lt) (gr_set (gr_drewN (gr_refl w1 (some q)) _) 1 _), i + 1, v, by omega, (hh1.drewN _).put 1 _ rfl⟩
  · go_quiet (fail)
    go_wp2
    go_ret
    exact ⟨_, ⟨m0, m1⟩, rfl, gr_drewN (gr_drewN g1 _) _, hb1, i, v, hi, hh1⟩

theorem Drawn.next {P : Int → Prop} {b : Option Addr} {n c q : Nat} {w w1 w2 : World} {e : Ending} (g : w.grownBy w1 (some q)) (h : Drawn P b n c w1 q e w2) : Drawn P b n c w q e w2 := by
  obtain ⟨x, hx, he, hg, hc⟩ := h
  exact ⟨x, hx, he, gr_trans g hg, hc⟩

set_option maxHeartbeats 400000 in
theorem below (b : Option Addr) (n c q : Nat) (w : World) (m : Int) (hn : n ≤ 4096) (h : Cur b n c w q) (hm : 1 ≤ m) :
    Calls Tryz.prog 22 #[.pointer (some ⟨q, 0, none⟩), .int .i64 m] w (Drawn (fun x => 0 ≤ x ∧ x < m) b n c w q) := by
  have hm0 : decide (m ≤ 0) = false := by simp; omega
  by_cases hs : m ≤ 256
  · go_enter Tryz.func22, Tryz.ntmps22
    go_wp2_with fail
    refine (byte b n c q _ hn h).mono ?_
    rintro e w1 ⟨x, ⟨x0, x1⟩, rfl, g1, h1⟩
    go_wp2_with fail
    go_ret
    exact ⟨_, ⟨Int.emod_nonneg _ (by omega), Int.emod_lt_of_pos _ (by omega)⟩, rfl, g1, h1⟩
  · go_enter Tryz.func22, Tryz.ntmps22
    go_wp2_with fail
    refine (byte b n c q _ hn h).mono ?_
    rintro e w1 ⟨x, ⟨x0, x1⟩, rfl, g1, h1⟩
    go_wp2_with fail
    refine (byte b n c q _ hn h1).mono ?_
    rintro e w2 ⟨y, ⟨y0, y1⟩, rfl, g2, h2⟩
    go_wp2_with fail
    refine (byte b n c q _ hn h2).mono ?_
    rintro e w3 ⟨z, ⟨z0, z1⟩, rfl, g3, h3⟩
    go_wp2_with fail
    refine (byte b n c q _ hn h3).mono ?_
    rintro e w4 ⟨u, ⟨u0, u1⟩, rfl, g4, h4⟩
    go_wp2_with fail
    go_ret
    exact ⟨_, ⟨Int.emod_nonneg _ (by omega), Int.emod_lt_of_pos _ (by omega)⟩, rfl, gr_trans g1 (gr_trans g2 (gr_trans g3 g4)), h4⟩

/-- A draw's number is within 64 bits. -/
def In64 (x : Int) : Prop := -9223372036854775808 ≤ x ∧ x ≤ 9223372036854775807

theorem once (b : Option Addr) (n c q : Nat) (w : World) (m : Int) (hn : n ≤ 4096) (h : Cur b n c w q) (hm : 1 ≤ m) :
    Calls Tryz.prog 25 #[.pointer (some ⟨q, 0, none⟩), .int .i64 m] w fun e w' => ∃ v : Bool, e = .returned (.bool v) ∧ w.grownBy w' (some q) ∧ Cur b n c w' q := by
  go_enter Tryz.func25, Tryz.ntmps25
  go_wp2_with fail
  refine (below b n c q _ m hn h hm).mono ?_
  rintro e w1 ⟨x, ⟨x0, x1⟩, rfl, g1, h1⟩
  go_wp2_with fail
  go_ret
  exact ⟨_, rfl, g1, h1⟩

theorem from_ (b : Option Addr) (n c q : Nat) (w : World) (lo hi : Int) (hn : n ≤ 4096) (h : Cur b n c w q) (h1 : lo ≤ hi) (h2 : -4611686018427387904 ≤ lo) (h3 : hi ≤ 4611686018427387900) (h4 : hi - lo ≤ 4611686018427387900) :
    Calls Tryz.prog 31 #[.pointer (some ⟨q, 0, none⟩), .int .i64 lo, .int .i64 hi] w (Drawn (fun x => lo ≤ x ∧ x ≤ hi) b n c w q) := by
  go_enter Tryz.func31, Tryz.ntmps31
  go_wp2_with fail
  refine (below b n c q _ _ hn h (by omega)).mono ?_
  rintro e w1 ⟨x, ⟨x0, x1⟩, rfl, g1, h1⟩
  go_wp2_with fail
  go_ret
  exact ⟨_, ⟨by omega, by omega⟩, rfl, g1, h1⟩
end Go.Proofs.YtdikhdfpcipdbaaGreatDoor.cur

/- The cursor, continued: a new one; the draw of a size; the draws of chapter 1. -/
namespace Go.Proofs.YtdikhdfpcipdbaaGreatDoor.cur
open Go.ChangeShapes Go.WideShapes Go.ChangeAt Go.RowKit
open Go.Proofs.YtdikhdfpcipdbaaGreatDoor.nums Go.Proofs.YtdikhdfpcipdbaaGreatDoor.mem
set_option linter.unusedVariables false

theorem Bytes.below {w w' : World} {q n B : Nat} {b : Option Addr} (h : Bytes w q b n) (hq : q ≤ B) (hg : Below B w w') : Bytes w' q b n := by
  intro k hk
  obtain ⟨x, z, e, hx, hc, hz⟩ := h k hk
  refine ⟨x, z, e, hx, ?_, hz⟩
  rw [← hc]
  exact World.cell?_of_block (hg.block _ (by rw [block_add]; omega))
theorem Bytes.more {w : World} {q q' n : Nat} {b : Option Addr} (h : Bytes w q b n) (hq : q ≤ q') : Bytes w q' b n := by
  intro k hk
  obtain ⟨x, z, e, hx, hc⟩ := h k hk
  exact ⟨x, z, e, by omega, hc⟩
/-- What turns other blocks alone keeps a cursor. -/
theorem Cur.kept {b : Option Addr} {n c q : Nat} {w w' : World} {row : Option Nat} (h : Cur b n c w q) (hg : w.grownBy w' row) (hr : ∀ r, row = some r → q < r) : Cur b n c w' q := by
  obtain ⟨hb, i, v, hi, hh⟩ := h
  refine ⟨fun k hk => ?_, i, v, hi, hh.grown hg (fun e => by have := hr _ e.symm; omega)⟩
  obtain ⟨x, z, e, hx, hc, hz⟩ := hb k hk
  refine ⟨x, z, e, hx, ?_, hz⟩
  rw [← hc]
  have := hh.lt
  refine World.cell?_of_block (hg.block _ ?_ (fun e => ?_))
  · rw [block_add]; omega
  · have := hr _ e.symm; rw [block_add] at this; omega
theorem Cur.alloc {b : Option Addr} {n c q : Nat} {w : World} (h : Cur b n c w q) (o : Obj) : Cur b n c (w.alloc o) q := h.kept (World.grownBy_alloc w o none) (by simp)
theorem Cur.lt {b : Option Addr} {n c q : Nat} {w : World} (h : Cur b n c w q) : q < w.heap.size := by obtain ⟨_, _, _, _, hh⟩ := h; exact hh.lt

def tab7 (k : Nat) : Int := [0, 1000000, 1000001, -1000000, -1000001, 4611686018427387904, -4611686018427387904].getD k 0
theorem tab7_in (k : Nat) (hk : k < 7) : In64 (tab7 k) := by
  obtain rfl | rfl | rfl | rfl | rfl | rfl | rfl : k = 0 ∨ k = 1 ∨ k = 2 ∨ k = 3 ∨ k = 4 ∨ k = 5 ∨ k = 6 := by omega
  all_goals exact ⟨by decide, by decide⟩
theorem tab7_cell (k : Nat) (hk : k < 7) : #[Value.int .i64 0, .int .i64 1000000, .int .i64 1000001, .int .i64 (-1000000), .int .i64 (-1000001), .int .i64 4611686018427387904, .int .i64 (-4611686018427387904)][k]? = some (.int .i64 (tab7 k)) := by
  obtain rfl | rfl | rfl | rfl | rfl | rfl | rfl : k = 0 ∨ k = 1 ∨ k = 2 ∨ k = 3 ∨ k = 4 ∨ k = 5 ∨ k = 6 := by omega
  all_goals rfl

set_option maxHeartbeats 400000 in
theorem size (b : Option Addr) (n c q : Nat) (w : World) (hn : n ≤ 4096) (h : Cur b n c w q) :
    Calls Tryz.prog 32 #[.pointer (some ⟨q, 0, none⟩)] w (Drawn In64 b n c w q) := by
  go_enter Tryz.func32, Tryz.ntmps32
  go_wp2_with fail
  refine (once b n c q _ 8 hn h (by omega)).mono ?_
  rintro e w1 ⟨v, rfl, g1, h1⟩
  cases v
  · go_wp2_with fail
    refine (below b n c q _ 600 hn h1 (by omega)).mono ?_
    rintro e w2 ⟨x, ⟨x0, x1⟩, rfl, g2, h2⟩
    go_wp2_with fail
    go_ret
    exact ⟨_, ⟨by omega, by omega⟩, rfl, gr_trans g1 g2, h2⟩
  · go_wp2_with fail
    have hf := Has.fresh w1 2 #[Value.int .i64 0, .int .i64 1000000, .int .i64 1000001, .int .i64 (-1000000), .int .i64 (-1000001), .int .i64 4611686018427387904, .int .i64 (-4611686018427387904)]
    refine (below b n c q _ 7 hn (h1.alloc _) (by omega)).mono ?_
    rintro e w2 ⟨x, ⟨x0, x1⟩, rfl, g2, h2⟩
    have hf2 := hf.grown g2 (fun e => by have := h1.lt; injection e with e; omega)
    obtain ⟨k, rfl⟩ := Int.eq_ofNat_of_zero_le x0
    have hk : k < 7 := by omega
    have hc := hf2.cell k
    rw [tab7_cell k hk] at hc
    go_wp2_with fail
    go_ret
    exact ⟨_, tab7_in k hk, rfl, gr_trans g1 (gr_trans (World.grownBy_alloc _ _ _) g2), h2⟩

/-- A new cursor: it lies in a new block. -/
def Newly (b : Option Addr) (n c : Nat) (w : World) (e : Ending) (w' : World) : Prop :=
  ∃ q : Nat, e = .returned (.pointer (some ⟨q, 0, none⟩)) ∧ w.heap.size ≤ q ∧ w.grownBy w' none ∧ Cur b n c w' q

set_option maxHeartbeats 400000 in
theorem new (b : Option Addr) (n c : Nat) (w : World) (hn : n ≤ 4096) (hb : Bytes w w.heap.size b n) :
    Calls Tryz.prog 20 #[.slice b n c] w (Newly b n c w) := by
  go_enter Tryz.func20, Tryz.ntmps20
  go_wp2
  go_loop [3, 4] (fun h i => ∃ (k : Nat) (v : Int), k ≤ n ∧ h = .int .i64 v ∧ i = .int .i64 k) (fun _ i => n - (intOf i).toNat)
  case atStart => exact ⟨0, _, Nat.zero_le _, rfl, rfl⟩
  case round =>
    obtain ⟨k, v, hk, rfl, rfl⟩ := hrel
    by_cases hlt : k < n
    · obtain ⟨x, z, rfl, hx, hz, hz0, hz1⟩ := hb k hlt
      go_wp2
      go_round
      case rel => exact ⟨k + 1, _, by omega, rfl, by go_num⟩
      case measure => simp [intOf]; omega
    · go_wp2
      go_ret
      exact ⟨_, rfl, Nat.le_refl _, World.grownBy_alloc _ _ _, hb.below (Nat.le_refl _) ((Below.refl _ _).alloc (Nat.le_refl _) _), 0, v, Nat.zero_le _, Has.fresh _ _ _⟩

def Three (w : World) (e : Ending) (w' : World) : Prop :=
  ∃ x y z : Int, In64 x ∧ In64 y ∧ In64 z ∧ e = .returned (.tuple #[.int .i64 x, .int .i64 y, .int .i64 z]) ∧ w.grownBy w' none
def Two (w : World) (e : Ending) (w' : World) : Prop :=
  ∃ x y : Int, In64 x ∧ In64 y ∧ e = .returned (.tuple #[.int .i64 x, .int .i64 y]) ∧ w.grownBy w' none
def One (w : World) (e : Ending) (w' : World) : Prop :=
  ∃ x : Int, In64 x ∧ e = .returned (.int .i64 x) ∧ w.grownBy w' none

theorem bytes_of {w : World} {a : Option Addr} {len cap : Nat} {zs : List Int}
    (h : (a = none ∧ len = 0 ∧ cap = 0 ∧ zs = []) ∨ ∃ x, a = some x ∧ len ≤ cap ∧ cap ≤ maxLen ∧ zs.length = cap ∧ (∀ i, i < zs.length → w.cell? (x.add i) = some (.int .u8 (zs.getD i 0))) ∧ ∀ n ∈ zs, (Lit.int .u8 n).wf = true) :
    Bytes w w.heap.size a len := by
  intro k hk
  rcases h with ⟨_, h0, _⟩ | ⟨x, rfl, hl, hm, hz, hc, hw⟩
  · omega
  · have hcell := hc k (by omega)
    refine ⟨x, zs.getD k 0, rfl, ?_, hcell, ?_⟩
    · by_cases hb : x.block < w.heap.size
      · exact hb
      · have hn : w.heap[(x.add k).block]? = none := by rw [block_add]; exact Array.getElem?_eq_none (by omega)
        simp [World.cell?, hn] at hcell
    · have hmem : zs.getD k 0 ∈ zs := by
        have : zs.getD k 0 = zs[k]'(by omega) := by simp [List.getD, List.getElem?_eq_getElem (by omega : k < zs.length)]
        rw [this]; exact List.getElem_mem _
      have := hw _ hmem
      simpa [Lit.wf, IntKind.min, IntKind.max, IntKind.signed, IntKind.bits] using this

theorem big (a : Option Addr) (n c : Nat) (w : World) : Calls Tryz.prog 5 #[.slice a n c] w fun e w' => e = .returned (.bool (decide (4096 < n))) ∧ w = w' := by
  go_enter Tryz.func5, Tryz.ntmps5
  go_wp2
  go_ret
  exact ⟨congrArg (fun b => Ending.returned (.bool b)) (by simp; omega), rfl⟩
end Go.Proofs.YtdikhdfpcipdbaaGreatDoor.cur

/- The draws of chapter 6: whatever the bytes, readings; and nothing that was there is another. -/
namespace Go.Proofs.YtdikhdfpcipdbaaGreatDoor.rd
open Go.ChangeShapes Go.WideShapes Go.ChangeAt Go.RowKit
open Go.Proofs.YtdikhdfpcipdbaaGreatDoor.nums Go.Proofs.YtdikhdfpcipdbaaGreatDoor.mem Go.Proofs.YtdikhdfpcipdbaaGreatDoor.cur
open Go.Proofs.YtdikhdfpcipdbaaGreatDoor.tab (Ret quiet_w wpList_make_has add_off)
set_option linter.unusedVariables false

def pick3 (a b c : Int) (k : Nat) : Int := [a, b, c].getD k 0
theorem pick3_in (a b c lo hi : Int) (k : Nat) (hk : k < 3) (ha : lo ≤ a ∧ a ≤ hi) (hb : lo ≤ b ∧ b ≤ hi) (hc : lo ≤ c ∧ c ≤ hi) : lo ≤ pick3 a b c k ∧ pick3 a b c k ≤ hi := by
  obtain rfl | rfl | rfl : k = 0 ∨ k = 1 ∨ k = 2 := by omega
  · exact ha
  · exact hb
  · exact hc
theorem pick3_cell (a b c : Int) (k : Nat) (hk : k < 3) : #[Value.int .i64 a, .int .i64 b, .int .i64 c][k]? = some (.int .i64 (pick3 a b c k)) := by
  obtain rfl | rfl | rfl : k = 0 ∨ k = 1 ∨ k = 2 := by omega
  all_goals rfl

/-- A draw of a reading from the cursor in block q. -/
def DrawnR (b : Option Addr) (n c : Nat) (w : World) (q : Nat) (e : Ending) (w' : World) : Prop :=
  ∃ (v a : Int) (o : Bool), (In64 v ∧ -1 ≤ a ∧ a ≤ 1001) ∧ e = .returned (.agg #[.int .i64 v, .int .i64 a, .bool o]) ∧ w.grownBy w' (some q) ∧ Cur b n c w' q

set_option maxHeartbeats 1000000 in
theorem draw (b : Option Addr) (n c q : Nat) (w : World) (hn : n ≤ 4096) (h : Cur b n c w q) :
    Calls Tryz.prog 114 #[.pointer (some ⟨q, 0, none⟩)] w (DrawnR b n c w q) := by
  have hq := h.lt
  have a0 := Has.fresh w 42 #[.int .i64 0, .int .i64 0, .bool false]
  have g0 : w.grownBy (w.alloc (Obj.cells #[.int .i64 0, .int .i64 0, .bool false] 42)) (some q) := World.grownBy_alloc _ _ _
  go_enter Tryz.func114, Tryz.ntmps114
  go_wp2_with fail
  refine (below b n c q _ 400 hn (h.alloc _) (by omega)).mono ?_
  rintro e w1 ⟨v, ⟨x0, x1⟩, rfl, g1, h1⟩
  replace a0 := a0.grown g1 (fun e => by injection e with e; omega)
  replace g0 := gr_trans g0 g1
  go_wp2_with fail
  refine (below b n c q _ 6 hn h1 (by omega)).mono ?_
  rintro e w2 ⟨a, ⟨y0, y1⟩, rfl, g2, h2⟩
  replace a0 := a0.grown g2 (fun e => by injection e with e; omega)
  replace g0 := gr_trans g0 g2
  go_wp2_with fail
  refine (once b n c q _ 5 hn h2 (by omega)).mono ?_
  rintro e w3 ⟨o, rfl, g3, h3⟩
  replace a0 := a0.grown g3 (fun e => by injection e with e; omega)
  replace g0 := gr_trans g0 g3
  obtain ⟨c0, c1, c2, f0, f1, f2⟩ := three a0
  go_wp2_with fail
  obtain ⟨k0, k1, k2, _, _, _⟩ := three (set3 a0 (.int .i64 v) (.int .i64 a) (.bool !o))
  exact bodyPost_ret (v := .agg #[.int .i64 v, .int .i64 a, .bool !o]) (by simp [results, Tryz.results114, go_sem, k0, k1, k2]) rfl ⟨v, a, !o, ⟨⟨by omega, by omega⟩, by omega, by omega⟩, rfl, gr_new (gr_new (gr_new g0 (by omega) _ _) (by omega) _ _) (by omega) _ _, h3.kept (row := some w.heap.size) (gr_set (gr_set (gr_set (gr_refl _ _) _ _) _ _) _ _) (fun r e => by injection e with e; omega)⟩

set_option maxHeartbeats 2000000 in
theorem drawAny (b : Option Addr) (n c q : Nat) (w : World) (hn : n ≤ 4096) (h : Cur b n c w q) :
    Calls Tryz.prog 89 #[.pointer (some ⟨q, 0, none⟩)] w (DrawnR b n c w q) := by
  have hq := h.lt
  have a0 := Has.fresh w 42 #[.int .i64 0, .int .i64 0, .bool false]
  have g0 : w.grownBy (w.alloc (Obj.cells #[.int .i64 0, .int .i64 0, .bool false] 42)) (some q) := World.grownBy_alloc _ _ _
  go_enter Tryz.func89, Tryz.ntmps89
  go_wp2_with fail
  refine (draw b n c q _ hn (h.alloc _)).mono ?_
  rintro e w2 ⟨v, a, o, ⟨hv, hA⟩, rfl, g2, h2⟩
  have hlt : w.heap.size < w2.heap.size := by have := g2.size; simp at this; omega
  replace a0 := (a0.grown g2 (fun e => by injection e with e; omega)).alloc (Obj.cells #[.int .i64 v, .int .i64 a, .bool o] 42)
  have a1 := Has.fresh w2 42 #[.int .i64 v, .int .i64 a, .bool o]
  replace g0 := gr_alloc (gr_trans g0 g2) (Obj.cells #[.int .i64 v, .int .i64 a, .bool o] 42)
  have hq2 := h2.lt
  clear g2
  go_wp2_with fail
  refine (once b n c q _ 10 hn (h2.alloc _) (by omega)).mono ?_
  rintro e w3 ⟨u, rfl, g3, h3⟩
  replace a0 := a0.grown g3 (fun e => by injection e with e; omega)
  replace a1 := a1.grown g3 (fun e => by injection e with e; omega)
  replace g0 := gr_trans g0 g3
  clear g3 h2
  cases u
  · go_wp2_with fail
    have HC := h3
    refine (once b n c q _ 14 hn HC (by omega)).mono ?_
    rintro e w5 ⟨u2, rfl, g5, h5⟩
    replace a0 := a0.grown g5 (fun e => by injection e with e; omega)
    replace a1 := a1.grown g5 (fun e => by injection e with e; omega)
    replace g0 := gr_trans g0 g5
    clear g5
    cases u2
    · obtain ⟨c0, c1, c2, f0, f1, f2⟩ := three a0
      obtain ⟨d0, d1, d2, e0, e1, e2⟩ := three a1
      go_wp2_with fail
      obtain ⟨k0, k1, k2, _, _, _⟩ := three (set3 a0 (.int .i64 v) (.int .i64 a) (.bool o))
      exact bodyPost_ret (v := .agg #[.int .i64 v, .int .i64 a, .bool o]) (by simp [results, Tryz.results89, go_sem, k0, k1, k2]) rfl ⟨v, a, o, ⟨hv, hA.1, hA.2⟩, rfl, gr_new (gr_new (gr_new g0 (by omega) _ _) (by omega) _ _) (by omega) _ _, h5.kept (row := some w.heap.size) (gr_set (gr_set (gr_set (gr_refl _ _) _ _) _ _) _ _) (fun r e => by injection e with e; omega)⟩
    · go_wp2_with fail
      refine (cur.size b n c q _ hn h5).mono ?_
      rintro e w6 ⟨x, hx, rfl, g6, h6⟩
      replace a0 := (a0.grown g6 (fun e => by injection e with e; omega)).set_other (g' := w2.heap.size) (by omega) 0 (.int .i64 x)
      replace a1 := a1.grown g6 (fun e => by injection e with e; omega)
      replace g0 := gr_new (gr_trans g0 g6) (g := w2.heap.size) (by omega) 0 (.int .i64 x)
      obtain ⟨d0, d1, d2, e0, e1, e2⟩ := three a1
      obtain ⟨c0, c1, c2, f0, f1, f2⟩ := three a0
      have b1 := a1.put 0 (.int .i64 x) rfl
      obtain ⟨m0, m1, m2, p0, p1, p2⟩ := three b1
      have hcur : Cur b n c (w6.setCell ⟨w2.heap.size, 0, none⟩ (.int .i64 x)) q := h6.kept (row := some w2.heap.size) (gr_set (gr_refl _ _) _ _) (fun r e => by injection e with e; omega)
      go_wp2_with fail
      obtain ⟨k0, k1, k2, _, _, _⟩ := three (set3 a0 (.int .i64 x) (.int .i64 a) (.bool o))
      exact bodyPost_ret (v := .agg #[.int .i64 x, .int .i64 a, .bool o]) (by simp [results, Tryz.results89, go_sem, k0, k1, k2]) rfl ⟨x, a, o, ⟨hx, hA.1, hA.2⟩, rfl, gr_new (gr_new (gr_new g0 (by omega) _ _) (by omega) _ _) (by omega) _ _, hcur.kept (row := some w.heap.size) (gr_set (gr_set (gr_set (gr_refl _ _) _ _) _ _) _ _) (fun r e => by injection e with e; omega)⟩
  · have hf := Has.fresh w3 2 #[Value.int .i64 (-1), .int .i64 1000, .int .i64 1001]
    have hz := h3.lt
    have hz1 := a1.lt
    go_wp2_with fail
    refine (below b n c q _ 3 hn (h3.alloc _) (by omega)).mono ?_
    rintro e w4 ⟨x, ⟨y0, y1⟩, rfl, g4, h4⟩
    replace hf := hf.grown g4 (fun e => by injection e with e; omega)
    replace a0 := (a0.alloc _).grown g4 (fun e => by injection e with e; omega)
    replace a1 := (a1.alloc _).grown g4 (fun e => by injection e with e; omega)
    replace g0 := gr_trans (gr_alloc g0 _) g4
    obtain ⟨k, rfl⟩ := Int.eq_ofNat_of_zero_le y0
    have hk : k < 3 := by omega
    have hc := hf.cell k
    rw [pick3_cell _ _ _ k hk] at hc
    obtain ⟨d0, d1, d2, e0, e1, e2⟩ := three a1
    have hP := pick3_in (-1) 1000 1001 (-1) 1001 k hk ⟨by omega, by omega⟩ ⟨by omega, by omega⟩ ⟨by omega, by omega⟩
    generalize pick3 (-1) 1000 1001 k = P at hc hP
    clear hA g4 h3
    have hA := hP
    go_wp2_with fail
    have HC : Cur b n c (w4.setCell ⟨w2.heap.size, 1, none⟩ (.int .i64 P)) q := h4.kept (row := some w2.heap.size) (gr_set (gr_refl _ _) _ _) (fun r e => by injection e with e; omega)
    replace a0 := a0.set_other (g' := w2.heap.size) (by omega) 1 (.int .i64 P)
    replace a1 := a1.put 1 (.int .i64 P) rfl
    replace g0 := gr_new g0 (g := w2.heap.size) (by omega) 1 (.int .i64 P)
    clear hf hc d0 d1 d2 e0 e1 e2 h4
    refine (once b n c q _ 14 hn HC (by omega)).mono ?_
    rintro e w5 ⟨u2, rfl, g5, h5⟩
    replace a0 := a0.grown g5 (fun e => by injection e with e; omega)
    replace a1 := a1.grown g5 (fun e => by injection e with e; omega)
    replace g0 := gr_trans g0 g5
    clear g5
    cases u2
    · obtain ⟨c0, c1, c2, f0, f1, f2⟩ := three a0
      obtain ⟨d0, d1, d2, e0, e1, e2⟩ := three a1
      go_wp2_with fail
      obtain ⟨k0, k1, k2, _, _, _⟩ := three (set3 a0 (.int .i64 v) (.int .i64 P) (.bool o))
      exact bodyPost_ret (v := .agg #[.int .i64 v, .int .i64 P, .bool o]) (by simp [results, Tryz.results89, go_sem, k0, k1, k2]) rfl ⟨v, P, o, ⟨hv, hA.1, hA.2⟩, rfl, gr_new (gr_new (gr_new g0 (by omega) _ _) (by omega) _ _) (by omega) _ _, h5.kept (row := some w.heap.size) (gr_set (gr_set (gr_set (gr_refl _ _) _ _) _ _) _ _) (fun r e => by injection e with e; omega)⟩
    · go_wp2_with fail
      refine (cur.size b n c q _ hn h5).mono ?_
      rintro e w6 ⟨x, hx, rfl, g6, h6⟩
      replace a0 := (a0.grown g6 (fun e => by injection e with e; omega)).set_other (g' := w2.heap.size) (by omega) 0 (.int .i64 x)
      replace a1 := a1.grown g6 (fun e => by injection e with e; omega)
      replace g0 := gr_new (gr_trans g0 g6) (g := w2.heap.size) (by omega) 0 (.int .i64 x)
      obtain ⟨d0, d1, d2, e0, e1, e2⟩ := three a1
      obtain ⟨c0, c1, c2, f0, f1, f2⟩ := three a0
      have b1 := a1.put 0 (.int .i64 x) rfl
      obtain ⟨m0, m1, m2, p0, p1, p2⟩ := three b1
      have hcur : Cur b n c (w6.setCell ⟨w2.heap.size, 0, none⟩ (.int .i64 x)) q := h6.kept (row := some w2.heap.size) (gr_set (gr_refl _ _) _ _) (fun r e => by injection e with e; omega)
      go_wp2_with fail
      obtain ⟨k0, k1, k2, _, _, _⟩ := three (set3 a0 (.int .i64 x) (.int .i64 P) (.bool o))
      exact bodyPost_ret (v := .agg #[.int .i64 x, .int .i64 P, .bool o]) (by simp [results, Tryz.results89, go_sem, k0, k1, k2]) rfl ⟨x, P, o, ⟨hx, hA.1, hA.2⟩, rfl, gr_new (gr_new (gr_new g0 (by omega) _ _) (by omega) _ _) (by omega) _ _, hcur.kept (row := some w.heap.size) (gr_set (gr_set (gr_set (gr_refl _ _) _ _) _ _) _ _) (fun r e => by injection e with e; omega)⟩
end Go.Proofs.YtdikhdfpcipdbaaGreatDoor.rd

