/- Chapter 15 on plain senses: what is fed stays right; what is heard twice is heard once; who hears nothing is deaf. One Kind more: what is told, and that it is so in memory. -/
import Derived.Test.YtjbgcgblamijdaaGreatDoorG21
import Derived.Test.YtjbgcgblamijdaaGreatDoorG29
/- Chapter 15 on plain senses: what is fed stays right; what is heard twice is heard once; who hears nothing is deaf. -/
namespace Go.Proofs.YtjbgcgblamijdaaGreatDoor.se
open Go.Proofs.YtjbgcgblamijdaaGreatDoor.nums
open Go.Proofs.YtjbgcgblamijdaaGreatDoor.rd (R okR ageR zR rx ra ro okR_iff fresh)
open Go.Proofs.YtjbgcgblamijdaaGreatDoor.il (nth nth_lt)
open Go.Proofs.YtjbgcgblamijdaaGreatDoor.txt (okF okF_parts)
open Go.Proofs.YtjbgcgblamijdaaGreatDoor.stm (Fr heard hfold hfold_zero hst hfold_ok newer)
set_option linter.unusedVariables false

theorem inb_iff {x l h : Int} : inb x l h = true ↔ l ≤ x ∧ x ≤ h := by unfold inb; simp
theorem okR_age {r : R} (h : okR r = true) : okR (ageR r) = true := by
  obtain ⟨v, a, o⟩ := r
  obtain ⟨h1, h2, h3⟩ := okR_iff.1 h
  show okR (v, min 1000 (a + 1), o) = true
  exact okR_iff.2 ⟨h1, by omega, by omega⟩
theorem okR_at {l : List R} (h : l.all okR = true) {k : Nat} (hk : k < l.length) : okR (rx l k, ra l k, ro l k) = true := rd.all_at h hk
theorem okR_map {l : List R} (h : l.all okR = true) : (l.map ageR).all okR = true := by
  rw [List.all_eq_true] at h ⊢
  intro x hx
  obtain ⟨y, hy, rfl⟩ := List.mem_map.1 hx
  exact okR_age (h y hy)
theorem okR_tk {lo hi rt x : Int} {r : R} (hr : okR r = true) (h : sane.okG lo hi rt = true) : okR (tk lo hi rt r x) = true := by
  obtain ⟨v, a, o⟩ := r
  unfold tk
  cases hs : sane.saneB lo hi rt v a x o
  · rw [sane.taken_old h hr hs]; exact okR_age hr
  · rw [sane.taken_got h hr hs]
    obtain ⟨h1, h2, h3, _⟩ := sane.okG_iff.1 h
    have := sane.sane_in hs
    exact okR_iff.2 ⟨by omega, by omega, by omega⟩
theorem gt_ok {r : R} {x : Int} (hr : okR r = true) : gt r x = (btw x 0 1000, 0, true) := by
  obtain ⟨v, a, o⟩ := r
  have h1 : 0 ≤ btw x 0 1000 ∧ btw x 0 1000 ≤ 1000 := by unfold btw; omega
  exact rd.got_ok hr (inb_iff.2 ⟨by omega, by omega⟩)
theorem okR_gt {r : R} {x : Int} (hr : okR r = true) : okR (gt r x) = true := by
  have h1 : 0 ≤ btw x 0 1000 ∧ btw x 0 1000 ≤ 1000 := by unfold btw; omega
  rw [gt_ok hr]
  exact okR_iff.2 ⟨by omega, by omega, by omega⟩
theorem ok_part {f : R → Int → R} (hf : ∀ r x, okR r = true → okR (f r x) = true) {l : List R} (hl : l.all okR = true) (o : Option Fr) : (part f l o).all okR = true := by
  cases o with
  | none => exact okR_map hl
  | some v =>
    rw [List.all_eq_true]
    intro x hx
    obtain ⟨i, hi, rfl⟩ := List.mem_map.1 hx
    exact hf _ _ (okR_at hl (by simpa using hi))
theorem hd_ok {s : S} {fs : List Fr} {k : Nat} {f : Fr} (h : hd s fs k = some f) : okF f.1 f.2.1 f.2.2 = true ∧ f.1 = (k : Int) + 1 := hfold_ok _ _ fs fs.length f h
theorem hd_seq {s : S} {fs : List Fr} {k : Nat} {f : Fr} (h : hd s fs k = some f) : 0 ≤ f.2.1 ∧ f.2.1 ≤ 99 := by
  have := okF_parts (hd_ok h).1
  exact ⟨this.2.2.1, this.2.2.2.1⟩
theorem okQ_iff {n : Int} : okQ n = true ↔ -1 ≤ n ∧ n ≤ 99 := inb_iff
theorem okQ_at {l : List Int} (h : l.all okQ = true) {k : Nat} (hk : k < l.length) : okQ (nth l k) = true := List.all_eq_true.1 h _ (il.nth_mem hk)
theorem okQ_sq {s : S} {fs : List Fr} (h : Ok s) {k : Nat} (hk : k < 4) : okQ (sqOf s fs k) = true := by
  unfold sqOf
  split
  · exact okQ_at h.sq (by rw [h.sq4]; exact hk)
  · rename_i f hf
    have := hd_seq hf
    exact okQ_iff.2 ⟨by omega, by omega⟩
theorem wn_ok {s : S} {fs : List Fr} (h : Ok s) : inb (wnOf s fs) 0 2 = true := by
  unfold wnOf
  split
  · exact h.wn
  · split
    · rename_i h1; exact h1
    · exact h.wn
theorem okG_speed : sane.okG 0 400 20 = true := by decide
theorem okG_height : sane.okG 0 2000 60 = true := by decide
theorem ok_upto {s : S} {fs : List Fr} {k : Nat} (h : Ok s) : Ok (upto s fs k) where
  sp := ok_part (fun r x hr => okR_tk hr okG_speed) h.sp _
  sp3 := by rw [← h.sp3]; exact part_len _ _ _
  he := ok_part (fun r x hr => okR_tk hr okG_height) h.he _
  he2 := by rw [← h.he2]; exact part_len _ _ _
  fa := ok_part (fun r x hr => okR_gt hr) h.fa _
  fa6 := by rw [← h.fa6]; exact part_len _ _ _
  wn := by
    show inb (if 3 < k then wnOf s fs else s.wn) 0 2 = true
    split
    · exact wn_ok h
    · exact h.wn
  sq := by
    have q : ∀ j, j < 4 → okQ (nth s.sq j) = true := fun j hj => okQ_at h.sq (by rw [h.sq4]; exact hj)
    show List.all [_, _, _, _] okQ = true
    rw [List.all_eq_true]
    intro x hx
    simp only [List.mem_cons, List.not_mem_nil, or_false] at hx
    rcases hx with rfl | rfl | rfl | rfl
    · split
      · exact okQ_sq h (by omega)
      · exact q 0 (by omega)
    · split
      · exact okQ_sq h (by omega)
      · exact q 1 (by omega)
    · split
      · exact okQ_sq h (by omega)
      · exact q 2 (by omega)
    · split
      · exact okQ_sq h (by omega)
      · exact q 3 (by omega)
  sq4 := rfl
theorem ok_fed {s : S} {fs : List Fr} (h : ok s = true) : ok (fed s fs) = true := by
  rw [fed_ok h]; exact ok_iff.2 (ok_upto (ok_iff.1 h))

/-- Nothing is heard of nothing. -/
theorem heard_nil (k q : Int) : heard k q [] = none := rfl
theorem hd_nil (s : S) (k : Nat) : hd s [] k = none := rfl
theorem four_of {l : List Int} (h : l.length = 4) : l = [nth l 0, nth l 1, nth l 2, nth l 3] := by
  match l, h with
  | [a, b, c, d], _ => rfl
/-- Where nothing new is heard all is aged. -/
def agedS (s : S) : S := ⟨s.sp.map ageR, s.he.map ageR, s.fa.map ageR, s.wn, s.ar, s.sq⟩
theorem upto_none {s : S} {fs : List Fr} (h4 : s.sq.length = 4) (h : ∀ k, k < 4 → hd s fs k = none) : upto s fs 4 = agedS s := by
  have e0 := h 0 (by omega)
  have e1 := h 1 (by omega)
  have e2 := h 2 (by omega)
  have e3 := h 3 (by omega)
  simp only [upto, sqOf, wnOf, arOf, e0, e1, e2, e3, part, agedS]
  have q := (four_of h4).symm
  simp [q]
theorem fed_nil {s : S} (h : ok s = true) : fed s [] = agedS s := by
  rw [fed_ok h]; exact upto_none (ok_iff.1 h).sq4 (fun k _ => hd_nil s k)

/-- A number is not newer than itself. -/
theorem not_newer (q : Int) : newer q q = false := by
  unfold newer inb
  by_cases h : 0 ≤ q ∧ q ≤ 99
  · have : (q - q + 100) % 100 = 0 := by omega
    rw [this]; simp; omega
  · simp; omega
theorem heard_one (k q : Int) (f : Fr) : heard k q [f] = if (decide (f.1 = k) && (okF f.1 f.2.1 f.2.2 && newer q f.2.1)) = true then some f else none := by
  show (hst k (q, none) f).2 = _
  unfold hst
  split <;> rfl
theorem sq_upto {s : S} {fs : List Fr} {k : Nat} (hk : k < 4) : nth (upto s fs 4).sq k = sqOf s fs k := by
  rcases (show k = 0 ∨ k = 1 ∨ k = 2 ∨ k = 3 by omega) with rfl | rfl | rfl | rfl <;> rfl
/-- Of one frame nothing is heard a second time. -/
theorem again_none {s : S} {f : Fr} {k : Nat} (hk : k < 4) : hd (upto s [f] 4) [f] k = none := by
  unfold hd
  rw [sq_upto hk, heard_one]
  unfold sqOf hd
  rw [heard_one]
  cases h : (decide (f.1 = (k : Int) + 1) && (okF f.1 f.2.1 f.2.2 && newer (nth s.sq k) f.2.1))
  · simp only [Bool.false_eq_true, if_false]
    rw [h]; rfl
  · simp only [if_true]
    rw [not_newer]; simp
theorem again {s : S} {fs : List Fr} (h : ok s = true) (hl : fs.length ≤ 1) : fed (fed s fs) fs = fed (fed s fs) [] := by
  match fs, hl with
  | [], _ => rfl
  | [f], _ =>
    rw [fed_nil (ok_fed h), fed_ok (ok_fed h)]
    rw [fed_ok h]
    exact upto_none rfl (fun k hk => again_none hk)

/-- All are at least so old. -/
def Old (n : Int) (l : List R) : Prop := ∀ r ∈ l, n ≤ r.2.1
theorem Old.zero {l : List R} (h : l.all okR = true) : Old 0 l := fun r hr => by
  obtain ⟨v, a, o⟩ := r
  exact (okR_iff.1 (List.all_eq_true.1 h _ hr)).2.1
theorem Old.age {n : Int} {l : List R} (h : Old n l) (hn : n < 1000) : Old (n + 1) (l.map ageR) := fun r hr => by
  obtain ⟨s, hs, rfl⟩ := List.mem_map.1 hr
  have := h s hs
  show n + 1 ≤ min 1000 (s.2.1 + 1)
  omega
theorem Old.deaf {l : List R} (h : Old 4 l) : vt.frv l 3 = [] := by
  unfold vt.frv
  rw [List.map_eq_nil_iff, List.filter_eq_nil_iff]
  intro r hr
  have := h r hr
  unfold fresh
  simp only [Bool.and_eq_true, decide_eq_true_eq]
  omega
theorem Old.three {l : List R} (h : Old 4 l) : vt.voteThree l 3 = (0, false) := by
  unfold vt.voteThree vt.voters
  rw [h.deaf]
  split <;> rfl
theorem Old.two {l : List R} (h : Old 4 l) : vt.voteTwo l 3 10 = (0, false) := by
  unfold vt.voteTwo vt.voters
  rw [h.deaf]
  split
  · split <;> rfl
  · rfl
end Go.Proofs.YtjbgcgblamijdaaGreatDoor.se

/- One Kind more: what is told, and that it is so in memory. -/
namespace Go.Proofs.YtjbgcgblamijdaaGreatDoor.se
open Go.ChangeShapes Go.WideShapes Go.ChangeAt Go.RowKit
open Go.Proofs.YtjbgcgblamijdaaGreatDoor.nums Go.Proofs.YtjbgcgblamijdaaGreatDoor.mem
open Go.Proofs.YtjbgcgblamijdaaGreatDoor.tab (Ret)
open Go.Proofs.YtjbgcgblamijdaaGreatDoor.rd (R okR ageR zR rx ra ro OwnR)
open Go.Proofs.YtjbgcgblamijdaaGreatDoor.il (nth Ints Own)
open Go.Proofs.YtjbgcgblamijdaaGreatDoor.stm (Fr heard)
set_option linter.unusedVariables false

/-- What was said of Kind k + 1, laid over c. -/
def toldS (s c : S) (k : Nat) (vs : List Int) : S := match k with
  | 0 => ⟨each (tk 0 400 20) s.sp vs, c.he, c.fa, c.wn, c.ar, c.sq⟩
  | 1 => ⟨c.sp, each (tk 0 2000 60) s.he vs, c.fa, c.wn, c.ar, c.sq⟩
  | 2 => ⟨c.sp, c.he, each gt s.fa vs, c.wn, c.ar, c.sq⟩
  | _ => ⟨c.sp, c.he, c.fa, if inb (nth vs 0) 0 2 = true then nth vs 0 else c.wn, !decide (nth vs 1 = 0), c.sq⟩
/-- With that number as the last one heard of Kind k + 1. -/
def withSeq (c : S) (k : Nat) (q : Int) : S := ⟨c.sp, c.he, c.fa, c.wn, c.ar, c.sq.set k q⟩
theorem upto_skip {s : S} {fs : List Fr} {k : Nat} (hk : k < 4) (h : hd s fs k = none) : upto s fs (k + 1) = upto s fs k := by
  rcases (show k = 0 ∨ k = 1 ∨ k = 2 ∨ k = 3 by omega) with rfl | rfl | rfl | rfl <;> simp [upto, sqOf, wnOf, arOf, h]
theorem upto_tell {s : S} {fs : List Fr} {k : Nat} {f : Fr} (hk : k < 4) (h : hd s fs k = some f) : upto s fs (k + 1) = withSeq (toldS s (upto s fs k) k f.2.2) k f.2.1 := by
  rcases (show k = 0 ∨ k = 1 ∨ k = 2 ∨ k = 3 by omega) with rfl | rfl | rfl | rfl <;> simp [upto, sqOf, wnOf, arOf, h, withSeq, toldS, part]
theorem upto_zero {s : S} {fs : List Fr} (h4 : s.sq.length = 4) : upto s fs 0 = ⟨s.sp.map ageR, s.he.map ageR, s.fa.map ageR, s.wn, s.ar, s.sq⟩ := by
  have q := (four_of h4).symm
  simp [upto, part, q]
theorem len_upto (s : S) (fs : List Fr) (k : Nat) : (upto s fs k).sp.length = s.sp.length ∧ (upto s fs k).he.length = s.he.length ∧ (upto s fs k).fa.length = s.fa.length ∧ (upto s fs k).sq.length = 4 := ⟨part_len _ _ _, part_len _ _ _, part_len _ _ _, rfl⟩
theorem hd_len {s : S} {fs : List Fr} {k : Nat} {f : Fr} (h : hd s fs k = some f) : (f.2.2.length : Int) = txt.many ((k : Int) + 1) := by
  obtain ⟨h1, h2⟩ := hd_ok h
  rw [← h2]; exact (txt.okF_parts h1).2.2.2.2.1
def shapeV (k : Nat) (a : Option Addr) (cap : Nat) (vs : List Int) : Value := match k with
  | 0 => .iface 120 (.slice a vs.length cap)
  | 1 => .iface 122 (.slice a vs.length cap)
  | 2 => .iface 123 (.slice a vs.length cap)
  | _ => .iface 126 (.agg #[.int .i64 (nth vs 0), .bool (!decide (nth vs 1 = 0))])
theorem shape_call {k : Nat} (hk : k < 4) (sq : Int) (a : Option Addr) (cap : Nat) (vs : List Int) (w : World) (h : Ints w a vs) (hl : (vs.length : Int) = txt.many ((k : Int) + 1)) : Calls Tryz.prog 40 #[frm.fr ((k : Int) + 1) sq a vs.length cap] w (Ret (shapeV k a cap vs) w) := by
  rcases (show k = 0 ∨ k = 1 ∨ k = 2 ∨ k = 3 by omega) with rfl | rfl | rfl | rfl
  · exact shape1 sq a vs.length cap w
  · exact shape2 sq a vs.length cap w
  · exact shape3 sq a vs.length cap w
  · exact shape4 sq a cap vs w h (by have : txt.many (((3 : Nat) : Int) + 1) = 2 := by decide
                                     omega)
/-- The value of senses with these lists' places, as long as those of s. -/
abbrev sval (s c : S) (p : P) : Value := .agg #[.slice p.a1 s.sp.length p.c1, .slice p.a2 s.he.length p.c2, .slice p.a3 s.fa.length p.c3, .int .i64 c.wn, .bool c.ar, .slice p.a4 s.sq.length p.c4]
abbrev scs (s c : S) (p : P) : Array Value := #[.slice p.a1 s.sp.length p.c1, .slice p.a2 s.he.length p.c2, .slice p.a3 s.fa.length p.c3, .int .i64 c.wn, .bool c.ar, .slice p.a4 s.sq.length p.c4]
/-- These senses come back in their own memory. -/
def Told (z : Nat) (s c : S) (v : Value) (w : World) : Prop := ∃ p, v = sval s c p ∧ OwnS z w c p
theorem Told.stab {z : Nat} {s c : S} {v : Value} {w w' : World} (h : Told z s c v w) (hg : w.grownBy w' none) : Told z s c v w' := by
  obtain ⟨p, h1, h2⟩ := h
  exact ⟨p, h1, h2.kept hg⟩
theorem told_call {k : Nat} (hk : k < 4) (z : Nat) (s c : S) (pc p : P) (b : Option Addr) (cap2 : Nat) (vs : List Int) (n f q : Addr) (w : World) (ho : Ok s) (h : Arg w s p) (hv : Ints w b vs) (hl : (vs.length : Int) = txt.many ((k : Int) + 1))
    (he : sane.ErrB w n f q) (ht : sane.ErrT w) (hr : Rgs w) (O : OwnS z w c pc) (hz : z ≤ w.heap.size) :
    Calls Tryz.prog 39 #[sval s c pc, sv s p, shapeV k b cap2 vs] w fun e w' => ∃ v, e = .returned v ∧ w.grownBy w' none ∧ Told z s (toldS s c k vs) v w' := by
  have ho' := ho
  obtain ⟨p1, l1, p2, l2, p3, l3, _, _, l4⟩ := ho
  rcases (show k = 0 ∨ k = 1 ∨ k = 2 ∨ k = 3 by omega) with rfl | rfl | rfl | rfl
  · have hlen : vs.length = s.sp.length := by have : txt.many (((0 : Nat) : Int) + 1) = 3 := by decide
                                              omega
    refine (told1 ⟨s.sp, s.he, s.fa, c.wn, c.ar, s.sq⟩ s pc p b cap2 vs n f q w h.sp hv (by omega) hlen he ht hr).mono ?_
    rintro e w' ⟨x, j, rfl, g, o, bb⟩
    have K := O.kept g
    exact ⟨_, rfl, g, ⟨x, j, pc.a2, pc.c2, pc.a3, pc.c3, pc.a4, pc.c4⟩, rfl, o, K.he, K.fa, K.sq, (fun y e => Nat.le_trans hz (bb y e)), K.b2, K.b3, K.b4, (fun y u ey eu => by have := bb y ey; have := O.he.lt eu; omega), (fun y u ey eu => by have := bb y ey; have := O.fa.lt eu; omega), K.d23⟩
  · have hlen : vs.length = s.he.length := by have : txt.many (((1 : Nat) : Int) + 1) = 2 := by decide
                                              omega
    refine (told2 ⟨s.sp, s.he, s.fa, c.wn, c.ar, s.sq⟩ s pc p b cap2 vs n f q w h.he hv (by omega) hlen he ht hr).mono ?_
    rintro e w' ⟨x, j, rfl, g, o, bb⟩
    have K := O.kept g
    exact ⟨_, rfl, g, ⟨pc.a1, pc.c1, x, j, pc.a3, pc.c3, pc.a4, pc.c4⟩, rfl, K.sp, o, K.fa, K.sq, K.b1, (fun y e => Nat.le_trans hz (bb y e)), K.b3, K.b4, (fun y u ey eu => by have := bb u eu; have := O.sp.lt ey; omega), K.d13, (fun y u ey eu => by have := bb y ey; have := O.fa.lt eu; omega)⟩
  · have hlen : vs.length = s.fa.length := by have : txt.many (((2 : Nat) : Int) + 1) = 6 := by decide
                                              omega
    refine (told3 ⟨s.sp, s.he, s.fa, c.wn, c.ar, s.sq⟩ s pc p b cap2 vs w h.fa hv (by omega) hlen).mono ?_
    rintro e w' ⟨x, j, rfl, g, o, bb⟩
    have K := O.kept g
    exact ⟨_, rfl, g, ⟨pc.a1, pc.c1, pc.a2, pc.c2, x, j, pc.a4, pc.c4⟩, rfl, K.sp, K.he, o, K.sq, K.b1, K.b2, (fun y e => Nat.le_trans hz (bb y e)), K.b4, K.d12, (fun y u ey eu => by have := bb u eu; have := O.sp.lt ey; omega), (fun y u ey eu => by have := bb u eu; have := O.he.lt ey; omega)⟩
  · refine (told4 ⟨s.sp, s.he, s.fa, c.wn, c.ar, s.sq⟩ s pc p (nth vs 0) (!decide (nth vs 1 = 0)) w).mono ?_
    rintro e w' ⟨rfl, g⟩
    have K := O.kept g
    exact ⟨_, rfl, g, pc, rfl, K.sp, K.he, K.fa, K.sq, K.b1, K.b2, K.b3, K.b4, K.d12, K.d13, K.d23⟩
/-- Its own blocks are none of senses' own. -/
theorem OwnS.nbox {b : Nat} {w : World} {s : S} {p : P} (h : OwnS b w s p) {g : Nat} {t : TypeId} {cs : Array Value} (k : Has w g t cs) (ht : t ≠ 42) (ht' : t ≠ 2) : ∀ c, blkS s p c → c ≠ g := by
  have key : ∀ {a : Option Addr} {l : List R}, OwnR w a l → ∀ x : Addr, a = some x → x.block ≠ g := by
    intro a l o x e eg
    rcases o with ⟨o, _⟩ | ⟨g', cs', o, hc, _⟩
    · rw [o] at e; cases e
    · rw [o] at e; injection e with e; subst e
      have e2 : g' = g := eg
      subst e2
      have := hc.symm.trans k
      simp at this
      exact ht this.2.symm
  rintro c (⟨x, e, rfl⟩ | ⟨x, e, rfl⟩ | ⟨x, e, rfl⟩ | e) eg
  · exact key h.sp x e eg
  · exact key h.he x e eg
  · exact key h.fa x e eg
  · subst eg; exact h.sq.ne k ht' e.symm
theorem OwnS.boxed {b : Nat} {w : World} {s : S} {p : P} (h : OwnS b w s p) {g : Nat} {x0 x1 x2 x3 x4 x5 : Value} (k : Has w g 27 #[x0, x1, x2, x3, x4, x5]) (u0 u1 u2 u3 u4 u5 : Value) :
    OwnS b ((((((w.setCell ⟨g, 0, none⟩ u0).setCell ⟨g, 1, none⟩ u1).setCell ⟨g, 2, none⟩ u2).setCell ⟨g, 3, none⟩ u3).setCell ⟨g, 4, none⟩ u4).setCell ⟨g, 5, none⟩ u5) s p := by
  have n1 : (27 : TypeId) ≠ 42 := by decide
  have n2 : (27 : TypeId) ≠ 2 := by decide
  have h0 := h.set g 0 u0 (h.nbox k n1 n2)
  have k0 := k.put 0 u0 rfl
  have h1 := h0.set g 1 u1 (h0.nbox k0 n1 n2)
  have k1 := k0.put 1 u1 rfl
  have h2 := h1.set g 2 u2 (h1.nbox k1 n1 n2)
  have k2 := k1.put 2 u2 rfl
  have h3 := h2.set g 3 u3 (h2.nbox k2 n1 n2)
  have k3 := k2.put 3 u3 rfl
  have h4 := h3.set g 4 u4 (h3.nbox k3 n1 n2)
  have k4 := k3.put 4 u4 rfl
  exact h4.set g 5 u5 (h4.nbox k4 n1 n2)
/-- A number is laid into the last list. -/
theorem OwnS.seq {b : Nat} {w : World} {c : S} {p : P} (h : OwnS b w c p) {k : Nat} (hk : k < c.sq.length) (v : Int) : ∃ (g o : Nat), p.a4 = some ⟨g, o, none⟩ ∧ g < w.heap.size ∧ b ≤ g ∧ w.cell? ⟨g, o + k, none⟩ = some (.int .i64 (nth c.sq k)) ∧ w.frozen? ⟨g, o + k, none⟩ = false ∧ blkS c p g ∧ OwnS b (w.setCell ⟨g, o + k, none⟩ (.int .i64 v)) (withSeq c k v) p := by
  have hne : c.sq ≠ [] := fun e => by rw [e] at hk; simp at hk
  have hne2 : c.sq.set k v ≠ [] := fun e => by
    have := congrArg List.length e
    simp at this
    exact hne this
  rcases h.sq with e | ⟨g, o, cs, ea, hc, hj⟩
  · exact absurd e hne
  · have hb : il.blk p.a4 c.sq = some g := by rw [ea]; exact il.blk_some hne
    have hb2 : il.blk p.a4 (c.sq.set k v) = some g := by rw [ea]; exact il.blk_some hne2
    have n1 : ∀ {a : Option Addr} {l : List R}, OwnR w a l → ∀ x : Addr, a = some x → some x.block ≠ some g := fun o x e => by have := OwnR.int o h.sq e; rwa [hb] at this
    have S1 := gr_set (gr_refl w (some g)) (o + k) (.int .i64 v)
    refine ⟨g, o, ea, hc.lt, h.b4 g hb, (hc.cell _).trans (hj k hk), hc.frozen _, Or.inr (Or.inr (Or.inr hb)), h.sp.grown S1 (n1 h.sp), h.he.grown S1 (n1 h.he), h.fa.grown S1 (n1 h.fa), Or.inr ⟨g, o, _, ea, hc.set _ _, fun j hj' => ?_⟩, h.b1, h.b2, h.b3, (fun x e => by
      have e2 : il.blk p.a4 (c.sq.set k v) = some x := e
      rw [hb2] at e2; injection e2 with e2; subst e2; exact h.b4 g hb), h.d12, h.d13, h.d23⟩
    have hj2 : j < c.sq.length := by simpa [withSeq] using hj'
    have hsz : o + k < cs.size := (Array.getElem?_eq_some_iff.1 (hj k hk)).1
    show _ = some (Value.int IntKind.i64 (nth (c.sq.set k v) j))
    by_cases e : j = k
    · subst e
      rw [Array.getElem?_setIfInBounds_self_of_lt hsz]
      simp [nth, List.getD, hk]
    · rw [Array.getElem?_setIfInBounds_ne (by omega), hj j hj2]
      simp [nth, List.getD, Ne.symm e]
theorem toldS_sq (s c : S) (k : Nat) (vs : List Int) : (toldS s c k vs).sq = c.sq := by unfold toldS; split <;> rfl
end Go.Proofs.YtjbgcgblamijdaaGreatDoor.se

