/- One Kind more: what is told, and that it is so in memory. -/
import Derived.Test.YtdikhdfpcipdbaaGreatDoorSeTold
import Derived.Test.YtdikhdfpcipdbaaGreatDoorSeBox
import Derived.Test.YtdikhdfpcipdbaaGreatDoorSeLaw
namespace Go.Proofs.YtdikhdfpcipdbaaGreatDoor.se
open Go.ChangeShapes Go.WideShapes Go.ChangeAt Go.RowKit
open Go.Proofs.YtdikhdfpcipdbaaGreatDoor.nums Go.Proofs.YtdikhdfpcipdbaaGreatDoor.mem
open Go.Proofs.YtdikhdfpcipdbaaGreatDoor.tab (Ret)
open Go.Proofs.YtdikhdfpcipdbaaGreatDoor.rd (R okR ageR zR rx ra ro OwnR)
open Go.Proofs.YtdikhdfpcipdbaaGreatDoor.il (nth Ints Own)
open Go.Proofs.YtdikhdfpcipdbaaGreatDoor.stm (Fr heard)
set_option linter.unusedVariables false

/-- What was said of Kind k + 1, laid over c. -/
def toldS (s c : S) (k : Nat) (vs : List Int) : S := match k with
  | 0 => ⟨each (tk 0 400 20) s.sp vs, c.he, c.fa, c.wn, c.ar, c.sq⟩
  | 1 => ⟨c.sp, each (tk 0 2000 60) s.he vs, c.fa, c.wn, c.ar, c.sq⟩
  | 2 => ⟨c.sp, c.he, each gt s.fa vs, c.wn, c.ar, c.sq⟩
  | _ => ⟨c.sp, c.he, c.fa, if inb (nth vs 0) 0 2 = true then nth vs 0 else c.wn, !decide (nth vs 1 = 0), c.sq⟩
/-- With that number as the last one heard of Kind k + 1. -/
def withSeq (c : S) (k : Nat) (q : Int) : S := ⟨c.sp, c.he, c.fa, c.wn, c.ar, c.sq.set k q⟩
theorem upto_skip {s : S} {fs : List Fr} {k : Nat} (hk : k < 4) (h : hd s fs k = none) : upto s fs (k + 1) = upto s fs k := by
  rcases (show k = 0 ∨ k = 1 ∨ k = 2 ∨ k = 3 by omega) with rfl | rfl | rfl | rfl <;> simp [upto, sqOf, wnOf, arOf, h]
theorem upto_tell {s : S} {fs : List Fr} {k : Nat} {f : Fr} (hk : k < 4) (h : hd s fs k = some f) : upto s fs (k + 1) = withSeq (toldS s (upto s fs k) k f.2.2) k f.2.1 := by
  rcases (show k = 0 ∨ k = 1 ∨ k = 2 ∨ k = 3 by omega) with rfl | rfl | rfl | rfl <;> simp [upto, sqOf, wnOf, arOf, h, withSeq, toldS, part]
theorem upto_zero {s : S} {fs : List Fr} (h4 : s.sq.length = 4) : upto s fs 0 = ⟨s.sp.map ageR, s.he.map ageR, s.fa.map ageR, s.wn, s.ar, s.sq⟩ := by
  have q := (four_of h4).symm
  simp [upto, part, q]
theorem len_upto (s : S) (fs : List Fr) (k : Nat) : (upto s fs k).sp.length = s.sp.length ∧ (upto s fs k).he.length = s.he.length ∧ (upto s fs k).fa.length = s.fa.length ∧ (upto s fs k).sq.length = 4 := ⟨part_len _ _ _, part_len _ _ _, part_len _ _ _, rfl⟩
theorem hd_len {s : S} {fs : List Fr} {k : Nat} {f : Fr} (h : hd s fs k = some f) : (f.2.2.length : Int) = txt.many ((k : Int) + 1) := by
  obtain ⟨h1, h2⟩ := hd_ok h
  rw [← h2]; exact (txt.okF_parts h1).2.2.2.2.1
def shapeV (k : Nat) (a : Option Addr) (cap : Nat) (vs : List Int) : Value := match k with
  | 0 => .iface 100 (.slice a vs.length cap)
  | 1 => .iface 102 (.slice a vs.length cap)
  | 2 => .iface 103 (.slice a vs.length cap)
  | _ => .iface 106 (.agg #[.int .i64 (nth vs 0), .bool (!decide (nth vs 1 = 0))])
theorem shape_call {k : Nat} (hk : k < 4) (sq : Int) (a : Option Addr) (cap : Nat) (vs : List Int) (w : World) (h : Ints w a vs) (hl : (vs.length : Int) = txt.many ((k : Int) + 1)) : Calls Tryz.prog 30 #[frm.fr ((k : Int) + 1) sq a vs.length cap] w (Ret (shapeV k a cap vs) w) := by
  rcases (show k = 0 ∨ k = 1 ∨ k = 2 ∨ k = 3 by omega) with rfl | rfl | rfl | rfl
  · exact shape1 sq a vs.length cap w
  · exact shape2 sq a vs.length cap w
  · exact shape3 sq a vs.length cap w
  · exact shape4 sq a cap vs w h (by have : txt.many (((3 : Nat) : Int) + 1) = 2 := by decide
                                     omega)
/-- The value of senses with these lists' places, as long as those of s. -/
abbrev sval (s c : S) (p : P) : Value := .agg #[.slice p.a1 s.sp.length p.c1, .slice p.a2 s.he.length p.c2, .slice p.a3 s.fa.length p.c3, .int .i64 c.wn, .bool c.ar, .slice p.a4 s.sq.length p.c4]
abbrev scs (s c : S) (p : P) : Array Value := #[.slice p.a1 s.sp.length p.c1, .slice p.a2 s.he.length p.c2, .slice p.a3 s.fa.length p.c3, .int .i64 c.wn, .bool c.ar, .slice p.a4 s.sq.length p.c4]
/-- These senses come back in their own memory. -/
def Told (z : Nat) (s c : S) (v : Value) (w : World) : Prop := ∃ p, v = sval s c p ∧ OwnS z w c p
theorem Told.stab {z : Nat} {s c : S} {v : Value} {w w' : World} (h : Told z s c v w) (hg : w.grownBy w' none) : Told z s c v w' := by
  obtain ⟨p, h1, h2⟩ := h
  exact ⟨p, h1, h2.kept hg⟩
theorem told_call {k : Nat} (hk : k < 4) (z : Nat) (s c : S) (pc p : P) (b : Option Addr) (cap2 : Nat) (vs : List Int) (n f q : Addr) (w : World) (ho : Ok s) (h : Arg w s p) (hv : Ints w b vs) (hl : (vs.length : Int) = txt.many ((k : Int) + 1))
    (he : sane.ErrB w n f q) (ht : sane.ErrT w) (hr : Rgs w) (O : OwnS z w c pc) (hz : z ≤ w.heap.size) :
    Calls Tryz.prog 29 #[sval s c pc, sv s p, shapeV k b cap2 vs] w fun e w' => ∃ v, e = .returned v ∧ w.grownBy w' none ∧ Told z s (toldS s c k vs) v w' := by
  have ho' := ho
  obtain ⟨p1, l1, p2, l2, p3, l3, _, _, l4⟩ := ho
  rcases (show k = 0 ∨ k = 1 ∨ k = 2 ∨ k = 3 by omega) with rfl | rfl | rfl | rfl
  · have hlen : vs.length = s.sp.length := by have : txt.many (((0 : Nat) : Int) + 1) = 3 := by decide
                                              omega
    refine (told1 ⟨s.sp, s.he, s.fa, c.wn, c.ar, s.sq⟩ s pc p b cap2 vs n f q w h.sp hv (by omega) hlen he ht hr).mono ?_
    rintro e w' ⟨x, j, rfl, g, o, bb⟩
    have K := O.kept g
    exact ⟨_, rfl, g, ⟨x, j, pc.a2, pc.c2, pc.a3, pc.c3, pc.a4, pc.c4⟩, rfl, o, K.he, K.fa, K.sq, (fun y e => Nat.le_trans hz (bb y e)), K.b2, K.b3, K.b4, (fun y u ey eu => by have := bb y ey; have := O.he.lt eu; omega), (fun y u ey eu => by have := bb y ey; have := O.fa.lt eu; omega), K.d23⟩
  · have hlen : vs.length = s.he.length := by have : txt.many (((1 : Nat) : Int) + 1) = 2 := by decide
                                              omega
    refine (told2 ⟨s.sp, s.he, s.fa, c.wn, c.ar, s.sq⟩ s pc p b cap2 vs n f q w h.he hv (by omega) hlen he ht hr).mono ?_
    rintro e w' ⟨x, j, rfl, g, o, bb⟩
    have K := O.kept g
    exact ⟨_, rfl, g, ⟨pc.a1, pc.c1, x, j, pc.a3, pc.c3, pc.a4, pc.c4⟩, rfl, K.sp, o, K.fa, K.sq, K.b1, (fun y e => Nat.le_trans hz (bb y e)), K.b3, K.b4, (fun y u ey eu => by have := bb u eu; have := O.sp.lt ey; omega), K.d13, (fun y u ey eu => by have := bb y ey; have := O.fa.lt eu; omega)⟩
  · have hlen : vs.length = s.fa.length := by have : txt.many (((2 : Nat) : Int) + 1) = 6 := by decide
                                              omega
    refine (told3 ⟨s.sp, s.he, s.fa, c.wn, c.ar, s.sq⟩ s pc p b cap2 vs w h.fa hv (by omega) hlen).mono ?_
    rintro e w' ⟨x, j, rfl, g, o, bb⟩
    have K := O.kept g
    exact ⟨_, rfl, g, ⟨pc.a1, pc.c1, pc.a2, pc.c2, x, j, pc.a4, pc.c4⟩, rfl, K.sp, K.he, o, K.sq, K.b1, K.b2, (fun y e => Nat.le_trans hz (bb y e)), K.b4, K.d12, (fun y u ey eu => by have := bb u eu; have := O.sp.lt ey; omega), (fun y u ey eu => by have := bb u eu; have := O.he.lt ey; omega)⟩
  · refine (told4 ⟨s.sp, s.he, s.fa, c.wn, c.ar, s.sq⟩ s pc p (nth vs 0) (!decide (nth vs 1 = 0)) w).mono ?_
    rintro e w' ⟨rfl, g⟩
    have K := O.kept g
    exact ⟨_, rfl, g, pc, rfl, K.sp, K.he, K.fa, K.sq, K.b1, K.b2, K.b3, K.b4, K.d12, K.d13, K.d23⟩
/-- A number is laid into the last list. -/
theorem OwnS.seq {b : Nat} {w : World} {c : S} {p : P} (h : OwnS b w c p) {k : Nat} (hk : k < c.sq.length) (v : Int) : ∃ (g o : Nat), p.a4 = some ⟨g, o, none⟩ ∧ g < w.heap.size ∧ b ≤ g ∧ w.cell? ⟨g, o + k, none⟩ = some (.int .i64 (nth c.sq k)) ∧ w.frozen? ⟨g, o + k, none⟩ = false ∧ blkS c p g ∧ OwnS b (w.setCell ⟨g, o + k, none⟩ (.int .i64 v)) (withSeq c k v) p := by
  have hne : c.sq ≠ [] := fun e => by rw [e] at hk; simp at hk
  have hne2 : c.sq.set k v ≠ [] := fun e => by
    have := congrArg List.length e
    simp at this
    exact hne this
  rcases h.sq with e | ⟨g, o, cs, ea, hc, hj⟩
  · exact absurd e hne
  · have hb : il.blk p.a4 c.sq = some g := by rw [ea]; exact il.blk_some hne
    have hb2 : il.blk p.a4 (c.sq.set k v) = some g := by rw [ea]; exact il.blk_some hne2
    have n1 : ∀ {a : Option Addr} {l : List R}, OwnR w a l → ∀ x : Addr, a = some x → some x.block ≠ some g := fun o x e => by have := OwnR.int o h.sq e; rwa [hb] at this
    have S1 := gr_set (gr_refl w (some g)) (o + k) (.int .i64 v)
    refine ⟨g, o, ea, hc.lt, h.b4 g hb, (hc.cell _).trans (hj k hk), hc.frozen _, Or.inr (Or.inr (Or.inr hb)), h.sp.grown S1 (n1 h.sp), h.he.grown S1 (n1 h.he), h.fa.grown S1 (n1 h.fa), Or.inr ⟨g, o, _, ea, hc.set _ _, fun j hj' => ?_⟩, h.b1, h.b2, h.b3, (fun x e => by
      have e2 : il.blk p.a4 (c.sq.set k v) = some x := e
      rw [hb2] at e2; injection e2 with e2; subst e2; exact h.b4 g hb), h.d12, h.d13, h.d23⟩
    have hj2 : j < c.sq.length := by simpa [withSeq] using hj'
    have hsz : o + k < cs.size := (Array.getElem?_eq_some_iff.1 (hj k hk)).1
    show _ = some (Value.int IntKind.i64 (nth (c.sq.set k v) j))
    by_cases e : j = k
    · subst e
      rw [Array.getElem?_setIfInBounds_self_of_lt hsz]
      simp [nth, List.getD, hk]
    · rw [Array.getElem?_setIfInBounds_ne (by omega), hj j hj2]
      simp [nth, List.getD, Ne.symm e]
theorem toldS_sq (s c : S) (k : Nat) (vs : List Int) : (toldS s c k vs).sq = c.sq := by unfold toldS; split <;> rfl
end Go.Proofs.YtdikhdfpcipdbaaGreatDoor.se
