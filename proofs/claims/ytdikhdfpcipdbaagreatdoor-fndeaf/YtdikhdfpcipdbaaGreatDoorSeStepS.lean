/- One Kind more, of the model. -/
import Derived.Test.YtdikhdfpcipdbaaGreatDoorSeStep
import Derived.Test.YtdikhdfpcipdbaaGreatDoorSeTakeS
namespace Go.Proofs.YtdikhdfpcipdbaaGreatDoor.se
open Go.ChangeShapes Go.WideShapes Go.ChangeAt Go.RowKit
open Go.Proofs.YtdikhdfpcipdbaaGreatDoor.nums Go.Proofs.YtdikhdfpcipdbaaGreatDoor.mem
open Go.Proofs.YtdikhdfpcipdbaaGreatDoor.tab (Ret)
open Go.Proofs.YtdikhdfpcipdbaaGreatDoor.rd (R okR ageR zR rx ra ro OwnR set3at)
open Go.Proofs.YtdikhdfpcipdbaaGreatDoor.il (nth Ints Own)
open Go.Proofs.YtdikhdfpcipdbaaGreatDoor.stm (Fr heard)
set_option linter.unusedVariables false

/-- Where k Kinds have been heard; what is not yet heard is as it was. -/
def uptoS (s : S) (fs : List Fr) (k : Nat) : S where
  sp := if 0 < k then part (tk 0 400 20) s.sp (hd s fs 0) else s.sp
  he := if 1 < k then part (tk 0 2000 60) s.he (hd s fs 1) else s.he
  fa := if 2 < k then part gt s.fa (hd s fs 2) else s.fa
  wn := if 3 < k then wnOf s fs else s.wn
  ar := if 3 < k then arOf s fs else s.ar
  sq := [if 0 < k then sqOf s fs 0 else nth s.sq 0, if 1 < k then sqOf s fs 1 else nth s.sq 1, if 2 < k then sqOf s fs 2 else nth s.sq 2, if 3 < k then sqOf s fs 3 else nth s.sq 3]
theorem uptoS_four (s : S) (fs : List Fr) : uptoS s fs 4 = upto s fs 4 := by simp [uptoS, upto]
theorem uptoS_zero {s : S} {fs : List Fr} (h4 : s.sq.length = 4) : uptoS s fs 0 = s := by
  have q := (four_of h4).symm
  simp [uptoS, q]
/-- Kind k + 1 is not heard. -/
def quietS (s c : S) (k : Nat) : S := match k with
  | 0 => ⟨s.sp.map ageR, c.he, c.fa, c.wn, c.ar, c.sq⟩
  | 1 => ⟨c.sp, s.he.map ageR, c.fa, c.wn, c.ar, c.sq⟩
  | 2 => ⟨c.sp, c.he, s.fa.map ageR, c.wn, c.ar, c.sq⟩
  | _ => c
theorem uptoS_skip {s : S} {fs : List Fr} {k : Nat} (hk : k < 4) (h : hd s fs k = none) : uptoS s fs (k + 1) = quietS s (uptoS s fs k) k := by
  rcases (show k = 0 ∨ k = 1 ∨ k = 2 ∨ k = 3 by omega) with rfl | rfl | rfl | rfl <;> simp [uptoS, sqOf, wnOf, arOf, h, quietS, part]
theorem uptoS_tell {s : S} {fs : List Fr} {k : Nat} {f : Fr} (hk : k < 4) (h : hd s fs k = some f) : uptoS s fs (k + 1) = withSeq (toldS s (uptoS s fs k) k f.2.2) k f.2.1 := by
  rcases (show k = 0 ∨ k = 1 ∨ k = 2 ∨ k = 3 by omega) with rfl | rfl | rfl | rfl <;> simp [uptoS, sqOf, wnOf, arOf, h, withSeq, toldS, part]
theorem len_uptoS (s : S) (fs : List Fr) (k : Nat) : (uptoS s fs k).sp.length = s.sp.length ∧ (uptoS s fs k).he.length = s.he.length ∧ (uptoS s fs k).fa.length = s.fa.length ∧ (uptoS s fs k).sq.length = 4 := by
  refine ⟨?_, ?_, ?_, rfl⟩
  · show (if 0 < k then part (tk 0 400 20) s.sp (hd s fs 0) else s.sp).length = _
    split
    · exact part_len _ _ _
    · rfl
  · show (if 1 < k then part (tk 0 2000 60) s.he (hd s fs 1) else s.he).length = _
    split
    · exact part_len _ _ _
    · rfl
  · show (if 2 < k then part gt s.fa (hd s fs 2) else s.fa).length = _
    split
    · exact part_len _ _ _
    · rfl
theorem uptoS_fa (s : S) (fs : List Fr) : (uptoS s fs 2).fa = s.fa := by simp [uptoS]
/-- The first k fans' readings are new. -/
def faK (s : S) (vs : List Int) (k : Nat) : List R := (List.range s.fa.length).map fun j => if j < k then gt (rx s.fa j, ra s.fa j, ro s.fa j) (nth vs j) else s.fa.getD j zR
theorem faK_len (s : S) (vs : List Int) (k : Nat) : (faK s vs k).length = s.fa.length := by simp [faK]
theorem faK_zero (s : S) (vs : List Int) : faK s vs 0 = s.fa := by
  apply List.ext_getElem
  · exact faK_len _ _ _
  · intro i h1 h2
    simp [faK, List.getD, h2]
theorem faK_all (s : S) (vs : List Int) : faK s vs s.fa.length = each gt s.fa vs := by
  apply List.ext_getElem
  · rw [faK_len, each_len]
  · intro i h1 h2
    have : i < s.fa.length := by rwa [faK_len] at h1
    simp [faK, each, this]
theorem faK_set {s : S} {vs : List Int} {k : Nat} (hk : k < s.fa.length) : (faK s vs k).set k (gt (rx s.fa k, ra s.fa k, ro s.fa k) (nth vs k)) = faK s vs (k + 1) := by
  apply List.ext_getElem
  · simp [faK]
  · intro i h1 h2
    have hi : i < s.fa.length := by rwa [faK_len] at h2
    rw [List.getElem_set]
    by_cases e : k = i
    · subst e; simp [faK]
    · rw [if_neg e]
      simp only [faK, List.getElem_map, List.getElem_range]
      by_cases h : i < k
      · rw [if_pos h, if_pos (by omega)]
      · rw [if_neg h, if_neg (by omega)]
theorem put_sp {z : Nat} {w w' : World} {c : S} {pc : P} {x : Option Addr} {l : List R} (O : OwnS z w c pc) (hz : z ≤ w.heap.size) (N : NewR w x l w') (j : Nat) : OwnS z w' ⟨l, c.he, c.fa, c.wn, c.ar, c.sq⟩ ⟨x, j, pc.a2, pc.c2, pc.a3, pc.c3, pc.a4, pc.c4⟩ := by
  obtain ⟨g, o, bb⟩ := N
  have K := O.kept g
  exact ⟨o, K.he, K.fa, K.sq, (fun y e => Nat.le_trans hz (bb y e)), K.b2, K.b3, K.b4, (fun y u ey eu => by have := bb y ey; have := O.he.lt eu; omega), (fun y u ey eu => by have := bb y ey; have := O.fa.lt eu; omega), K.d23⟩
theorem put_he {z : Nat} {w w' : World} {c : S} {pc : P} {x : Option Addr} {l : List R} (O : OwnS z w c pc) (hz : z ≤ w.heap.size) (N : NewR w x l w') (j : Nat) : OwnS z w' ⟨c.sp, l, c.fa, c.wn, c.ar, c.sq⟩ ⟨pc.a1, pc.c1, x, j, pc.a3, pc.c3, pc.a4, pc.c4⟩ := by
  obtain ⟨g, o, bb⟩ := N
  have K := O.kept g
  exact ⟨K.sp, o, K.fa, K.sq, K.b1, (fun y e => Nat.le_trans hz (bb y e)), K.b3, K.b4, (fun y u ey eu => by have := bb u eu; have := O.sp.lt ey; omega), K.d13, (fun y u ey eu => by have := bb y ey; have := O.fa.lt eu; omega)⟩
theorem put_fa {z : Nat} {w w' : World} {c : S} {pc : P} {x : Option Addr} {l : List R} (O : OwnS z w c pc) (hz : z ≤ w.heap.size) (N : NewR w x l w') (j : Nat) : OwnS z w' ⟨c.sp, c.he, l, c.wn, c.ar, c.sq⟩ ⟨pc.a1, pc.c1, pc.a2, pc.c2, x, j, pc.a4, pc.c4⟩ := by
  obtain ⟨g, o, bb⟩ := N
  have K := O.kept g
  exact ⟨K.sp, K.he, o, K.sq, K.b1, K.b2, (fun y e => Nat.le_trans hz (bb y e)), K.b4, K.d12, (fun y u ey eu => by have := bb u eu; have := O.sp.lt ey; omega), (fun y u ey eu => by have := bb u eu; have := O.he.lt ey; omega)⟩
theorem put_wa {z : Nat} {w : World} {c : S} {pc : P} (O : OwnS z w c pc) (wn : Int) (ar : Bool) : OwnS z w ⟨c.sp, c.he, c.fa, wn, ar, c.sq⟩ pc :=
  ⟨O.sp, O.he, O.fa, O.sq, O.b1, O.b2, O.b3, O.b4, O.d12, O.d13, O.d23⟩
/-- A field of the box is laid: the lists are as they were. -/
theorem OwnS.box1 {z : Nat} {w : World} {c : S} {p : P} (O : OwnS z w c p) {g : Nat} {cs : Array Value} (k : Has w g 27 cs) (i : Nat) (u : Value) : OwnS z (w.setCell ⟨g, i, none⟩ u) c p := O.set g i u (O.nbox k (by decide) (by decide))
/-- A fan's reading is laid. -/
theorem OwnS.fan {b : Nat} {w : World} {c : S} {p : P} (h : OwnS b w c p) {k : Nat} (hk : k < c.fa.length) (r : R) : ∃ (g : Nat) (v0 v1 v2 : Value), p.a3 = some ⟨g, 0, none⟩ ∧ g < w.heap.size ∧ b ≤ g ∧ w.cell? ⟨g, k * 3, none⟩ = some v0 ∧ w.cell? ⟨g, k * 3 + 1, none⟩ = some v1 ∧ w.cell? ⟨g, k * 3 + 2, none⟩ = some v2 ∧
    w.frozen? ⟨g, k * 3, none⟩ = false ∧ w.frozen? ⟨g, k * 3 + 1, none⟩ = false ∧ w.frozen? ⟨g, k * 3 + 2, none⟩ = false ∧ blkS c p g ∧
    OwnS b (((w.setCell ⟨g, k * 3, none⟩ (.int .i64 r.1)).setCell ⟨g, k * 3 + 1, none⟩ (.int .i64 r.2.1)).setCell ⟨g, k * 3 + 2, none⟩ (.bool r.2.2)) ⟨c.sp, c.he, c.fa.set k r, c.wn, c.ar, c.sq⟩ p := by
  rcases h.fa with ⟨_, e⟩ | ⟨g, cs, ea, hc, hj⟩
  · rw [e] at hk; simp at hk
  · have S1 := gr_set (gr_set (gr_set (gr_refl w (some g)) (k * 3) (.int .i64 r.1)) (k * 3 + 1) (.int .i64 r.2.1)) (k * 3 + 2) (.bool r.2.2)
    obtain ⟨e0, e1, e2⟩ := hj k hk
    have hsz : k * 3 + 2 < cs.size := (Array.getElem?_eq_some_iff.1 e2).1
    obtain ⟨u0, u1, u2, _, u4⟩ := set3at (A := cs) (n := k + 1) (k := k) (u := .int .i64 r.1) (v := .int .i64 r.2.1) (s := .bool r.2.2) (by omega) (by omega)
    refine ⟨g, _, _, _, ea, hc.lt, h.b3 _ ea, (hc.cell _).trans e0, (hc.cell _).trans e1, (hc.cell _).trans e2, hc.frozen _, hc.frozen _, hc.frozen _, Or.inr (Or.inr (Or.inl ⟨_, ea, rfl⟩)), h.sp.grown S1 (fun x e => by have := h.d13 x _ e ea; simpa using this), h.he.grown S1 (fun x e => by have := h.d23 x _ e ea; simpa using this), Or.inr ⟨g, _, ea, ((hc.set _ _).set _ _).set _ _, fun j hj' => ?_⟩, h.sq.grown S1 (fun x e => by
      have := OwnR.int h.fa h.sq ea
      rw [e] at this
      exact fun e2 => this e2.symm), h.b1, h.b2, h.b3, h.b4, h.d12, h.d13, h.d23⟩
    have hj2 : j < c.fa.length := by simpa using hj'
    by_cases e : j = k
    · subst e
      have q : (c.fa.set j r).getD j zR = r := by simp [List.getD, hk]
      show _ = some (Value.int .i64 ((c.fa.set j r).getD j zR).1) ∧ _ = some (Value.int .i64 ((c.fa.set j r).getD j zR).2.1) ∧ _ = some (Value.bool ((c.fa.set j r).getD j zR).2.2)
      rw [q]
      exact ⟨u0, u1, u2⟩
    · obtain ⟨y0, y1, y2⟩ := u4 j e
      obtain ⟨z0, z1, z2⟩ := hj j hj2
      have q : (c.fa.set k r).getD j zR = c.fa.getD j zR := by simp [List.getD, Ne.symm e]
      show _ = some (Value.int .i64 ((c.fa.set k r).getD j zR).1) ∧ _ = some (Value.int .i64 ((c.fa.set k r).getD j zR).2.1) ∧ _ = some (Value.bool ((c.fa.set k r).getD j zR).2.2)
      rw [q]
      exact ⟨y0.trans z0, y1.trans z1, y2.trans z2⟩
theorem takeYes_call (lo hi rt kd sq : Int) (a b : Option Addr) (cap cap2 : Nat) (l : List R) (vs : List Int) (w : World) (h : rd.Arg w a l) (hv : Ints w b vs) (hl : l.length ≤ 1048576) (hlen : vs.length = l.length) :
    Calls Tryz.prog 41 #[.agg #[.int .i64 lo, .int .i64 hi, .int .i64 rt], .slice a l.length cap, frm.fr kd sq b vs.length cap2, .bool true] w fun e w' => ∃ x k, e = .returned (.slice x l.length k) ∧ NewR w x (each (tk lo hi rt) l vs) w' := by
  refine (takeYes lo hi rt kd sq a b cap cap2 l vs w h hv hl hlen).mono ?_
  rintro e w' ⟨x, k, rfl, h1, h2, h3⟩
  exact ⟨x, k, by rw [each_len], h1, h2, h3⟩
theorem takeNo_call (lo hi rt : Int) (a : Option Addr) (cap : Nat) (l : List R) (w : World) (h : rd.Arg w a l) (hl : l.length ≤ 1048576) (ho : l.all okR = true) :
    Calls Tryz.prog 41 #[.agg #[.int .i64 lo, .int .i64 hi, .int .i64 rt], .slice a l.length cap, frm.fr 0 0 none 0 0, .bool false] w fun e w' => ∃ x k, e = .returned (.slice x l.length k) ∧ NewR w x (l.map ageR) w' := by
  refine (takeNo lo hi rt a cap l w h hl ho).mono ?_
  rintro e w' ⟨x, k, rfl, h1, h2, h3⟩
  exact ⟨x, k, by rw [List.length_map], h1, h2, h3⟩
theorem agedO_call (a : Option Addr) (cap : Nat) (l : List R) (w : World) (h : rd.Arg w a l) (hl : l.length ≤ 1048576) (ho : l.all okR = true) :
    Calls Tryz.prog 42 #[.slice a l.length cap] w fun e w' => ∃ x k, e = .returned (.slice x l.length k) ∧ NewR w x (l.map ageR) w' := by
  refine (specAgedO a cap l w h hl ho).mono ?_
  rintro e w' ⟨x, k, rfl, h1, h2, h3⟩
  exact ⟨x, k, by rw [List.length_map], h1, h2, h3⟩
end Go.Proofs.YtdikhdfpcipdbaaGreatDoor.se
