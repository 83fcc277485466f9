/- Chapter 18 of the model: WorldOk at a right world, NewWorld, l18Copy. Chapter 18 of the model: a new world; worlds copied. Chapter 18 of the model: the outs, but 0 of those that are broken. Chapter 18 of the model: what a world says. -/
import Derived.Test.YtdikhdfpcipdbaaGreatDoorG32
import Derived.Test.YtdikhdfpcipdbaaGreatDoorG41
import Derived.Test.YtdikhdfpcipdbaaGreatDoorG36
import Derived.Test.YtdikhdfpcipdbaaGreatDoorG10
import Derived.Test.YtdikhdfpcipdbaaGreatDoorG23
import Derived.Test.YtdikhdfpcipdbaaGreatDoorG6
import Derived.Test.YtdikhdfpcipdbaaGreatDoorG13
import Derived.Test.YtdikhdfpcipdbaaGreatDoorG24
import Derived.Deep.SlicePairs
/- Chapter 18 of the model: WorldOk at a right world, NewWorld, l18Copy. -/
namespace Go.Proofs.YtdikhdfpcipdbaaGreatDoor.wd
open Go.ChangeShapes Go.WideShapes Go.ChangeAt Go.RowKit
open Go.Proofs.YtdikhdfpcipdbaaGreatDoor.nums Go.Proofs.YtdikhdfpcipdbaaGreatDoor.mem
open Go.Proofs.YtdikhdfpcipdbaaGreatDoor.tab (Ret)
open Go.Proofs.YtdikhdfpcipdbaaGreatDoor.br (B P OkB Arg OwnB str bv)
set_option linter.unusedVariables false

theorem body_of {x : V} (h : OkW x) : bo.bodyOk x.he x.ri x.sp = true := bo.ok_iff.2 ⟨h.he, h.ri, h.sp⟩
theorem inb_of {x l h : Int} (k : l ≤ x ∧ x ≤ h) : inb x l h = true := by unfold inb; simp; omega

set_option maxRecDepth 100000 in
set_option maxHeartbeats 4000000 in
theorem specWorldOk (x : V) (p : P) (w : World) (h : Arg w x.br p) (ho : OkW x) : Calls Tryz.prog 109 #[wv x p] w (Ret (.bool true) w) := by
  have K := Has.fresh w 92 (cs23 x p)
  have G := World.grownBy_alloc w (Obj.cells (cs23 x p) 92) none
  have q1 := fun W k => br.specBrainOk x.br p W k ho.br
  have q2 := fun W => bo.specBodyOk x.he x.ri x.sp W
  rw [body_of ho] at q2
  have q3 := fun W => fix.specIn x.bk 0 63 W
  rw [inb_of ho.bk] at q3
  have q4 := fun W => fix.specIn x.li (-1) 2 W
  rw [inb_of ho.li] at q4
  have q5 := fun W => fix.specSizeOk x.ly W
  rw [inb_of ho.ly] at q5
  have q6 := fun W => md.specWant x.wa W
  rw [inb_of ho.wa] at q6
  have q7 := fun W => fix.specIn x.sq 0 99 W
  rw [inb_of ho.sq] at q7
  have q8 := fun W => fix.specIn x.lo 0 100 W
  rw [inb_of ho.lo] at q8
  clear ho
  obtain ⟨c0, c1, c2, c3, c4, c5, c6, c7, c8, c9, c10, c11, c12, c13, c14, c15, c16, c17, c18, c19, c20, c21, c22⟩ := cells K
  go_enter Tryz.func109, Tryz.ntmps109
  go_wp2_with fail
  refine (q1 _ (h.kept G)).mono ?_
  rintro e w1 ⟨rfl, r⟩
  replace K := K.grown r (by simp)
  replace G := gr_trans G r
  clear c0 c1 c2 c3 c4 c5 c6 c7 c8 c9 c10 c11 c12 c13 c14 c15 c16 c17 c18 c19 c20 c21 c22 r q1
  obtain ⟨c0, c1, c2, c3, c4, c5, c6, c7, c8, c9, c10, c11, c12, c13, c14, c15, c16, c17, c18, c19, c20, c21, c22⟩ := cells K
  go_wp2_with fail
  refine (q2 _).mono ?_
  rintro e w2 ⟨rfl, r⟩
  replace K := K.grown r (by simp)
  replace G := gr_trans G r
  clear c0 c1 c2 c3 c4 c5 c6 c7 c8 c9 c10 c11 c12 c13 c14 c15 c16 c17 c18 c19 c20 c21 c22 r q2
  obtain ⟨c0, c1, c2, c3, c4, c5, c6, c7, c8, c9, c10, c11, c12, c13, c14, c15, c16, c17, c18, c19, c20, c21, c22⟩ := cells K
  go_wp2_with fail
  refine (q3 _).mono ?_
  rintro e w3 ⟨rfl, rfl⟩
  go_wp2_with fail
  refine (q4 _).mono ?_
  rintro e w3 ⟨rfl, rfl⟩
  go_wp2_with fail
  refine (q5 _).mono ?_
  rintro e w3 ⟨rfl, rfl⟩
  go_wp2_with fail
  refine (q6 _).mono ?_
  rintro e w3 ⟨rfl, rfl⟩
  go_wp2_with fail
  refine (q7 _).mono ?_
  rintro e w3 ⟨rfl, rfl⟩
  go_wp2_with fail
  refine (q8 _).mono ?_
  rintro e w3 ⟨rfl, rfl⟩
  go_wp2_with fail
  go_ret
  exact ⟨rfl, G⟩
end Go.Proofs.YtdikhdfpcipdbaaGreatDoor.wd

/- Chapter 18 of the model: a new world; worlds copied. -/
namespace Go.Proofs.YtdikhdfpcipdbaaGreatDoor.wd
open Go.ChangeShapes Go.WideShapes Go.ChangeAt Go.RowKit
open Go.Proofs.YtdikhdfpcipdbaaGreatDoor.nums Go.Proofs.YtdikhdfpcipdbaaGreatDoor.mem
open Go.Proofs.YtdikhdfpcipdbaaGreatDoor.tab (Ret)
open Go.Proofs.YtdikhdfpcipdbaaGreatDoor.br (B P OkB Arg OwnB str bv)
set_option linter.unusedVariables false

/-- So much comes back, of its own memory. -/
def RetX (x : V) (w : World) (e : Ending) (w' : World) : Prop := ∃ p, e = .returned (wv x p) ∧ w.grownBy w' none ∧ OwnB w.heap.size w' x.br p
def newV : V := ⟨br.newB, 0, 0, 0, 0, -1, 0, 0, false, 0, 0⟩
theorem ok_newV : OkW newV := ⟨br.ok_newB, ⟨Int.le_refl 0, by decide⟩, by decide, ⟨Int.le_refl 0, by decide⟩, ⟨Int.le_refl 0, by decide⟩, by decide, by decide, ⟨Int.le_refl 0, by decide⟩, ⟨Int.le_refl 0, by decide⟩, ⟨Int.le_refl 0, by decide⟩⟩
set_option maxRecDepth 100000 in
set_option maxHeartbeats 1000000 in
theorem specNewWorld (w : World) : Calls Tryz.prog 86 #[] w (RetX newV w) := by
  have cN := fun W => br.specNewBrain W
  unfold newV
  generalize br.newB = B0 at *
  have k0 := Has.fresh w 92 z23
  have G := World.grownBy_alloc w (Obj.cells z23 92) none
  go_enter Tryz.func86, Tryz.ntmps86
  go_wp2_with fail
  have hsz : w.heap.size < (w.alloc (Obj.cells z23 92)).heap.size := by simp
  generalize w.alloc (Obj.cells z23 92) = wb at *
  refine (cN _).mono ?_
  rintro e w1 ⟨p, rfl, r, O⟩
  replace G := gr_trans G r
  replace k0 := k0.grown r (by simp)
  go_wp2_with (refine st_row rfl _ _ rfl rfl w.heap.size ⟨B0, 0, 0, 0, 0, -1, 0, 0, false, 0, 0⟩ p z23 rfl rfl k0 rfl ?_; intro w2 c2 K2)
  replace O := O.low c2 hsz
  replace G := gr_past G c2 (Nat.le_refl _)
  refine bodyPost_ret (v := wv ⟨B0, 0, 0, 0, 0, -1, 0, 0, false, 0, 0⟩ p) ?_ rfl ⟨p, rfl, G, O.below (Nat.le_of_lt hsz)⟩
  exact rs_row rfl _ _ w.heap.size ⟨B0, 0, 0, 0, 0, -1, 0, 0, false, 0, 0⟩ p rfl K2

set_option maxRecDepth 100000 in
set_option maxHeartbeats 4000000 in
theorem specCopyW (x : V) (p : P) (w : World) (h : Arg w x.br p) (ho : OkW x) : Calls Tryz.prog 110 #[wv x p] w (RetX x w) := by
  have K := (Has.fresh w 92 (cs23 x p)).alloc (Obj.cells z23 92)
  have R := Has.fresh (w.alloc (Obj.cells (cs23 x p) 92)) 92 z23
  have G := gr_alloc (World.grownBy_alloc w (Obj.cells (cs23 x p) 92) none) (Obj.cells z23 92)
  simp only [World.size_alloc] at R
  have hsW : w.heap.size + 1 < ((w.alloc (Obj.cells (cs23 x p) 92)).alloc (Obj.cells z23 92)).heap.size := by simp
  have cC := fun W k => br.specCopyB x.br p W k ho.br
  clear ho
  obtain ⟨c0, c1, c2, c3, c4, c5, c6, c7, c8, c9, c10, c11, c12, c13, c14, c15, c16, c17, c18, c19, c20, c21, c22⟩ := cells K
  go_enter Tryz.func110, Tryz.ntmps110
  go_wp2_with fail
  generalize (w.alloc (Obj.cells (cs23 x p) 92)).alloc (Obj.cells z23 92) = v0 at *
  refine (cC _ (h.kept G)).mono ?_
  rintro e w1 ⟨q, rfl, r, O⟩
  replace G := gr_trans G r
  replace K := K.grown r (by simp)
  replace R := R.grown r (by simp)
  replace hsW := hsW
  clear c0 c1 c2 c3 c4 c5 c6 c7 c8 c9 c10 c11 c12 c13 c14 c15 c16 c17 c18 c19 c20 c21 c22
  go_upto_region 2 with (refine st_brain rfl _ _ rfl rfl w.heap.size x.br q x p rfl rfl K ?_; intro w2 c2 K2)
  replace O := O.low c2 (by omega)
  replace G := gr_past G c2 (Nat.le_refl _)
  replace R := R.grown c2 (by simp)
  replace hsW := hsW
  go_wp2_with (first | (refine ld_row rfl _ rfl w.heap.size x q rfl K2 ?_) | (refine st_row rfl _ _ rfl rfl (w.heap.size + 1) x q z23 rfl rfl R rfl ?_; intro w3 c3 R3))
  replace O := O.low c3 hsW
  replace G := gr_past G c3 (show w.heap.size ≤ w.heap.size + 1 by omega)
  refine bodyPost_ret (v := wv x q) ?_ rfl ⟨q, rfl, G, O.below (by omega)⟩
  exact rs_row rfl _ _ (w.heap.size + 1) x q rfl R3
end Go.Proofs.YtdikhdfpcipdbaaGreatDoor.wd

/- Chapter 18 of the model: the outs, but 0 of those that are broken. -/
namespace Go.Proofs.YtdikhdfpcipdbaaGreatDoor.wd
open Go.ChangeShapes Go.WideShapes Go.ChangeAt Go.RowKit
open Go.Proofs.YtdikhdfpcipdbaaGreatDoor.nums Go.Proofs.YtdikhdfpcipdbaaGreatDoor.mem
open Go.Proofs.YtdikhdfpcipdbaaGreatDoor.tab (Ret)
open Go.Proofs.YtdikhdfpcipdbaaGreatDoor.il (nth Ints)
open Go.Proofs.YtdikhdfpcipdbaaGreatDoor.br (B P OkB Arg OwnB str bv Seven)
set_option linter.unusedVariables false

/-- Is this one broken? -/
def bit (b : Int) (k : Nat) : Bool := bits BinOp.and IntKind.i64 (b / 2 ^ k) 1 == 1
/-- The outs, but 0 of the first k that are broken. -/
def realTo (b : Int) (o : List Int) : Nat → List Int
  | 0 => o
  | k + 1 => if bit b k = true then (realTo b o k).set k 0 else realTo b o k
theorem real_len (b : Int) (o : List Int) : ∀ k, (realTo b o k).length = o.length
  | 0 => rfl
  | k + 1 => by
    unfold realTo
    split
    · rw [List.length_set]; exact real_len b o k
    · exact real_len b o k
theorem all_set0 {o : List Int} (h : o.all bl.okO = true) (k : Nat) : (o.set k 0).all bl.okO = true := by
  rw [List.all_eq_true]
  intro x hx
  rcases List.mem_or_eq_of_mem_set hx with hx | rfl
  · exact List.all_eq_true.1 h x hx
  · rfl
theorem real_ok {o : List Int} (b : Int) (h : o.all bl.okO = true) : ∀ k, (realTo b o k).all bl.okO = true
  | 0 => h
  | k + 1 => by
    unfold realTo
    split
    · exact all_set0 (real_ok b h k) k
    · exact real_ok b h k
theorem seven_real {o : List Int} (b : Int) (h : Seven o) (k : Nat) : Seven (realTo b o k) := ⟨by rw [real_len]; exact h.1, real_ok b h.2 k⟩
theorem own_put {w : World} {a : Option Addr} {l : List Int} (h : il.Own w a l) {k : Nat} (hk : k < l.length) (v : Int) : ∃ (g o : Nat), a = some ⟨g, o, none⟩ ∧ g < w.heap.size ∧ w.cell? ⟨g, o + k, none⟩ = some (.int .i64 (nth l k)) ∧ w.frozen? ⟨g, o + k, none⟩ = false ∧ (∃ cs, Has w g 2 cs) ∧ il.Own (w.setCell ⟨g, o + k, none⟩ (.int .i64 v)) a (l.set k v) := by
  have hne : l ≠ [] := fun e => by rw [e] at hk; simp at hk
  rcases h with e | ⟨g, o, cs, ea, hc, hj⟩
  · exact absurd e hne
  · refine ⟨g, o, ea, hc.lt, (hc.cell _).trans (hj k hk), hc.frozen _, ⟨cs, hc⟩, Or.inr ⟨g, o, _, ea, hc.set _ _, fun j hj' => ?_⟩⟩
    have hj2 : j < l.length := by simpa using hj'
    have hsz : o + k < cs.size := (Array.getElem?_eq_some_iff.1 (hj k hk)).1
    show _ = some (Value.int IntKind.i64 (nth (l.set k v) j))
    by_cases e : j = k
    · subst e
      rw [Array.getElem?_setIfInBounds_self_of_lt hsz]
      simp [nth, List.getD, hk]
    · rw [Array.getElem?_setIfInBounds_ne (by omega), hj j hj2]
      simp [nth, List.getD, Ne.symm e]
set_option maxRecDepth 100000 in
set_option maxHeartbeats 1000000 in
/-- A copy, and how much room it has. -/
theorem specCopyC (a : Option Addr) (cap : Nat) (vs : List Int) (w : World) (h : Ints w a vs) (h0 : vs ≠ []) (hl : vs.length ≤ 100) : Calls Tryz.prog 74 #[.slice a vs.length cap] w fun e w' => ∃ a cap, e = .returned (.slice a vs.length cap) ∧ w.grownBy w' none ∧ frm.Own w.heap.size w' a vs ∧ vs.length ≤ cap ∧ cap ≤ maxLen := by
  obtain ⟨i0, hi, hz0, hz1, hz2⟩ := info_parts frm.infoInt
  have hlp : 0 < vs.length := List.length_pos_iff.2 h0
  cases a with
  | none => exact absurd (h 0 hlp) (by rintro ⟨x, e, _⟩; cases e)
  | some ad =>
    have o0 := World.ownsRow_made (base := w.heap.size) (e := 2) (size := 1) w #[] 0 (Nat.le_refl _) (Nat.zero_le _) rfl
    have hI : frm.Ints (w.alloc (Obj.cells #[] 2)) (some ad) vs := Ints.kept h (World.grownBy_alloc w (Obj.cells #[] 2) none)
    go_enter Tryz.func74, Tryz.ntmps74
    go_wp2_with (at_builtin; refine wpList_append_lies _ rfl _ _ _ rfl w.heap.size 2 i0 _ 1 8 Tryz.underlying25 hi hz0 hz1 hz2 rfl (by omega) (.slice (some ⟨w.heap.size, 0, none⟩) 0 0) 0 [] rfl o0 ad vs.length cap (frm.vals vs) rfl (by simp) hI.news (frm.vals_one _) hlp (by unfold maxLen; omega) (by omega) (by simp) (w.heap.size + 1) (by simp) ?_; intro gg cap1 w1 hown hgrow hat hlt)
    simp only [Nat.zero_add, List.nil_append] at hown
    go_ret
    have hc : vs.length ≤ cap1 ∧ cap1 ≤ maxLen := by
      rcases hown.2 with ⟨e, _⟩ | ⟨g, c, cur, e, _, _, h1, h2, _⟩
      · cases e
      · injection e with e1 e2 e3
        subst e3
        exact ⟨h1, h2⟩
    exact ⟨_, cap1, rfl, gr_past (World.grownBy_alloc w _ none) hgrow (Nat.le_refl _), frm.row_own hown (Nat.le_refl _) h0, hc.1, hc.2⟩
/-- These numbers come back, of their own memory. -/
def RetN (o : List Int) (w : World) (e : Ending) (w' : World) : Prop := ∃ a cap, e = .returned (.slice a o.length cap) ∧ w.grownBy w' none ∧ il.Own w' a o ∧ (∀ x : Addr, a = some x → w.heap.size ≤ x.block) ∧ o.length ≤ cap ∧ cap ≤ maxLen

set_option maxRecDepth 100000 in
set_option maxHeartbeats 2000000 in
theorem specReal (x : V) (p : P) (w : World) (h : Arg w x.br p) (ho : Seven x.br.ou) (hb : 0 ≤ x.bk ∧ x.bk ≤ 63) : Calls Tryz.prog 149 #[wv x p] w (RetN (realTo x.bk x.br.ou 6) w) := by
  have K := Has.fresh w 92 (cs23 x p)
  have G := World.grownBy_alloc w (Obj.cells (cs23 x p) 92) none
  have cC := fun W k => specCopyC p.ou p.oc x.br.ou W k (fun e => by have := ho.1; rw [e] at this; simp at this) (by rw [ho.1]; omega)
  have H7 := Lib.hid ho
  clear ho
  obtain ⟨c0, c1, c2, c3, c4, c5, c6, c7, c8, c9, c10, c11, c12, c13, c14, c15, c16, c17, c18, c19, c20, c21, c22⟩ := cells K
  clear c0 c1 c2 c3 c4 c5 c6 c7 c8 c9 c10 c12 c13 c14 c15 c17 c18 c19 c20 c21 c22
  go_enter Tryz.func149, Tryz.ntmps149
  go_wp2_with fail
  refine (cC _ (h.ou.kept G)).mono ?_
  rintro e w1 ⟨a, cap, rfl, r, O, hc1, hc2⟩
  replace hc1 := Lib.hid hc1
  replace hc2 := Lib.hid hc2
  have hne : x.br.ou ≠ [] := fun e => by have := H7.out.1; rw [e] at this; simp at this
  have hab : ∀ y : Addr, a = some y → w.heap.size < y.block := fun y e => by
    have := stm.own_ge O y.block ⟨hne, y, e, rfl⟩
    simp at this
    omega
  have oV : il.Own w1 a x.br.ou := stm.OwnV.of O
  replace G := gr_trans G r
  replace K := K.grown r (by simp)
  clear c11 c16 O r hne
  rw [← real_len x.bk x.br.ou 6]
  go_wp2_with fail
  go_loopw [4] (fun i wr => ∃ k : Nat, k ≤ 6 ∧ i = .int .i64 k ∧ Has wr w.heap.size 92 (cs23 x p) ∧ w.grownBy wr none ∧ il.Own wr a (realTo x.bk x.br.ou k)) (fun i _ => 6 - (intOf i).toNat)
  case atStart => exact ⟨0, by omega, rfl, K, G, oV⟩
  case round =>
    clear K G oV
    obtain ⟨k, hk, rfl, K, G, oV⟩ := hrel
    by_cases hlt : k < 6
    · obtain ⟨c0, c1, c2, c3, c4, c5, c6, c7, c8, c9, c10, c11, c12, c13, c14, c15, c16, c17, c18, c19, c20, c21, c22⟩ := cells K
      clear c0 c1 c2 c3 c4 c5 c6 c7 c8 c9 c10 c11 c12 c13 c14 c15 c17 c18 c19 c20 c21 c22
      have hkl : k < (realTo x.bk x.br.ou k).length := by rw [real_len]; have := H7.out.1; omega
      have hk6 : k < (realTo x.bk x.br.ou 6).length := by rw [real_len]; have := H7.out.1; omega
      obtain ⟨g, o, rfl, lg, cg, fg, ⟨cs, Hg⟩, oV2⟩ := own_put oV hkl 0
      have lw := hab _ rfl
      simp only at lw
      have ng : w.heap.size ≠ g := by omega
      have hS : ∀ b, bit x.bk k = b → (bits BinOp.and IntKind.i64 (x.bk / 2 ^ k) 1 == 1) = b := fun b e => e
      cases hb1 : bit x.bk k
      · have h1 := hS _ hb1
        have eq : realTo x.bk x.br.ou (k + 1) = realTo x.bk x.br.ou k := by show (if bit x.bk k = true then _ else _) = _; rw [hb1]; rfl
        rw [← eq] at oV
        clear eq hb1 hS oV2 cg fg
        go_wp2_with fail
        go_roundw
        case rel => exact ⟨k + 1, by omega, by go_num, K, G, oV⟩
        case measure => simp [intOf]; omega
      · have h1 := hS _ hb1
        have eq : realTo x.bk x.br.ou (k + 1) = (realTo x.bk x.br.ou k).set k 0 := by show (if bit x.bk k = true then _ else _) = _; rw [hb1]; rfl
        rw [← eq] at oV2
        clear eq hb1 hS
        go_wp2_with fail
        go_roundw
        case rel => exact ⟨k + 1, by omega, by go_num, K.set_other ng _ _, gr_new G (by omega) _ _, oV2⟩
        case measure => simp [intOf]; omega
    · obtain rfl : k = 6 := by omega
      go_wp2_with fail
      go_ret
      exact ⟨a, cap, rfl, G, oV, fun y e => Nat.le_of_lt (hab y e), by rw [real_len]; exact hc1.out, hc2.out⟩
end Go.Proofs.YtdikhdfpcipdbaaGreatDoor.wd

/- Chapter 18 of the model: what a world says. -/
namespace Go.Proofs.YtdikhdfpcipdbaaGreatDoor.wd
open Go.ChangeShapes Go.WideShapes Go.ChangeAt Go.RowKit
open Go.Proofs.YtdikhdfpcipdbaaGreatDoor.nums Go.Proofs.YtdikhdfpcipdbaaGreatDoor.mem
open Go.Proofs.YtdikhdfpcipdbaaGreatDoor.tab (Ret)
open Go.Proofs.YtdikhdfpcipdbaaGreatDoor.txt (showF okF)
open Go.Proofs.YtdikhdfpcipdbaaGreatDoor.il (nth Ints)
open Go.Proofs.YtdikhdfpcipdbaaGreatDoor.br (B P OkB Arg OwnB str bv Seven)
open Go.Proofs.YtdikhdfpcipdbaaGreatDoor.frm (fr)
set_option linter.unusedVariables false

theorem show_tiny (k sq : Int) (vs : List Int) : (showF k sq vs).length ≤ 200 := by
  cases ho : okF k sq vs with
  | false => simp [showF, ho]
  | true =>
    have hl := frm.aheadF_len ho
    have b1 := frm.sumL_small (txt.aheadF k sq vs)
    have := frm.itoa_len (txt.sumL (txt.aheadF k sq vs)) b1.1 b1.2
    rw [txt.showF_ok ho]
    simp [txt.behind]
    omega
/-- What is said of the speed: three numbers, one of which may be a lie. -/
def vList (x : V) : List Int := if 0 ≤ x.li then [x.sp, x.sp, x.sp].set x.li.toNat x.ly else [x.sp, x.sp, x.sp]
def said2 (x : V) : List UInt8 := showF 1 x.sq (vList x) ++ showF 2 x.sq [x.he, x.he]
def said3 (x : V) : List UInt8 := if x.lo = 0 then said2 x ++ showF 3 x.sq ((realTo x.bk x.br.ou 6).take 6) else said2 x
def said (x : V) : List UInt8 := said3 x ++ showF 4 x.sq [x.wa, if x.ar = true then 1 else 0]
theorem said_len (x : V) : (said3 x).length ≤ 600 ∧ (said x).length ≤ 800 := by
  have h1 := show_tiny 1 x.sq (vList x)
  have h2 := show_tiny 2 x.sq [x.he, x.he]
  have h3 := show_tiny 3 x.sq ((realTo x.bk x.br.ou 6).take 6)
  have h4 := show_tiny 4 x.sq [x.wa, if x.ar = true then 1 else 0]
  have h5 : (said3 x).length ≤ 600 := by
    unfold said3 said2
    split <;> simp only [List.length_append] <;> omega
  refine ⟨h5, ?_⟩
  unfold said
  simp only [List.length_append]
  omega
theorem ints2 {w : World} {g : Nat} {a b : Int} (H : Has w g 2 #[.int .i64 a, .int .i64 b]) : Ints w (some ⟨g, 0, none⟩) [a, b] := fun k hk => by
  refine ⟨_, rfl, H.lt, ?_⟩
  rcases (show k = 0 ∨ k = 1 by simp at hk; omega) with rfl | rfl
  · exact H.cell 0
  · exact H.cell 1
theorem own3 {w : World} {g : Nat} {a b c : Int} (H : Has w g 2 #[.int .i64 a, .int .i64 b, .int .i64 c]) : il.Own w (some ⟨g, 0, none⟩) [a, b, c] := Or.inr ⟨g, 0, _, rfl, H, fun k hk => by
  rcases (show k = 0 ∨ k = 1 ∨ k = 2 by simp at hk; omega) with rfl | rfl | rfl <;> rfl⟩
theorem ints_take {w : World} {a : Option Addr} {l : List Int} (h : Ints w a l) (n : Nat) : Ints w a (l.take n) := fun k hk => by
  have hk' : k < l.length := by simp at hk; omega
  obtain ⟨x, e, hb, c⟩ := h k hk'
  have hn : k < n := by simp at hk; omega
  have q : nth (l.take n) k = nth l k := by simp [nth, List.getD, hn]
  exact ⟨x, e, hb, by rw [q]; exact c⟩
/-- What each operation of the fans' line leaves. -/
def LeftS (z : Nat) (x : V) (p : P) (s : List UInt8) (R R6 : List Int) (F : List UInt8) : Nat → Value → World → Prop
  | 0, v, _ => v = str s
  | 1, v, _ => v = .pointer (some ⟨z, 21, none⟩)
  | 2, v, _ => v = .int .i64 x.sq
  | 3, v, _ => v = wv x p
  | 4, v, w => ∃ a cap, v = .slice a 7 cap ∧ Ints w a R ∧ 7 ≤ cap ∧ cap ≤ maxLen
  | 5, v, w => ∃ a cap, v = .slice a 6 cap ∧ Ints w a R6
  | 6, v, w => ∃ a cap, v = fr 3 x.sq a 6 cap ∧ Ints w a R6
  | 7, v, _ => v = str F
  | 8, v, _ => v = str (s ++ F)
  | _, _, _ => False
theorem LeftS.stab (z : Nat) (x : V) (p : P) (s : List UInt8) (R R6 : List Int) (F : List UInt8) (j : Nat) (v : Value) (w w' : World) (h : LeftS z x p s R R6 F j v w) (hg : w.grownBy w' none) : LeftS z x p s R R6 F j v w' := by
  match j, h with
  | 0, h => exact h
  | 1, h => exact h
  | 2, h => exact h
  | 3, h => exact h
  | 4, ⟨a, c, h1, h2, h3⟩ => exact ⟨a, c, h1, h2.kept hg, h3⟩
  | 5, ⟨a, c, h1, h2⟩ => exact ⟨a, c, h1, h2.kept hg⟩
  | 6, ⟨a, c, h1, h2⟩ => exact ⟨a, c, h1, h2.kept hg⟩
  | 7, h => exact h
  | 8, h => exact h

set_option maxRecDepth 100000 in
set_option maxHeartbeats 4000000 in
theorem specSaid (x : V) (p : P) (w : World) (h : Arg w x.br p) (ho : OkW x) : Calls Tryz.prog 147 #[wv x p] w (Ret (str (said x)) w) := by
  have K := Has.fresh w 92 (cs23 x p)
  have G := World.grownBy_alloc w (Obj.cells (cs23 x p) 92) none
  have cO := fun W k => specWorldOk x p W k ho
  have cR := fun W k => specReal x p W k ⟨ho.br.ou7, ho.br.ou⟩ ho.bk
  have hli := ho.li
  have HO := Lib.hid ho
  clear ho
  have l1 := show_tiny 1 x.sq (vList x)
  have l2 := show_tiny 2 x.sq [x.he, x.he]
  have l3 := said_len x
  obtain ⟨Y, hY⟩ : ∃ Y, said x = Y := ⟨_, rfl⟩
  rw [hY] at l3
  rw [hY]
  replace hY := Lib.hid hY
  obtain ⟨T3, hT3⟩ : ∃ T, said3 x = T := ⟨_, rfl⟩
  rw [hT3] at l3
  replace hT3 := Lib.hid hT3
  go_enter Tryz.func147, Tryz.ntmps147
  go_upto_region 1 with fail
  generalize w.alloc (Obj.cells (cs23 x p) 92) = wb at *
  go_wp2_with (refine ld_row rfl _ rfl w.heap.size x p rfl K ?_)
  refine (cO _ (h.kept G)).mono ?_
  rintro e w1 ⟨rfl, r⟩
  replace G := gr_trans G r
  replace K := K.grown r (by simp)
  have lw := K.lt
  clear r cO
  obtain ⟨c0, c1, c2, c3, c4, c5, c6, c7, c8, c9, c10, c11, c12, c13, c14, c15, c16, c17, c18, c19, c20, c21, c22⟩ := cells K
  clear c0 c1 c2 c3 c4 c5 c6 c7 c8 c9 c10 c11 c12 c14 c16
  go_upto_region 4 with fail
  clear c13 c15 c17 c18 c19 c20 c21 c22
  have D := Has.fresh w1 2 #[.int .i64 x.sp, .int .i64 x.sp, .int .i64 x.sp]
  replace G := gr_alloc G (Obj.cells #[.int .i64 x.sp, .int .i64 x.sp, .int .i64 x.sp] 2)
  replace K := K.alloc (Obj.cells #[.int .i64 x.sp, .int .i64 x.sp, .int .i64 x.sp] 2)
  generalize hq : w1.heap.size = q at *
  generalize w1.alloc (Obj.cells #[.int .i64 x.sp, .int .i64 x.sp, .int .i64 x.sp] 2) = w2 at *
  have lq : w.heap.size < q := lw
  have oV := own3 D
  obtain ⟨c0, c1, c2, c3, c4, c5, c6, c7, c8, c9, c10, c11, c12, c13, c14, c15, c16, c17, c18, c19, c20, c21, c22⟩ := cells K
  clear c0 c1 c2 c3 c4 c5 c6 c7 c8 c9 c10 c11 c12 c14 c16
  go_upto_if 21 with fail
  go_cut [] (fun wx => Has wx w.heap.size 92 (cs23 x p) ∧ w.grownBy wx none ∧ il.Own wx (some ⟨q, 0, none⟩) (vList x))
  case first =>
    by_cases hl : 0 ≤ x.li
    · obtain ⟨n, hn⟩ : ∃ n : Nat, x.li = n := ⟨x.li.toNat, by omega⟩
      have hn3 : n < [x.sp, x.sp, x.sp].length := by simp; omega
      have hn3' : n < 3 := by omega
      obtain ⟨g, o', ea, lg, cg, fg, ⟨cs, Hg⟩, oV2⟩ := own_put oV hn3 x.ly
      simp only [Option.some.injEq, Addr.mk.injEq, and_true] at ea
      obtain ⟨rfl, rfl⟩ := ea
      simp only [Nat.zero_add] at cg fg oV2
      have ev : vList x = [x.sp, x.sp, x.sp].set n x.ly := by unfold vList; rw [if_pos hl, hn]; rfl
      rw [← ev] at oV2
      have d1 : decide (0 ≤ x.li) = true := decide_eq_true hl
      have ng : w.heap.size ≠ q := by omega
      clear ev hl
      go_wp2_with fail
      go_meet
      exact ⟨K.set_other ng _ _, gr_new G (by omega) _ _, oV2⟩
    · have d1 : decide (0 ≤ x.li) = false := decide_eq_false hl
      have ev : vList x = [x.sp, x.sp, x.sp] := by unfold vList; rw [if_neg hl]
      rw [← ev] at oV
      clear ev
      go_wp2_with fail
      go_meet
      exact ⟨K, G, oV⟩
  case rest =>
    clear K G D oV c13 c15 c17 c18 c19 c20 c21 c22
    obtain ⟨K, G, oV⟩ := hcut
    obtain ⟨V, hV⟩ : ∃ V, vList x = V := ⟨_, rfl⟩
    have hV3 : V.length = 3 := by rw [← hV]; unfold vList; split <;> simp
    have hE := Lib.hid hV
    rw [hV] at oV l1
    have cS := fun W k => frm.specShow 1 x.sq (some ⟨q, 0, none⟩) 3 V W k (by rw [hV3]; unfold maxLen; omega)
    rw [hV3] at cS
    replace hV3 := Lib.hid hV3
    clear hV
    obtain ⟨c0, c1, c2, c3, c4, c5, c6, c7, c8, c9, c10, c11, c12, c13, c14, c15, c16, c17, c18, c19, c20, c21, c22⟩ := cells K
    clear c0 c1 c2 c3 c4 c5 c6 c7 c8 c9 c10 c11 c12 c14 c16
    go_wp2_with fail
    refine (cS _ oV.ints).mono ?_
    rintro e w3 ⟨rfl, r⟩
    replace G := gr_trans G r
    replace K := K.grown r (by simp)
    clear r cS oV c13 c15 c17 c18 c19 c20 c21 c22
    obtain ⟨c0, c1, c2, c3, c4, c5, c6, c7, c8, c9, c10, c11, c12, c13, c14, c15, c16, c17, c18, c19, c20, c21, c22⟩ := cells K
    clear c0 c1 c2 c3 c4 c5 c6 c7 c8 c9 c10 c11 c12 c14 c16
    go_upto_region 7 with fail
    generalize hS1 : showF 1 x.sq V = S1 at *
    have cS2 := fun W a k => frm.specShow 2 x.sq a 2 [x.he, x.he] W k (by unfold maxLen; simp)
    generalize hS2 : showF 2 x.sq [x.he, x.he] = S2 at *
    have e2 : Hid (said2 x = S1 ++ S2) := Lib.hid (by unfold said2; rw [hE.out, hS1, hS2])
    have happ := frm.str_app S1 S2
    have D2 := Has.fresh w3 2 #[.int .i64 x.he, .int .i64 x.he]
    replace G := gr_alloc G (Obj.cells #[.int .i64 x.he, .int .i64 x.he] 2)
    replace K := K.alloc (Obj.cells #[.int .i64 x.he, .int .i64 x.he] 2)
    clear hS1 hS2 hE
    go_wp2_with fail
    refine (cS2 _ _ (ints2 D2)).mono ?_
    rintro e w4 ⟨rfl, r⟩
    replace G := gr_trans G r
    replace K := K.grown r (by simp)
    clear r cS2 D2 c13 c15 c17 c18 c19 c20 c21 c22
    obtain ⟨c0, c1, c2, c3, c4, c5, c6, c7, c8, c9, c10, c11, c12, c13, c14, c15, c16, c17, c18, c19, c20, c21, c22⟩ := cells K
    clear c0 c1 c2 c3 c4 c5 c6 c7 c8 c9 c10 c11 c12 c14 c16
    go_upto_region 8 with fail
    obtain ⟨S12, hS12⟩ : ∃ S, S1 ++ S2 = S := ⟨_, rfl⟩
    have l12 : S12.length ≤ 400 := by rw [← hS12]; simp only [List.length_append]; omega
    rw [hS12] at e2
    rw [hS12]
    clear hS12 happ l1 l2
    have l600 := l3.1
    have l800 := l3.2
    clear l3
    go_upto_if 48 with fail
    go_cut [4] (fun s wx => s = str T3 ∧ Has wx w.heap.size 92 (cs23 x p) ∧ w.grownBy wx none)
    case first =>
      by_cases hlo : x.lo = 0
      · have d1 : (x.lo == 0) = true := beq_iff_eq.2 hlo
        have d2 : decide (x.lo = 0) = true := decide_eq_true hlo
        have e3 : Hid (said3 x = S12 ++ showF 3 x.sq ((realTo x.bk x.br.ou 6).take 6)) := Lib.hid (by unfold said3; rw [if_pos hlo, e2.out])
        clear hlo
        go_upto_region 9 with fail
        have hR7 : (realTo x.bk x.br.ou 6).length = 7 := by rw [real_len]; exact HO.out.br.ou7
        have cR7 : ∀ W, Arg W x.br p → Calls Tryz.prog 149 #[wv x p] W (fun e w' => ∃ a cap, e = .returned (.slice a 7 cap) ∧ W.grownBy w' none ∧ Ints w' a (realTo x.bk x.br.ou 6) ∧ 7 ≤ cap ∧ cap ≤ maxLen) := fun W k => (cR W k).mono (fun e w' ⟨a, cap, e1, r, oa, _, h1, h2⟩ => ⟨a, cap, by rw [e1, hR7], r, oa.ints, by rw [← hR7]; exact h1, h2⟩)
        have cS3 := fun W a cap k => frm.specShow 3 x.sq a cap ((realTo x.bk x.br.ou 6).take 6) W k (by rw [List.length_take, hR7]; unfold maxLen; omega)
        have l6 : ((realTo x.bk x.br.ou 6).take 6).length = 6 := by rw [List.length_take, hR7]; rfl
        rw [l6] at cS3
        have lF := show_tiny 3 x.sq ((realTo x.bk x.br.ou 6).take 6)
        have happ3 := frm.str_app S12 (showF 3 x.sq ((realTo x.bk x.br.ou 6).take 6))
        have t6 := fun (W : World) (a : Option Addr) (k : Ints W a (realTo x.bk x.br.ou 6)) => ints_take k 6
        generalize (realTo x.bk x.br.ou 6).take 6 = R6 at *
        generalize showF 3 x.sq R6 = F3 at *
        generalize realTo x.bk x.br.ou 6 = R at *
        have H7 := Lib.hid hR7
        clear l6 cR hR7 c13 c15 c17 c18 c19 c20 c21 c22
        refine abs6 0 1 2 3 4 5 ?_ rfl rfl rfl rfl rfl rfl rfl rfl
        intro a0 hs0 hd0 g0 g1 g2 g3 g4 g5
        refine iv.region_inv (a0 := a0) 9 (fun i => i + 49) (LeftS w.heap.size x p S12 R R6 F3) (by kernel_rfl) (by kernel_rfl) (by kernel_rfl) (by decide) (by kernel_rfl) (by kernel_rfl) (fun i j hi hj e => by simpa using e) (fun i hi => by rw [hs0]; exact (show ∀ i, i < 9 → i + 49 < 70 by decide) i hi) (LeftS.stab w.heap.size x p S12 R R6 F3) ?_ ?_
        · intro i o a W hi ho2 hgW hsz2 hdf hold hdeps
          obtain ⟨⟨tl⟩, df⟩ := a
          have ed : df = [] := hdf.trans hd0
          subst ed
          have hlen : tl.length = 70 := hsz2.trans hs0
          clear hsz2 hdf
          refine litE70 tl hlen ?_
          clear hlen
          intro x0 x1 x2 x3 x4 x5 x6 x7 x8 x9 x10 x11 x12 x13 x14 x15 x16 x17 x18 x19 x20 x21 x22 x23 x24 x25 x26 x27 x28 x29 x30 x31 x32 x33 x34 x35 x36 x37 x38 x39 x40 x41 x42 x43 x44 x45 x46 x47 x48 x49 x50 x51 x52 x53 x54 x55 x56 x57 x58 x59 x60 x61 x62 x63 x64 x65 x66 x67 x68 x69 et
          subst et
          have e : some x0 = _ := (hold 0 (fun j hj => by clear hold; revert hj j; decide)).trans g0
          injection e with e
          subst e
          have e : some x1 = _ := (hold 1 (fun j hj => by clear hold; revert hj j; decide)).trans g1
          injection e with e
          subst e
          have e : some x2 = _ := (hold 2 (fun j hj => by clear hold; revert hj j; decide)).trans g2
          injection e with e
          subst e
          have e : some x3 = _ := (hold 3 (fun j hj => by clear hold; revert hj j; decide)).trans g3
          injection e with e
          subst e
          have e : some x4 = _ := (hold 4 (fun j hj => by clear hold; revert hj j; decide)).trans g4
          injection e with e
          subst e
          have e : some x5 = _ := (hold 5 (fun j hj => by clear hold; revert hj j; decide)).trans g5
          injection e with e
          subst e
          clear hold hs0 hd0 g0 g1 g2 g3 g4 g5
          rcases (show i = 0 ∨ i = 1 ∨ i = 2 ∨ i = 3 ∨ i = 4 ∨ i = 5 ∨ i = 6 ∨ i = 7 ∨ i = 8 by omega) with rfl | rfl | rfl | rfl | rfl | rfl | rfl | rfl | rfl
          all_goals simp at ho2
          all_goals subst ho2
          all_goals simp [Region.binds, LeftS] at hdeps
          · go_wp2_with fail
            exact ⟨gr_refl _ _, rfl⟩
          · go_wp2_with fail
            exact ⟨gr_refl _ _, rfl⟩
          · subst hdeps
            obtain ⟨c0, c1, c2, c3, c4, c5, c6, c7, c8, c9, c10, c11, c12, c13, c14, c15, c16, c17, c18, c19, c20, c21, c22⟩ := cells (K.grown hgW (by simp))
            clear c0 c1 c2 c3 c4 c5 c6 c7 c8 c9 c10 c11 c12 c14 c16
            go_wp2_with fail
            exact ⟨gr_refl _ _, rfl⟩
          · go_wp2_with (refine ld_row rfl _ rfl w.heap.size x p rfl (K.grown hgW (by simp)) ?_)
            exact ⟨gr_refl _ _, rfl⟩
          · subst hdeps
            go_wp2_with fail
            refine (cR7 _ (h.kept (gr_trans G hgW))).mono ?_
            rintro e wx ⟨a, cap, rfl, r, ia, hc1, hc2⟩
            go_wp2_with fail
            exact ⟨a, cap, rfl, ia, hc1, hc2⟩
          · obtain ⟨a, cap, rfl, ia, hc1, hc2⟩ := hdeps
            obtain ⟨y, rfl, _, _⟩ := ia 0 (by rw [H7.out]; omega)
            unfold maxLen at hc2
            have hc6 : 6 ≤ cap := by omega
            have hcn : ¬ ((cap : Int) < 6) := by omega
            have it := t6 _ _ ia
            clear t6 happ3 cS3
            go_wp2_with fail
            exact ⟨gr_refl _ _, some y, cap, rfl, it⟩
          · obtain ⟨rfl, a, ⟨cap, rfl⟩, ia⟩ := hdeps
            go_wp2_with fail
            exact ⟨gr_refl _ _, a, cap, rfl, ia⟩
          · obtain ⟨⟨a, ⟨cap, rfl⟩, ia⟩, _⟩ := hdeps
            go_wp2_with fail
            refine (cS3 _ a cap ia).mono ?_
            rintro e wx ⟨rfl, r⟩
            go_wp2_with fail
            exact rfl
          · first | (obtain ⟨rfl, rfl⟩ := hdeps) | (obtain ⟨rfl, rfl, _⟩ := hdeps)
            go_wp2_with fail
            exact ⟨gr_refl _ _, rfl⟩
        · intro o W hgW hsz2 hdf hold hnew
          obtain ⟨⟨tl⟩, df⟩ := o
          have ed : df = [] := hdf.trans hd0
          subst ed
          have hlen : tl.length = 70 := hsz2.trans hs0
          clear hsz2 hdf
          refine litE70 tl hlen ?_
          clear hlen
          intro x0 x1 x2 x3 x4 x5 x6 x7 x8 x9 x10 x11 x12 x13 x14 x15 x16 x17 x18 x19 x20 x21 x22 x23 x24 x25 x26 x27 x28 x29 x30 x31 x32 x33 x34 x35 x36 x37 x38 x39 x40 x41 x42 x43 x44 x45 x46 x47 x48 x49 x50 x51 x52 x53 x54 x55 x56 x57 x58 x59 x60 x61 x62 x63 x64 x65 x66 x67 x68 x69 et
          subst et
          have e : some x0 = _ := (hold 0 (fun j hj => by clear hold; revert hj j; decide)).trans g0
          injection e with e
          subst e
          have e : some x1 = _ := (hold 1 (fun j hj => by clear hold; revert hj j; decide)).trans g1
          injection e with e
          subst e
          have e : some x2 = _ := (hold 2 (fun j hj => by clear hold; revert hj j; decide)).trans g2
          injection e with e
          subst e
          have e : some x3 = _ := (hold 3 (fun j hj => by clear hold; revert hj j; decide)).trans g3
          injection e with e
          subst e
          have e : some x4 = _ := (hold 4 (fun j hj => by clear hold; revert hj j; decide)).trans g4
          injection e with e
          subst e
          have e : some x5 = _ := (hold 5 (fun j hj => by clear hold; revert hj j; decide)).trans g5
          injection e with e
          subst e
          obtain ⟨v, e, rfl⟩ := hnew 8 (by omega)
          have e : some x57 = _ := e
          injection e with e
          subst e
          clear hnew hold hs0 hd0 g0 g1 g2 g3 g4 g5
          simp only [List.drop_succ_cons, List.drop_zero]
          go_wp2_with fail
          go_meet
          exact ⟨by rw [← hT3.out, e3.out], K.grown hgW (by simp), gr_trans G hgW⟩
      · have d1 : (x.lo == 0) = false := beq_eq_false_iff_ne.2 hlo
        have d2 : decide (x.lo = 0) = false := decide_eq_false hlo
        have e3 : T3 = S12 := by rw [← hT3.out]; unfold said3; rw [if_neg hlo, e2.out]
        subst e3
        clear hlo
        go_wp2_with fail
        go_meet
        exact ⟨rfl, K, G⟩
    case rest =>
      clear K G c13 c15 c17 c18 c19 c20 c21 c22
      obtain ⟨rfl, K, G⟩ := hcut
      obtain ⟨M, hM⟩ : ∃ M : Int, (if x.ar = true then 1 else 0) = M := ⟨_, rfl⟩
      have l4 := show_tiny 4 x.sq [x.wa, M]
      have cS4 := fun W a k => frm.specShow 4 x.sq a 2 [x.wa, M] W k (by unfold maxLen; simp)
      have e4 : Y = T3 ++ showF 4 x.sq [x.wa, M] := by rw [← hY.out]; unfold said; rw [hT3.out, hM]
      generalize showF 4 x.sq [x.wa, M] = S4 at *
      have E4 := Lib.hid e4
      clear e4
      have happ := frm.str_app T3 S4
      obtain ⟨c0, c1, c2, c3, c4, c5, c6, c7, c8, c9, c10, c11, c12, c13, c14, c15, c16, c17, c18, c19, c20, c21, c22⟩ := cells K
      clear c0 c1 c2 c3 c4 c5 c6 c7 c8 c9 c10 c11 c12 c14 c16
      cases har : x.ar
      · rw [har] at hM c20
        have hM0 : M = 0 := by rw [← hM]; simp
        subst hM0
        clear hM
        go_upto_region 13 with fail
        have D4 := Has.fresh wc 2 #[.int .i64 x.wa, .int .i64 0]
        replace G := gr_alloc G (Obj.cells #[.int .i64 x.wa, .int .i64 0] 2)
        go_wp2_with fail
        refine (cS4 _ _ (ints2 D4)).mono ?_
        rintro e w6 ⟨rfl, r⟩
        go_wp2_with fail
        go_ret
        exact ⟨by rw [E4.out]; rfl, gr_trans G r⟩
      · rw [har] at hM c20
        have hM0 : M = 1 := by rw [← hM]; simp
        subst hM0
        clear hM
        go_upto_region 13 with fail
        have D4 := Has.fresh wc 2 #[.int .i64 x.wa, .int .i64 1]
        replace G := gr_alloc G (Obj.cells #[.int .i64 x.wa, .int .i64 1] 2)
        go_wp2_with fail
        refine (cS4 _ _ (ints2 D4)).mono ?_
        rintro e w6 ⟨rfl, r⟩
        go_wp2_with fail
        go_ret
        exact ⟨by rw [E4.out]; rfl, gr_trans G r⟩
end Go.Proofs.YtdikhdfpcipdbaaGreatDoor.wd

