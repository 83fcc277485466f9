/- Chapter 18 of the model: the outs, but 0 of those that are broken. -/
import Derived.Test.YtdikhdfpcipdbaaGreatDoorWd3
import Derived.Test.YtdikhdfpcipdbaaGreatDoorStHeard
import Derived.Test.YtdikhdfpcipdbaaGreatDoorStRun
namespace Go.Proofs.YtdikhdfpcipdbaaGreatDoor.wd
open Go.ChangeShapes Go.WideShapes Go.ChangeAt Go.RowKit
open Go.Proofs.YtdikhdfpcipdbaaGreatDoor.nums Go.Proofs.YtdikhdfpcipdbaaGreatDoor.mem
open Go.Proofs.YtdikhdfpcipdbaaGreatDoor.tab (Ret)
open Go.Proofs.YtdikhdfpcipdbaaGreatDoor.il (nth Ints)
open Go.Proofs.YtdikhdfpcipdbaaGreatDoor.br (B P OkB Arg OwnB str bv Seven)
set_option linter.unusedVariables false

/-- Is this one broken? -/
def bit (b : Int) (k : Nat) : Bool := bits BinOp.and IntKind.i64 (b / 2 ^ k) 1 == 1
/-- The outs, but 0 of the first k that are broken. -/
def realTo (b : Int) (o : List Int) : Nat → List Int
  | 0 => o
  | k + 1 => if bit b k = true then (realTo b o k).set k 0 else realTo b o k
theorem real_len (b : Int) (o : List Int) : ∀ k, (realTo b o k).length = o.length
  | 0 => rfl
  | k + 1 => by
    unfold realTo
    split
    · rw [List.length_set]; exact real_len b o k
    · exact real_len b o k
theorem all_set0 {o : List Int} (h : o.all bl.okO = true) (k : Nat) : (o.set k 0).all bl.okO = true := by
  rw [List.all_eq_true]
  intro x hx
  rcases List.mem_or_eq_of_mem_set hx with hx | rfl
  · exact List.all_eq_true.1 h x hx
  · rfl
theorem real_ok {o : List Int} (b : Int) (h : o.all bl.okO = true) : ∀ k, (realTo b o k).all bl.okO = true
  | 0 => h
  | k + 1 => by
    unfold realTo
    split
    · exact all_set0 (real_ok b h k) k
    · exact real_ok b h k
theorem seven_real {o : List Int} (b : Int) (h : Seven o) (k : Nat) : Seven (realTo b o k) := ⟨by rw [real_len]; exact h.1, real_ok b h.2 k⟩
theorem own_put {w : World} {a : Option Addr} {l : List Int} (h : il.Own w a l) {k : Nat} (hk : k < l.length) (v : Int) : ∃ (g o : Nat), a = some ⟨g, o, none⟩ ∧ g < w.heap.size ∧ w.cell? ⟨g, o + k, none⟩ = some (.int .i64 (nth l k)) ∧ w.frozen? ⟨g, o + k, none⟩ = false ∧ (∃ cs, Has w g 2 cs) ∧ il.Own (w.setCell ⟨g, o + k, none⟩ (.int .i64 v)) a (l.set k v) := by
  have hne : l ≠ [] := fun e => by rw [e] at hk; simp at hk
  rcases h with e | ⟨g, o, cs, ea, hc, hj⟩
  · exact absurd e hne
  · refine ⟨g, o, ea, hc.lt, (hc.cell _).trans (hj k hk), hc.frozen _, ⟨cs, hc⟩, Or.inr ⟨g, o, _, ea, hc.set _ _, fun j hj' => ?_⟩⟩
    have hj2 : j < l.length := by simpa using hj'
    have hsz : o + k < cs.size := (Array.getElem?_eq_some_iff.1 (hj k hk)).1
    show _ = some (Value.int IntKind.i64 (nth (l.set k v) j))
    by_cases e : j = k
    · subst e
      rw [Array.getElem?_setIfInBounds_self_of_lt hsz]
      simp [nth, List.getD, hk]
    · rw [Array.getElem?_setIfInBounds_ne (by omega), hj j hj2]
      simp [nth, List.getD, Ne.symm e]
set_option maxRecDepth 100000 in
set_option maxHeartbeats 1000000 in
/-- A copy, and how much room it has. -/
theorem specCopyC (a : Option Addr) (cap : Nat) (vs : List Int) (w : World) (h : Ints w a vs) (h0 : vs ≠ []) (hl : vs.length ≤ 100) : Calls Tryz.prog 74 #[.slice a vs.length cap] w fun e w' => ∃ a cap, e = .returned (.slice a vs.length cap) ∧ w.grownBy w' none ∧ frm.Own w.heap.size w' a vs ∧ vs.length ≤ cap ∧ cap ≤ maxLen := by
  obtain ⟨i0, hi, hz0, hz1, hz2⟩ := info_parts frm.infoInt
  have hlp : 0 < vs.length := List.length_pos_iff.2 h0
  cases a with
  | none => exact absurd (h 0 hlp) (by rintro ⟨x, e, _⟩; cases e)
  | some ad =>
    have o0 := World.ownsRow_made (base := w.heap.size) (e := 2) (size := 1) w #[] 0 (Nat.le_refl _) (Nat.zero_le _) rfl
    have hI : frm.Ints (w.alloc (Obj.cells #[] 2)) (some ad) vs := Ints.kept h (World.grownBy_alloc w (Obj.cells #[] 2) none)
    go_enter Tryz.func74, Tryz.ntmps74
    go_wp2_with (at_builtin; refine wpList_append_lies _ rfl _ _ _ rfl w.heap.size 2 i0 _ 1 8 Tryz.underlying25 hi hz0 hz1 hz2 rfl (by omega) (.slice (some ⟨w.heap.size, 0, none⟩) 0 0) 0 [] rfl o0 ad vs.length cap (frm.vals vs) rfl (by simp) hI.news (frm.vals_one _) hlp (by unfold maxLen; omega) (by omega) (by simp) (w.heap.size + 1) (by simp) ?_; intro gg cap1 w1 hown hgrow hat hlt)
    simp only [Nat.zero_add, List.nil_append] at hown
    go_ret
    have hc : vs.length ≤ cap1 ∧ cap1 ≤ maxLen := by
      rcases hown.2 with ⟨e, _⟩ | ⟨g, c, cur, e, _, _, h1, h2, _⟩
      · cases e
      · injection e with e1 e2 e3
        subst e3
        exact ⟨h1, h2⟩
    exact ⟨_, cap1, rfl, gr_past (World.grownBy_alloc w _ none) hgrow (Nat.le_refl _), frm.row_own hown (Nat.le_refl _) h0, hc.1, hc.2⟩
/-- These numbers come back, of their own memory. -/
def RetN (o : List Int) (w : World) (e : Ending) (w' : World) : Prop := ∃ a cap, e = .returned (.slice a o.length cap) ∧ w.grownBy w' none ∧ il.Own w' a o ∧ (∀ x : Addr, a = some x → w.heap.size ≤ x.block) ∧ o.length ≤ cap ∧ cap ≤ maxLen

set_option maxRecDepth 100000 in
set_option maxHeartbeats 2000000 in
theorem specReal (x : V) (p : P) (w : World) (h : Arg w x.br p) (ho : Seven x.br.ou) (hb : 0 ≤ x.bk ∧ x.bk ≤ 63) : Calls Tryz.prog 149 #[wv x p] w (RetN (realTo x.bk x.br.ou 6) w) := by
  have K := Has.fresh w 92 (cs23 x p)
  have G := World.grownBy_alloc w (Obj.cells (cs23 x p) 92) none
  have cC := fun W k => specCopyC p.ou p.oc x.br.ou W k (fun e => by have := ho.1; rw [e] at this; simp at this) (by rw [ho.1]; omega)
  have H7 := Lib.hid ho
  clear ho
  obtain ⟨c0, c1, c2, c3, c4, c5, c6, c7, c8, c9, c10, c11, c12, c13, c14, c15, c16, c17, c18, c19, c20, c21, c22⟩ := cells K
  clear c0 c1 c2 c3 c4 c5 c6 c7 c8 c9 c10 c12 c13 c14 c15 c17 c18 c19 c20 c21 c22
  go_enter Tryz.func149, Tryz.ntmps149
  go_wp2_with fail
  refine (cC _ (h.ou.kept G)).mono ?_
  rintro e w1 ⟨a, cap, rfl, r, O, hc1, hc2⟩
  replace hc1 := Lib.hid hc1
  replace hc2 := Lib.hid hc2
  have hne : x.br.ou ≠ [] := fun e => by have := H7.out.1; rw [e] at this; simp at this
  have hab : ∀ y : Addr, a = some y → w.heap.size < y.block := fun y e => by
    have := stm.own_ge O y.block ⟨hne, y, e, rfl⟩
    simp at this
    omega
  have oV : il.Own w1 a x.br.ou := stm.OwnV.of O
  replace G := gr_trans G r
  replace K := K.grown r (by simp)
  clear c11 c16 O r hne
  rw [← real_len x.bk x.br.ou 6]
  go_wp2_with fail
  go_loopw [4] (fun i wr => ∃ k : Nat, k ≤ 6 ∧ i = .int .i64 k ∧ Has wr w.heap.size 92 (cs23 x p) ∧ w.grownBy wr none ∧ il.Own wr a (realTo x.bk x.br.ou k)) (fun i _ => 6 - (intOf i).toNat)
  case atStart => exact ⟨0, by omega, rfl, K, G, oV⟩
  case round =>
    clear K G oV
    obtain ⟨k, hk, rfl, K, G, oV⟩ := hrel
    by_cases hlt : k < 6
    · obtain ⟨c0, c1, c2, c3, c4, c5, c6, c7, c8, c9, c10, c11, c12, c13, c14, c15, c16, c17, c18, c19, c20, c21, c22⟩ := cells K
      clear c0 c1 c2 c3 c4 c5 c6 c7 c8 c9 c10 c11 c12 c13 c14 c15 c17 c18 c19 c20 c21 c22
      have hkl : k < (realTo x.bk x.br.ou k).length := by rw [real_len]; have := H7.out.1; omega
      have hk6 : k < (realTo x.bk x.br.ou 6).length := by rw [real_len]; have := H7.out.1; omega
      obtain ⟨g, o, rfl, lg, cg, fg, ⟨cs, Hg⟩, oV2⟩ := own_put oV hkl 0
      have lw := hab _ rfl
      simp only at lw
      have ng : w.heap.size ≠ g := by omega
      have hS : ∀ b, bit x.bk k = b → (bits BinOp.and IntKind.i64 (x.bk / 2 ^ k) 1 == 1) = b := fun b e => e
      cases hb1 : bit x.bk k
      · have h1 := hS _ hb1
        have eq : realTo x.bk x.br.ou (k + 1) = realTo x.bk x.br.ou k := by show (if bit x.bk k = true then _ else _) = _; rw [hb1]; rfl
        rw [← eq] at oV
        clear eq hb1 hS oV2 cg fg
        go_wp2_with fail
        go_roundw
        case rel => exact ⟨k + 1, by omega, by go_num, K, G, oV⟩
        case measure => simp [intOf]; omega
      · have h1 := hS _ hb1
        have eq : realTo x.bk x.br.ou (k + 1) = (realTo x.bk x.br.ou k).set k 0 := by show (if bit x.bk k = true then _ else _) = _; rw [hb1]; rfl
        rw [← eq] at oV2
        clear eq hb1 hS
        go_wp2_with fail
        go_roundw
        case rel => exact ⟨k + 1, by omega, by go_num, K.set_other ng _ _, gr_new G (by omega) _ _, oV2⟩
        case measure => simp [intOf]; omega
    · obtain rfl : k = 6 := by omega
      go_wp2_with fail
      go_ret
      exact ⟨a, cap, rfl, G, oV, fun y e => Nat.le_of_lt (hab y e), by rw [real_len]; exact hc1.out, hc2.out⟩
end Go.Proofs.YtdikhdfpcipdbaaGreatDoor.wd
