/- ReadFrame of the program. -/
import Derived.Test.YtfobbjimcmjfkaaDoorFrAhead
namespace Go.Proofs.YtfobbjimcmjfkaaDoor.frm
open Go.ChangeShapes Go.WideShapes Go.ChangeAt Go.RowKit
open Go.Proofs.YtfobbjimcmjfkaaDoor.nums Go.Proofs.YtfobbjimcmjfkaaDoor.mem Go.Proofs.YtfobbjimcmjfkaaDoor.txt Go.Proofs.YtfobbjimcmjfkaaDoor.fix
open Go.Proofs.YtfobbjimcmjfkaaDoor.tab (Ret quiet_w wpList_make_has)
set_option linter.unusedVariables false

theorem Own.grown {base : Nat} {w w' : World} {a : Option Addr} {vs : List Int} {row : Option Nat} (h : Own base w a vs) (hg : w.grownBy w' row) (hn : ∀ g, base ≤ g → some g ≠ row) : Own base w' a vs := by
  obtain ⟨g, o, cs, ha, hb, hc, hj⟩ := h
  exact ⟨g, o, cs, ha, hb, hc.grown hg (hn g hb), hj⟩
theorem Own.kept {base : Nat} {w w' : World} {a : Option Addr} {vs : List Int} (h : Own base w a vs) (hg : w.grownBy w' none) : Own base w' a vs := h.grown hg (fun _ _ => by simp)
theorem Own.up {base base' : Nat} {w : World} {a : Option Addr} {vs : List Int} (h : Own base w a vs) (hb : base' ≤ base) : Own base' w a vs := by
  obtain ⟨g, o, cs, ha, hb', hc, hj⟩ := h
  exact ⟨g, o, cs, ha, by omega, hc, hj⟩

theorem Own.set {n : Nat} {w : World} {a : Option Addr} {vs : List Int} (h : Own (n + 1) w a vs) (i : Nat) (u : Value) : Own (n + 1) (w.setCell ⟨n, i, none⟩ u) a vs :=
  h.grown (gr_set (gr_refl w (some n)) i u) (fun g hg e => by injection e with e; omega)

/-- What ReadFrame answers, where r is what is read. -/
def ReadOut (r : Option (Int × Int × List Int)) (w : World) (e : Ending) (w' : World) : Prop := w.grownBy w' none ∧
  match r with
  | some (k, sq, vs) => ∃ a cap, e = .returned (.tuple #[fr k sq a vs.length cap, .bool true]) ∧ Own w.heap.size w' a vs
  | none => e = .returned (.tuple #[fr 0 0 none 0 0, .bool false])

theorem notFrame_none {l : List UInt8} (h : NotFrame l) : IsRead l none := by
  intro k sq vs ho e
  rw [showF_cons ho] at e
  exact h (letter k) (sq :: vs) _ (okF_small ho) (by simp) e.symm
theorem ok_of_show {k sq : Int} {vs : List Int} (h : showF k sq vs ≠ []) : okF k sq vs = true := by
  cases ho : okF k sq vs
  · exact absurd (showF_not ho) h
  · rfl
theorem read_some {l : List UInt8} {k sq : Int} {vs : List Int} (hne : l ≠ []) (h : showF k sq vs = l) : IsRead l (some (k, sq, vs)) := ⟨ok_of_show (by rw [h]; exact hne), h⟩
theorem read_not {l : List UInt8} {k sq : Int} {vs : List Int} (hU : ∀ x ns t, (∀ n ∈ ns, -1000000000 < n ∧ n < 1000000000) → l = x :: (blanks ns ++ 32 :: 42 :: t) → ns = sq :: vs ∧ k = kindL x) (h : showF k sq vs ≠ l) : IsRead l none := by
  intro k' sq' vs' ho e
  have e' := e
  rw [showF_cons ho] at e'
  obtain ⟨h1, h2⟩ := hU (letter k') (sq' :: vs') _ (okF_small ho) e'.symm
  obtain ⟨k1, k2, _⟩ := okF_parts ho
  rw [kindL_letter k1 k2] at h2
  simp only [List.cons.injEq] at h1
  obtain ⟨rfl, rfl⟩ := h1
  subst h2
  exact h e

set_option maxRecDepth 100000 in
set_option maxHeartbeats 2000000 in
theorem implRead (l : List UInt8) (r : Option (Int × Int × List Int)) (w : World) (hl : l.length ≤ 1048576) (hr : IsRead l r) (hv : Vals w) (hp : Pow w) : Calls Tryd.prog 34 #[str l] w (ReadOut r w) := by
  have g0 := World.grownBy_alloc w (Obj.cells #[.int .i64 0, .int .i64 0, .slice none 0 0] 37) none
  have H0 := Has.fresh w 37 #[.int .i64 0, .int .i64 0, .slice none 0 0]
  have hsz : (w.alloc (Obj.cells #[.int .i64 0, .int .i64 0, .slice none 0 0] 37)).heap.size = w.heap.size + 1 := by simp
  go_enter Tryd.func34, Tryd.ntmps34
  go_wp2_with fail
  refine (implAhead l _ hl).mono ?_
  rintro e w1 ⟨hg1, ⟨rfl, hNF⟩ | ⟨k, sq, a, cap, vs, rfl, hne, hvl, hO, hU⟩⟩
  · obtain rfl := isRead_uniq hr (notFrame_none hNF)
    replace g0 := gr_trans g0 hg1
    replace H0 := H0.grown hg1 (by simp)
    have HA := H0.alloc (Obj.cells #[.int .i64 0, .int .i64 0, .slice none 0 0] 37)
    obtain ⟨p0, p1, p2, q0, q1, q2⟩ := three HA
    clear hNF hr hg1
    go_wp2_with fail
    obtain ⟨r0, r1, r2, _, _, _⟩ := three (set3 HA (.int .i64 0) (.int .i64 0) (.slice none 0 0))
    exact bodyPost_ret (v := .tuple #[fr 0 0 none 0 0, .bool false]) (by simp [results, Tryd.results34, go_sem, r0, r1, r2]) rfl ⟨gr_new (gr_new (gr_new (gr_alloc g0 _) (Nat.le_refl _) _ _) (Nat.le_refl _) _ _) (Nat.le_refl _) _ _, rfl⟩
  · replace g0 := gr_trans g0 hg1
    replace H0 := H0.grown hg1 (by simp)
    have HA := H0.alloc (Obj.cells #[.int .i64 k, .int .i64 sq, .slice a vs.length cap] 37)
    have HB := Has.fresh w1 37 #[.int .i64 k, .int .i64 sq, .slice a vs.length cap]
    have g1 := gr_alloc g0 (Obj.cells #[.int .i64 k, .int .i64 sq, .slice a vs.length cap] 37)
    have hO1 := hO.kept (World.grownBy_alloc w1 (Obj.cells #[.int .i64 k, .int .i64 sq, .slice a vs.length cap] 37) none)
    have hsh := implShow k sq a cap vs _ (hv.kept g1) (Pow.kept hp g1) hO1.ints (by unfold maxLen; omega)
    go_wp2_with fail
    refine hsh.mono ?_
    rintro e w2 ⟨rfl, hg2⟩
    replace HA := HA.grown hg2 (by simp)
    replace HB := HB.grown hg2 (by simp)
    replace g1 := gr_trans g1 hg2
    rw [hsz] at hO1
    have hO2 := hO1.kept hg2
    clear hO hO1 hsh hg2 hg1 H0 g0 hsz
    obtain ⟨p0, p1, p2, q0, q1, q2⟩ := three HA
    obtain ⟨b0, b1, b2, _, _, _⟩ := three HB
    by_cases hs : showF k sq vs = l
    · obtain rfl := isRead_uniq hr (read_some hne hs)
      rw [hs]
      clear hr hU hs
      go_wp2_with fail
      obtain ⟨r0, r1, r2, _, _, _⟩ := three (set3 HA (.int .i64 k) (.int .i64 sq) (.slice a vs.length cap))
      exact bodyPost_ret (v := .tuple #[fr k sq a vs.length cap, .bool true]) (by simp [results, Tryd.results34, go_sem, r0, r1, r2]) rfl ⟨gr_new (gr_new (gr_new g1 (Nat.le_refl _) _ _) (Nat.le_refl _) _ _) (Nat.le_refl _) _ _, a, cap, rfl, (((hO2.set _ _).set _ _).set _ _).up (Nat.le_succ _)⟩
    · obtain rfl := isRead_uniq hr (read_not hU hs)
      have hb : (showF k sq vs == l) = false := by rw [beq_eq_false_iff_ne]; exact hs
      clear hr hU hs
      generalize showF k sq vs = T at *
      go_wp2_with fail
      obtain ⟨r0, r1, r2, _, _, _⟩ := three (set3 HA (.int .i64 0) (.int .i64 0) (.slice none 0 0))
      exact bodyPost_ret (v := .tuple #[fr 0 0 none 0 0, .bool false]) (by simp [results, Tryd.results34, go_sem, r0, r1, r2]) rfl ⟨gr_new (gr_new (gr_new g1 (Nat.le_refl _) _ _) (Nat.le_refl _) _ _) (Nat.le_refl _) _ _, rfl⟩
end Go.Proofs.YtfobbjimcmjfkaaDoor.frm
