/- Two senses told alike, whatever they are. -/
import Derived.Test.YtdikhdfpcipdbaaGreatDoorG38
import Derived.Test.YtdikhdfpcipdbaaGreatDoorHFnSenses1
import Derived.Test.YtdikhdfpcipdbaaGreatDoorG13
/- Two senses told alike, whatever they are. -/
namespace Go.Proofs.YtdikhdfpcipdbaaGreatDoor.se
open Go.ChangeShapes Go.WideShapes Go.ChangeAt Go.RowKit
open Go.Proofs.YtdikhdfpcipdbaaGreatDoor.nums Go.Proofs.YtdikhdfpcipdbaaGreatDoor.mem
open Go.Proofs.YtdikhdfpcipdbaaGreatDoor.tab (Ret)
open Go.Proofs.YtdikhdfpcipdbaaGreatDoor.rd (R okR ageR zR rx ra ro neqR eqR guardR)
open Go.Proofs.YtdikhdfpcipdbaaGreatDoor.il (nth Ints Own)
set_option linter.unusedVariables false

/-- Some answer: true where p. -/
def Tells (p : Prop) (w : World) (e : Ending) (w' : World) : Prop := ∃ v : Bool, e = .returned (.bool v) ∧ w.grownBy w' none ∧ (p → v = true)

set_option maxRecDepth 100000 in
set_option maxHeartbeats 1000000 in
theorem likeIntsAny (a a' : Option Addr) (cap cap' : Nat) (l l' : List Int) (w : World) (h : Ints w a l) (h' : Ints w a' l') (hl : l.length ≤ 1048576) (hl' : l'.length ≤ 1048576) :
    Calls Tryz.prog 38 #[.slice a l.length cap, .slice a' l'.length cap'] w (Tells (l = l') w) := by
  by_cases he : l.length = l'.length
  · have hb : ((l.length : Int) == (l'.length : Int)) = true := by simp [he]
    rw [← he]
    go_enter Tryz.func38, Tryz.ntmps38
    go_wp2_with fail
    go_loopw [5] (fun i wr => ∃ k : Nat, k ≤ l.length ∧ i = .int .i64 k ∧ w.grownBy wr none) (fun i _ => l.length - (intOf i).toNat)
    case atStart => exact ⟨0, Nat.zero_le _, rfl, gr_refl _ _⟩
    case round =>
      obtain ⟨k, hk, rfl, hg⟩ := hrel
      by_cases hlt : k < l.length
      · obtain ⟨x, rfl, _, cx⟩ := (h.kept hg) k hlt
        obtain ⟨x', rfl, _, dx⟩ := (h'.kept hg) k (by omega)
        by_cases hn : nth l k = nth l' k
        · rw [← hn] at dx
          clear hn
          go_wp2_with fail
          go_quiet (fail)
          go_wp2_with fail
          go_roundw
          case rel => exact ⟨k + 1, by omega, by go_num, gr_drewN hg _⟩
          case measure => simp [intOf]; omega
        · have hn' : (nth l k == nth l' k) = false := by rw [beq_eq_false_iff_ne]; exact hn
          have hne : Hid (l ≠ l') := Lib.hid (fun e => hn (by rw [e]))
          clear hn
          generalize nth l k = A at *
          generalize nth l' k = B at *
          go_wp2_with fail
          go_quiet (fail)
          go_wp2_with fail
          go_ret
          exact ⟨false, rfl, gr_drewN hg _, fun e => absurd e hne.out⟩
      · obtain rfl : k = l.length := by omega
        go_wp2_with fail
        go_ret
        exact ⟨true, rfl, hg, fun _ => rfl⟩
  · have hb : ((l.length : Int) == (l'.length : Int)) = false := by rw [beq_eq_false_iff_ne]; omega
    go_enter Tryz.func38, Tryz.ntmps38
    go_wp2_with fail
    go_ret
    exact ⟨false, rfl, gr_refl _ _, fun e => absurd (by rw [e]) he⟩

set_option maxRecDepth 100000 in
set_option maxHeartbeats 2000000 in
theorem likeReadingsAny (a a' : Option Addr) (cap cap' : Nat) (l l' : List R) (w : World) (h : rd.Arg w a l) (h' : rd.Arg w a' l') (hl : l.length ≤ 1048576) (hl' : l'.length ≤ 1048576) :
    Calls Tryz.prog 37 #[.slice a l.length cap, .slice a' l'.length cap'] w (Tells (l = l') w) := by
  by_cases he : l.length = l'.length
  · have hb : ((l.length : Int) == (l'.length : Int)) = true := by simp [he]
    rw [← he]
    go_enter Tryz.func37, Tryz.ntmps37
    go_wp2_with fail
    go_loopw [5] (fun i wr => ∃ k : Nat, k ≤ l.length ∧ i = .int .i64 k ∧ w.grownBy wr none) (fun i _ => l.length - (intOf i).toNat)
    case atStart => exact ⟨0, Nat.zero_le _, rfl, gr_refl _ _⟩
    case round =>
      obtain ⟨k, hk, rfl, hg⟩ := hrel
      by_cases hlt : k < l.length
      · obtain ⟨x, rfl, _, cx, cy, cz⟩ := (h.kept hg) k hlt
        obtain ⟨x', rfl, _, dx, dy, dz⟩ := (h'.kept hg) k (by omega)
        have hq := fun W => neqR W (rx l k) (ra l k) (rx l' k) (ra l' k) (ro l k) (ro l' k)
        have hG := guardR
        have hne : Hid (eqR (rx l k, ra l k, ro l k) (rx l' k, ra l' k, ro l' k) = false → l ≠ l') := Lib.hid (fun h0 e => by subst e; rw [rd.eqR_same] at h0; cases h0)
        generalize hE : eqR (rx l k, ra l k, ro l k) (rx l' k, ra l' k, ro l' k) = E at *
        clear hE
        cases E
        · go_wp2_with fail
          go_quiet (fail)
          go_wp2_with fail
          go_ret
          exact ⟨false, rfl, gr_drewN hg _, fun e => absurd e (hne.out (by first | rfl | trivial))⟩
        · clear hne
          go_wp2_with fail
          go_quiet (fail)
          go_wp2_with fail
          go_roundw
          case rel => exact ⟨k + 1, by omega, by go_num, gr_drewN hg _⟩
          case measure => simp [intOf]; omega
      · obtain rfl : k = l.length := by omega
        go_wp2_with fail
        go_ret
        exact ⟨true, rfl, hg, fun _ => rfl⟩
  · have hb : ((l.length : Int) == (l'.length : Int)) = false := by rw [beq_eq_false_iff_ne]; omega
    go_enter Tryz.func37, Tryz.ntmps37
    go_wp2_with fail
    go_ret
    exact ⟨false, rfl, gr_refl _ _, fun e => absurd (by rw [e]) he⟩
set_option maxRecDepth 100000 in
set_option maxHeartbeats 2000000 in
theorem likeSenses (s t : S) (p r : P) (w : World) (h : Arg w s p) (h' : Arg w t r) (hb : Bd s 1048576) (hb' : Bd t 1048576) : Calls Tryz.prog 10 #[sv s p, sv t r] w (Tells (s = t) w) := by
  have K := (Has.fresh w 27 (cs6 s p)).alloc (Obj.cells (cs6 t r) 27)
  have M := Has.fresh (w.alloc (Obj.cells (cs6 s p) 27)) 27 (cs6 t r)
  have g0 := gr_alloc (World.grownBy_alloc w (Obj.cells (cs6 s p) 27) none) (Obj.cells (cs6 t r) 27)
  simp only [World.size_alloc] at M
  replace h := h.kept g0
  replace h' := h'.kept g0
  obtain ⟨⟨c0, c1, c2⟩, c3, c4, c5⟩ := six K
  obtain ⟨⟨d0, d1, d2⟩, d3, d4, d5⟩ := six M
  go_enter Tryz.func10, Tryz.ntmps10
  go_wp2_with fail
  refine (likeReadingsAny p.a1 r.a1 p.c1 r.c1 s.sp t.sp _ h.sp h'.sp hb.sp hb'.sp).mono ?_
  rintro e w1 ⟨v1, rfl, g1, q1⟩
  replace K := K.grown g1 (by simp)
  replace M := M.grown g1 (by simp)
  replace g0 := gr_trans g0 g1
  replace h := h.kept g1
  replace h' := h'.kept g1
  clear g1 c0 c1 c2 c3 c4 c5 d0 d1 d2 d3 d4 d5
  obtain ⟨⟨c0, c1, c2⟩, c3, c4, c5⟩ := six K
  obtain ⟨⟨d0, d1, d2⟩, d3, d4, d5⟩ := six M
  have H1 := Lib.hid (fun e : s = t => q1 (by rw [e]))
  clear q1
  cases v1
  · go_wp2_with fail
    go_ret
    exact ⟨false, rfl, g0, H1.out⟩
  · clear H1
    go_wp2_with fail
    refine (likeReadingsAny p.a2 r.a2 p.c2 r.c2 s.he t.he _ h.he h'.he hb.he hb'.he).mono ?_
    rintro e w2 ⟨v1, rfl, g1, q1⟩
    replace K := K.grown g1 (by simp)
    replace M := M.grown g1 (by simp)
    replace g0 := gr_trans g0 g1
    replace h := h.kept g1
    replace h' := h'.kept g1
    clear g1 c0 c1 c2 c3 c4 c5 d0 d1 d2 d3 d4 d5
    obtain ⟨⟨c0, c1, c2⟩, c3, c4, c5⟩ := six K
    obtain ⟨⟨d0, d1, d2⟩, d3, d4, d5⟩ := six M
    have H1 := Lib.hid (fun e : s = t => q1 (by rw [e]))
    clear q1
    cases v1
    · go_wp2_with fail
      go_ret
      exact ⟨false, rfl, g0, H1.out⟩
    · clear H1
      go_wp2_with fail
      refine (likeReadingsAny p.a3 r.a3 p.c3 r.c3 s.fa t.fa _ h.fa h'.fa hb.fa hb'.fa).mono ?_
      rintro e w3 ⟨v1, rfl, g1, q1⟩
      replace K := K.grown g1 (by simp)
      replace M := M.grown g1 (by simp)
      replace g0 := gr_trans g0 g1
      replace h := h.kept g1
      replace h' := h'.kept g1
      clear g1 c0 c1 c2 c3 c4 c5 d0 d1 d2 d3 d4 d5
      obtain ⟨⟨c0, c1, c2⟩, c3, c4, c5⟩ := six K
      obtain ⟨⟨d0, d1, d2⟩, d3, d4, d5⟩ := six M
      have H1 := Lib.hid (fun e : s = t => q1 (by rw [e]))
      clear q1
      cases v1
      · go_wp2_with fail
        go_ret
        exact ⟨false, rfl, g0, H1.out⟩
      · clear H1
        have H2 := Lib.hid (fun e : s = t => (by rw [e] : s.wn = t.wn))
        have H3 := Lib.hid (fun e : s = t => (by rw [e] : s.ar = t.ar))
        have H4 := Lib.hid (fun e : s = t => (by rw [e] : s.sq = t.sq))
        have cL := fun W (k : Ints W p.a4 s.sq) (k' : Ints W r.a4 t.sq) => likeIntsAny p.a4 r.a4 p.c4 r.c4 s.sq t.sq W k k' hb.sq hb'.sq
        have k4 := h.sq
        have k4' := h'.sq
        generalize s.wn = x1 at *
        generalize t.wn = x2 at *
        generalize s.ar = y1 at *
        generalize t.ar = y2 at *
        generalize s.sq = z1 at *
        generalize t.sq = z2 at *
        by_cases e1 : x1 = x2
        · subst e1
          clear H2
          by_cases e2 : y1 = y2
          · subst e2
            clear H3
            go_wp2_with fail
            refine (cL _ k4 k4').mono ?_
            rintro e w4 ⟨v1, rfl, g1, q1⟩
            have H1 := Lib.hid (fun e : s = t => q1 (H4.out e))
            clear q1 H4
            cases v1
            · go_wp2_with fail
              go_ret
              exact ⟨false, rfl, gr_trans g0 g1, H1.out⟩
            · go_wp2_with fail
              go_ret
              exact ⟨true, rfl, gr_trans g0 g1, fun _ => rfl⟩
          · have e2' : (y1 == y2) = false := by rw [beq_eq_false_iff_ne]; exact e2
            have H5 := Lib.hid (fun e : s = t => e2 (H3.out e))
            clear H3 e2
            go_wp2_with fail
            go_ret
            exact ⟨false, rfl, g0, fun e => absurd e H5.out⟩
        · have e1' : (x1 == x2) = false := by rw [beq_eq_false_iff_ne]; exact e1
          have H5 := Lib.hid (fun e : s = t => e1 (H2.out e))
          clear H2 e1
          go_wp2_with fail
          go_ret
          exact ⟨false, rfl, g0, fun e => absurd e H5.out⟩
end Go.Proofs.YtdikhdfpcipdbaaGreatDoor.se

