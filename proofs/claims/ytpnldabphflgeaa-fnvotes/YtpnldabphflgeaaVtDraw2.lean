/- The draw of two votes. -/
import Derived.Test.YtpnldabphflgeaaVtDraw
import Derived.Deep.RegionHeld3
namespace Go.Proofs.Ytpnldabphflgeaa.vt
open Go.ChangeShapes Go.WideShapes Go.ChangeAt Go.RowKit
open Go.Proofs.Ytpnldabphflgeaa.nums Go.Proofs.Ytpnldabphflgeaa.mem Go.Proofs.Ytpnldabphflgeaa.cur Go.Proofs.Ytpnldabphflgeaa.rd
open Go.Proofs.Ytpnldabphflgeaa.tab (Ret quiet_w)
set_option linter.unusedVariables false

def tab5 (k : Nat) : Int := [10, 10, 0, -1, 1000000].getD k 0
theorem tab5_cell (k : Nat) (hk : k < 5) : #[Value.int .i64 10, .int .i64 10, .int .i64 0, .int .i64 (-1), .int .i64 1000000][k]? = some (.int .i64 (tab5 k)) := by
  obtain rfl | rfl | rfl | rfl | rfl : k = 0 ∨ k = 1 ∨ k = 2 ∨ k = 3 ∨ k = 4 := by omega
  all_goals rfl
/-- The draw of a list and two numbers. -/
def DrawnLMA (w : World) (e : Ending) (w' : World) : Prop :=
  ∃ (a : Option Addr) (cap : Nat) (l : List R) (m ap : Int), e = .returned (.tuple #[.slice a l.length cap, .int .i64 m, .int .i64 ap]) ∧ l.length ≤ 4 ∧ w.grownBy w' none ∧ Arg w' a l

theorem set_second {w : World} {g : Nat} {cs : Array Value} {l : List R} (hc : Has w g 37 cs) (hl : l.length = 2)
    (hj : ∀ k, k < l.length → cs[k * 3]? = some (.int .i64 (rx l k)) ∧ cs[k * 3 + 1]? = some (.int .i64 (ra l k)) ∧ cs[k * 3 + 2]? = some (.bool (ro l k))) (v : Int) :
    ∃ l' : List R, l'.length = 2 ∧ Arg (w.setCell ⟨g, 3, none⟩ (.int .i64 v)) (some ⟨g, 0, none⟩) l' := by
  refine ⟨[(rx l 0, ra l 0, ro l 0), (v, ra l 1, ro l 1)], rfl, OwnR.arg (Or.inr ⟨g, _, rfl, hc.set 3 _, fun k hk => ?_⟩)⟩
  obtain ⟨a0, a1, a2⟩ := hj 0 (by omega)
  obtain ⟨b0, b1, b2⟩ := hj 1 (by omega)
  have hk2 : k = 0 ∨ k = 1 := by have : k < 2 := hk; omega
  have hs : 3 < cs.size := by
    rcases Nat.lt_or_ge 3 cs.size with h | h
    · exact h
    · have := Array.getElem?_eq_none (i := 1 * 3) (xs := cs) (by omega)
      rw [this] at b0; cases b0
  rcases hk2 with rfl | rfl
  · refine ⟨?_, ?_, ?_⟩
    · rw [Array.getElem?_setIfInBounds_ne (by omega)]; exact a0
    · rw [Array.getElem?_setIfInBounds_ne (by omega)]; exact a1
    · rw [Array.getElem?_setIfInBounds_ne (by omega)]; exact a2
  · refine ⟨?_, ?_, ?_⟩
    · rw [Array.getElem?_setIfInBounds_self_of_lt (by omega)]; rfl
    · rw [Array.getElem?_setIfInBounds_ne (by omega)]; exact b1
    · rw [Array.getElem?_setIfInBounds_ne (by omega)]; exact b2

set_option maxRecDepth 100000 in
set_option maxHeartbeats 8000000 in
theorem drawVoteTwo (b : Option Addr) (n c : Nat) (w : World) (hn : n ≤ 4096) (hb : Bytes w w.heap.size b n) :
    Calls Try.prog 11 #[.slice b n c] w (DrawnLMA w) := by
  go_enter Try.func11, Try.ntmps11
  go_wp2_with fail
  refine (new b n c _ hn hb).mono ?_
  rintro e w1 ⟨q, rfl, hq, g1, h1⟩
  go_wp2_with fail
  refine (once b n c q _ 14 hn h1 (by omega)).mono ?_
  rintro e w2 ⟨v, rfl, g2, h2⟩
  replace g1 := gr_past g1 g2 hq
  clear g2 h1 hb
  cases v
  · go_wp2_with fail
    refine (drawList b n c q 2 _ hn (by omega) h2).mono ?_
    rintro e w4 ⟨g, cap, l, rfl, hlen, hR, hge, g4, h4, hown⟩
    have hz := h2.lt
    have hgq : q < g := by omega
    have hgw : w.heap.size ≤ g := Nat.le_trans g1.size hge
    have A := arg_of_row hown
    obtain ⟨cs, hcs, hj⟩ := row_owned hown
    replace g1 := gr_past g1 g4 hq
    rw [hlen]
    clear g4 h2 hown
    go_wp2_with fail
    refine (once b n c q _ 2 hn h4 (by omega)).mono ?_
    rintro e w5 ⟨u, rfl, g5, h2⟩
    replace A := A.grown g5 (fun x e => by cases e; simp; omega)
    replace hcs := hcs.grown g5 (fun e => by injection e with e; omega)
    replace g1 := gr_past g1 g5 hq
    clear g5 h4
    cases u
    · go_wp2_with fail
      refine (from_ b n c q _ 0 6 hn h2 (by omega) (by omega) (by omega) (by omega)).mono ?_
      rintro e w6 ⟨m, hm, rfl, g6, h6⟩
      replace A := A.grown g6 (fun x e => by cases e; simp; omega)
      replace g1 := gr_past g1 g6 hq
      have hz6 := h6.lt
      clear g6 h2
      go_wp2_with fail
      have hD : Cur b n c w6.drew q := h6
      have hE : Cur b n c (w6.alloc (Obj.cells #[.int .i64 10, .int .i64 10, .int .i64 0, .int .i64 (-1), .int .i64 1000000] 2)).drew q := h6.alloc _
      go_region_with (first | (go_at_call 25; refine (below b n c q _ 5 hn hD (by omega)).mono ?_; rintro e w7 ⟨x, ⟨x0, x1⟩, rfl, g7, h7⟩; obtain ⟨k, rfl⟩ := Int.eq_ofNat_of_zero_le x0; have hk : k < 5 := (by omega); have hc := (Has.fresh w7 2 #[Value.int .i64 10, .int .i64 10, .int .i64 0, .int .i64 (-1), .int .i64 1000000]).cell k; rw [tab5_cell k hk] at hc) | (go_at_call 25; refine (below b n c q _ 5 hn hE (by omega)).mono ?_; rintro e w7 ⟨x, ⟨x0, x1⟩, rfl, g7, h7⟩; obtain ⟨k, rfl⟩ := Int.eq_ofNat_of_zero_le x0; have hk : k < 5 := (by omega); have hc := (((Has.fresh w6 2 #[Value.int .i64 10, .int .i64 10, .int .i64 0, .int .i64 (-1), .int .i64 1000000]).drewN 1).grown g7 (by simp; omega)).cell k; rw [tab5_cell k hk] at hc))
      all_goals go_wp2_with fail
      all_goals go_ret3
      all_goals first | exact ⟨some ⟨g, 0, none⟩, cap, l, m, tab5 k, by rw [hlen]; rfl, by omega, gr_past (gr_drewN (gr_alloc g1 (Obj.cells #[.int .i64 10, .int .i64 10, .int .i64 0, .int .i64 (-1), .int .i64 1000000] 2)) 1) g7 hq, ((A.kept (World.grownBy_alloc w6 (Obj.cells #[.int .i64 10, .int .i64 10, .int .i64 0, .int .i64 (-1), .int .i64 1000000] 2) none)).kept (gr_drewN (gr_refl _ _) 1)).grown g7 (fun x e => by cases e; simp; omega)⟩ | exact ⟨some ⟨g, 0, none⟩, cap, l, m, tab5 k, by rw [hlen]; rfl, by omega, gr_alloc (gr_past (gr_drewN g1 1) g7 hq) _, ((A.kept (gr_drewN (gr_refl _ _) 1)).grown g7 (fun x e => by cases e; simp; omega)).kept (World.grownBy_alloc _ _ _)⟩
    · obtain ⟨z0, _, _⟩ := hj 0 (by omega)
      obtain ⟨z3, _, _⟩ := hj 1 (by omega)
      have c0 : w5.cell? ⟨g, 0, none⟩ = some (.int .i64 (rx l 0)) := (hcs.cell 0).trans z0
      have h2d : Cur b n c w5.drew q := h2
      go_wp2_with fail
      go_region_held3 (fun W => W.cell? ⟨g, 0, none⟩ = some (.int .i64 (rx l 0))) (first | exact ((hcs6.set 3 _).cell 0).trans (by rw [Array.getElem?_setIfInBounds_ne (by omega)]; exact z0) | exact (hcs6.cell 0).trans z0 | go_keep) (first | (go_at_call 27; refine (from_ b n c q _ (-12) 12 hn h2d (by omega) (by omega) (by omega) (by omega)).mono ?_; rintro e w8 ⟨x, hx, rfl, g8, h8⟩; have hcs6 := (hcs.drewN 1).grown g8 (fun e => by injection e with e; omega); have k0 := (hcs6.cell 0).trans z0; have k3 := (hcs6.cell 3).trans z3; have f3 := hcs6.frozen 3))
      obtain ⟨l', hl', A'⟩ := set_second hcs6 hlen hj (IntKind.i64.wrap (rx l 0 + x))
      replace h8 : Cur b n c (w8.setCell ⟨g, 3, none⟩ (.int .i64 (IntKind.i64.wrap (rx l 0 + x)))) q := h8.kept (row := some g) (gr_set (gr_refl _ _) _ _) (fun r e => by injection e with e; omega)
      replace g1 := gr_new (gr_past (gr_drewN g1 1) g8 hq) hgw 3 (.int .i64 (IntKind.i64.wrap (rx l 0 + x)))
      clear hcs6 k0 k3 f3 g8 z0 z3 c0 h2d hcs hj A h2
      generalize w8.setCell ⟨g, 3, none⟩ (.int .i64 (IntKind.i64.wrap (rx l 0 + x))) = w9 at *
      have A := A'
      have h2 := h8
      clear A' h8
      go_wp2_with fail
      refine (from_ b n c q _ 0 6 hn h2 (by omega) (by omega) (by omega) (by omega)).mono ?_
      rintro e w6 ⟨m, hm, rfl, g6, h6⟩
      replace A := A.grown g6 (fun x e => by cases e; simp; omega)
      replace g1 := gr_past g1 g6 hq
      have hz6 := h6.lt
      clear g6 h2
      go_wp2_with fail
      have hD : Cur b n c w6.drew q := h6
      have hE : Cur b n c (w6.alloc (Obj.cells #[.int .i64 10, .int .i64 10, .int .i64 0, .int .i64 (-1), .int .i64 1000000] 2)).drew q := h6.alloc _
      go_region_with (first | (go_at_call 25; refine (below b n c q _ 5 hn hD (by omega)).mono ?_; rintro e w7 ⟨x, ⟨x0, x1⟩, rfl, g7, h7⟩; obtain ⟨k, rfl⟩ := Int.eq_ofNat_of_zero_le x0; have hk : k < 5 := (by omega); have hc := (Has.fresh w7 2 #[Value.int .i64 10, .int .i64 10, .int .i64 0, .int .i64 (-1), .int .i64 1000000]).cell k; rw [tab5_cell k hk] at hc) | (go_at_call 25; refine (below b n c q _ 5 hn hE (by omega)).mono ?_; rintro e w7 ⟨x, ⟨x0, x1⟩, rfl, g7, h7⟩; obtain ⟨k, rfl⟩ := Int.eq_ofNat_of_zero_le x0; have hk : k < 5 := (by omega); have hc := (((Has.fresh w6 2 #[Value.int .i64 10, .int .i64 10, .int .i64 0, .int .i64 (-1), .int .i64 1000000]).drewN 1).grown g7 (by simp; omega)).cell k; rw [tab5_cell k hk] at hc))
      all_goals go_wp2_with fail
      all_goals go_ret3
      all_goals first | exact ⟨some ⟨g, 0, none⟩, cap, l', m, tab5 k, by rw [hl']; rfl, by omega, gr_past (gr_drewN (gr_alloc g1 (Obj.cells #[.int .i64 10, .int .i64 10, .int .i64 0, .int .i64 (-1), .int .i64 1000000] 2)) 1) g7 hq, ((A.kept (World.grownBy_alloc w6 (Obj.cells #[.int .i64 10, .int .i64 10, .int .i64 0, .int .i64 (-1), .int .i64 1000000] 2) none)).kept (gr_drewN (gr_refl _ _) 1)).grown g7 (fun x e => by cases e; simp; omega)⟩ | exact ⟨some ⟨g, 0, none⟩, cap, l', m, tab5 k, by rw [hl']; rfl, by omega, gr_alloc (gr_past (gr_drewN g1 1) g7 hq) _, ((A.kept (gr_drewN (gr_refl _ _) 1)).grown g7 (fun x e => by cases e; simp; omega)).kept (World.grownBy_alloc _ _ _)⟩
  · go_wp2_with fail
    refine (below b n c q _ 4 hn h2 (by omega)).mono ?_
    rintro e w3 ⟨x, ⟨x0, x1⟩, rfl, g3, h3⟩
    obtain ⟨k, rfl⟩ := Int.eq_ofNat_of_zero_le x0
    have hk : k ≤ 3 := by omega
    replace g1 := gr_past g1 g3 hq
    clear g3 h2
    have h2 := h3
    clear h3
    have h4b : k = 2 ∨ k ≠ 2 := by omega
    rcases h4b with rfl | hk2
    · go_wp2_with fail
      refine (drawList b n c q 2 _ hn (by omega) h2).mono ?_
      rintro e w4 ⟨g, cap, l, rfl, hlen, hR, hge, g4, h4, hown⟩
      have hz := h2.lt
      have hgq : q < g := by omega
      have hgw : w.heap.size ≤ g := Nat.le_trans g1.size hge
      have A := arg_of_row hown
      obtain ⟨cs, hcs, hj⟩ := row_owned hown
      replace g1 := gr_past g1 g4 hq
      rw [hlen]
      clear g4 h2 hown
      go_wp2_with fail
      refine (once b n c q _ 2 hn h4 (by omega)).mono ?_
      rintro e w5 ⟨u, rfl, g5, h2⟩
      replace A := A.grown g5 (fun x e => by cases e; simp; omega)
      replace hcs := hcs.grown g5 (fun e => by injection e with e; omega)
      replace g1 := gr_past g1 g5 hq
      clear g5 h4
      cases u
      · go_wp2_with fail
        refine (from_ b n c q _ 0 6 hn h2 (by omega) (by omega) (by omega) (by omega)).mono ?_
        rintro e w6 ⟨m, hm, rfl, g6, h6⟩
        replace A := A.grown g6 (fun x e => by cases e; simp; omega)
        replace g1 := gr_past g1 g6 hq
        have hz6 := h6.lt
        clear g6 h2
        go_wp2_with fail
        have hD : Cur b n c w6.drew q := h6
        have hE : Cur b n c (w6.alloc (Obj.cells #[.int .i64 10, .int .i64 10, .int .i64 0, .int .i64 (-1), .int .i64 1000000] 2)).drew q := h6.alloc _
        go_region_with (first | (go_at_call 25; refine (below b n c q _ 5 hn hD (by omega)).mono ?_; rintro e w7 ⟨x, ⟨x0, x1⟩, rfl, g7, h7⟩; obtain ⟨k, rfl⟩ := Int.eq_ofNat_of_zero_le x0; have hk : k < 5 := (by omega); have hc := (Has.fresh w7 2 #[Value.int .i64 10, .int .i64 10, .int .i64 0, .int .i64 (-1), .int .i64 1000000]).cell k; rw [tab5_cell k hk] at hc) | (go_at_call 25; refine (below b n c q _ 5 hn hE (by omega)).mono ?_; rintro e w7 ⟨x, ⟨x0, x1⟩, rfl, g7, h7⟩; obtain ⟨k, rfl⟩ := Int.eq_ofNat_of_zero_le x0; have hk : k < 5 := (by omega); have hc := (((Has.fresh w6 2 #[Value.int .i64 10, .int .i64 10, .int .i64 0, .int .i64 (-1), .int .i64 1000000]).drewN 1).grown g7 (by simp; omega)).cell k; rw [tab5_cell k hk] at hc))
        all_goals go_wp2_with fail
        all_goals go_ret3
        all_goals first | exact ⟨some ⟨g, 0, none⟩, cap, l, m, tab5 k, by rw [hlen]; rfl, by omega, gr_past (gr_drewN (gr_alloc g1 (Obj.cells #[.int .i64 10, .int .i64 10, .int .i64 0, .int .i64 (-1), .int .i64 1000000] 2)) 1) g7 hq, ((A.kept (World.grownBy_alloc w6 (Obj.cells #[.int .i64 10, .int .i64 10, .int .i64 0, .int .i64 (-1), .int .i64 1000000] 2) none)).kept (gr_drewN (gr_refl _ _) 1)).grown g7 (fun x e => by cases e; simp; omega)⟩ | exact ⟨some ⟨g, 0, none⟩, cap, l, m, tab5 k, by rw [hlen]; rfl, by omega, gr_alloc (gr_past (gr_drewN g1 1) g7 hq) _, ((A.kept (gr_drewN (gr_refl _ _) 1)).grown g7 (fun x e => by cases e; simp; omega)).kept (World.grownBy_alloc _ _ _)⟩
      · obtain ⟨z0, _, _⟩ := hj 0 (by omega)
        obtain ⟨z3, _, _⟩ := hj 1 (by omega)
        have c0 : w5.cell? ⟨g, 0, none⟩ = some (.int .i64 (rx l 0)) := (hcs.cell 0).trans z0
        have h2d : Cur b n c w5.drew q := h2
        go_wp2_with fail
        go_region_held3 (fun W => W.cell? ⟨g, 0, none⟩ = some (.int .i64 (rx l 0))) (first | exact ((hcs6.set 3 _).cell 0).trans (by rw [Array.getElem?_setIfInBounds_ne (by omega)]; exact z0) | exact (hcs6.cell 0).trans z0 | go_keep) (first | (go_at_call 27; refine (from_ b n c q _ (-12) 12 hn h2d (by omega) (by omega) (by omega) (by omega)).mono ?_; rintro e w8 ⟨x, hx, rfl, g8, h8⟩; have hcs6 := (hcs.drewN 1).grown g8 (fun e => by injection e with e; omega); have k0 := (hcs6.cell 0).trans z0; have k3 := (hcs6.cell 3).trans z3; have f3 := hcs6.frozen 3))
        obtain ⟨l', hl', A'⟩ := set_second hcs6 hlen hj (IntKind.i64.wrap (rx l 0 + x))
        replace h8 : Cur b n c (w8.setCell ⟨g, 3, none⟩ (.int .i64 (IntKind.i64.wrap (rx l 0 + x)))) q := h8.kept (row := some g) (gr_set (gr_refl _ _) _ _) (fun r e => by injection e with e; omega)
        replace g1 := gr_new (gr_past (gr_drewN g1 1) g8 hq) hgw 3 (.int .i64 (IntKind.i64.wrap (rx l 0 + x)))
        clear hcs6 k0 k3 f3 g8 z0 z3 c0 h2d hcs hj A h2
        generalize w8.setCell ⟨g, 3, none⟩ (.int .i64 (IntKind.i64.wrap (rx l 0 + x))) = w9 at *
        have A := A'
        have h2 := h8
        clear A' h8
        go_wp2_with fail
        refine (from_ b n c q _ 0 6 hn h2 (by omega) (by omega) (by omega) (by omega)).mono ?_
        rintro e w6 ⟨m, hm, rfl, g6, h6⟩
        replace A := A.grown g6 (fun x e => by cases e; simp; omega)
        replace g1 := gr_past g1 g6 hq
        have hz6 := h6.lt
        clear g6 h2
        go_wp2_with fail
        have hD : Cur b n c w6.drew q := h6
        have hE : Cur b n c (w6.alloc (Obj.cells #[.int .i64 10, .int .i64 10, .int .i64 0, .int .i64 (-1), .int .i64 1000000] 2)).drew q := h6.alloc _
        go_region_with (first | (go_at_call 25; refine (below b n c q _ 5 hn hD (by omega)).mono ?_; rintro e w7 ⟨x, ⟨x0, x1⟩, rfl, g7, h7⟩; obtain ⟨k, rfl⟩ := Int.eq_ofNat_of_zero_le x0; have hk : k < 5 := (by omega); have hc := (Has.fresh w7 2 #[Value.int .i64 10, .int .i64 10, .int .i64 0, .int .i64 (-1), .int .i64 1000000]).cell k; rw [tab5_cell k hk] at hc) | (go_at_call 25; refine (below b n c q _ 5 hn hE (by omega)).mono ?_; rintro e w7 ⟨x, ⟨x0, x1⟩, rfl, g7, h7⟩; obtain ⟨k, rfl⟩ := Int.eq_ofNat_of_zero_le x0; have hk : k < 5 := (by omega); have hc := (((Has.fresh w6 2 #[Value.int .i64 10, .int .i64 10, .int .i64 0, .int .i64 (-1), .int .i64 1000000]).drewN 1).grown g7 (by simp; omega)).cell k; rw [tab5_cell k hk] at hc))
        all_goals go_wp2_with fail
        all_goals go_ret3
        all_goals first | exact ⟨some ⟨g, 0, none⟩, cap, l', m, tab5 k, by rw [hl']; rfl, by omega, gr_past (gr_drewN (gr_alloc g1 (Obj.cells #[.int .i64 10, .int .i64 10, .int .i64 0, .int .i64 (-1), .int .i64 1000000] 2)) 1) g7 hq, ((A.kept (World.grownBy_alloc w6 (Obj.cells #[.int .i64 10, .int .i64 10, .int .i64 0, .int .i64 (-1), .int .i64 1000000] 2) none)).kept (gr_drewN (gr_refl _ _) 1)).grown g7 (fun x e => by cases e; simp; omega)⟩ | exact ⟨some ⟨g, 0, none⟩, cap, l', m, tab5 k, by rw [hl']; rfl, by omega, gr_alloc (gr_past (gr_drewN g1 1) g7 hq) _, ((A.kept (gr_drewN (gr_refl _ _) 1)).grown g7 (fun x e => by cases e; simp; omega)).kept (World.grownBy_alloc _ _ _)⟩
    · go_wp2_with fail
      refine (drawList b n c q k _ hn (by omega) h2).mono ?_
      rintro e w4 ⟨g, cap, l, rfl, hlen, hR, hge, g4, h4, hown⟩
      have hz := h2.lt
      have hgq : q < g := by omega
      have hgw : w.heap.size ≤ g := Nat.le_trans g1.size hge
      have A := arg_of_row hown
      obtain ⟨cs, hcs, hj⟩ := row_owned hown
      replace g1 := gr_past g1 g4 hq
      rw [hlen]
      clear g4 h2 hown
      have h2 := h4
      clear h4
      have hd : decide ((k : Int) = 2) = false := by simp; omega
      have hl4 : k ≤ 3 := hk
      go_wp2_with fail
      refine (from_ b n c q _ 0 6 hn h2 (by omega) (by omega) (by omega) (by omega)).mono ?_
      rintro e w6 ⟨m, hm, rfl, g6, h6⟩
      replace A := A.grown g6 (fun x e => by cases e; simp; omega)
      replace g1 := gr_past g1 g6 hq
      have hz6 := h6.lt
      clear g6 h2
      go_wp2_with fail
      have hD : Cur b n c w6.drew q := h6
      have hE : Cur b n c (w6.alloc (Obj.cells #[.int .i64 10, .int .i64 10, .int .i64 0, .int .i64 (-1), .int .i64 1000000] 2)).drew q := h6.alloc _
      go_region_with (first | (go_at_call 25; refine (below b n c q _ 5 hn hD (by omega)).mono ?_; rintro e w7 ⟨x, ⟨x0, x1⟩, rfl, g7, h7⟩; obtain ⟨k, rfl⟩ := Int.eq_ofNat_of_zero_le x0; have hk : k < 5 := (by omega); have hc := (Has.fresh w7 2 #[Value.int .i64 10, .int .i64 10, .int .i64 0, .int .i64 (-1), .int .i64 1000000]).cell k; rw [tab5_cell k hk] at hc) | (go_at_call 25; refine (below b n c q _ 5 hn hE (by omega)).mono ?_; rintro e w7 ⟨x, ⟨x0, x1⟩, rfl, g7, h7⟩; obtain ⟨k, rfl⟩ := Int.eq_ofNat_of_zero_le x0; have hk : k < 5 := (by omega); have hc := (((Has.fresh w6 2 #[Value.int .i64 10, .int .i64 10, .int .i64 0, .int .i64 (-1), .int .i64 1000000]).drewN 1).grown g7 (by simp; omega)).cell k; rw [tab5_cell k hk] at hc))
      all_goals go_wp2_with fail
      all_goals go_ret3
      all_goals first | exact ⟨some ⟨g, 0, none⟩, cap, l, m, tab5 k, by rw [hlen]; rfl, by omega, gr_past (gr_drewN (gr_alloc g1 (Obj.cells #[.int .i64 10, .int .i64 10, .int .i64 0, .int .i64 (-1), .int .i64 1000000] 2)) 1) g7 hq, ((A.kept (World.grownBy_alloc w6 (Obj.cells #[.int .i64 10, .int .i64 10, .int .i64 0, .int .i64 (-1), .int .i64 1000000] 2) none)).kept (gr_drewN (gr_refl _ _) 1)).grown g7 (fun x e => by cases e; simp; omega)⟩ | exact ⟨some ⟨g, 0, none⟩, cap, l, m, tab5 k, by rw [hlen]; rfl, by omega, gr_alloc (gr_past (gr_drewN g1 1) g7 hq) _, ((A.kept (gr_drewN (gr_refl _ _) 1)).grown g7 (fun x e => by cases e; simp; omega)).kept (World.grownBy_alloc _ _ _)⟩
end Go.Proofs.Ytpnldabphflgeaa.vt
