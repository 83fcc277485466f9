/- The draws of chapter 7. -/
import Derived.Test.YtpnldabphflgeaaRdDraw2
import Derived.Test.YtpnldabphflgeaaRdAll
namespace Go.Proofs.Ytpnldabphflgeaa.vt
open Go.ChangeShapes Go.WideShapes Go.ChangeAt Go.RowKit
open Go.Proofs.Ytpnldabphflgeaa.nums Go.Proofs.Ytpnldabphflgeaa.mem Go.Proofs.Ytpnldabphflgeaa.cur Go.Proofs.Ytpnldabphflgeaa.rd
open Go.Proofs.Ytpnldabphflgeaa.tab (Ret quiet_w)
set_option linter.unusedVariables false

def Nine (w : World) (e : Ending) (w' : World) : Prop :=
  ∃ x y z : Int, (0 ≤ x ∧ x < 9) ∧ (0 ≤ y ∧ y < 9) ∧ (0 ≤ z ∧ z < 9) ∧ e = .returned (.tuple #[.int .i64 x, .int .i64 y, .int .i64 z]) ∧ w.grownBy w' none

theorem drawMiddle (b : Option Addr) (n c : Nat) (w : World) (hn : n ≤ 4096) (hb : Bytes w w.heap.size b n) :
    Calls Try.prog 13 #[.slice b n c] w (Nine w) := by
  go_enter Try.func13, Try.ntmps13
  go_wp2_with fail
  refine (new b n c _ hn hb).mono ?_
  rintro e w1 ⟨q, rfl, hq, g1, h1⟩
  go_wp2_with fail
  refine (below b n c q _ 9 hn h1 (by omega)).mono ?_
  rintro e w2 ⟨x, hx, rfl, g2, h2⟩
  go_wp2_with fail
  refine (below b n c q _ 9 hn h2 (by omega)).mono ?_
  rintro e w3 ⟨y, hy, rfl, g3, h3⟩
  go_wp2_with fail
  refine (below b n c q _ 9 hn h3 (by omega)).mono ?_
  rintro e w4 ⟨z, hz, rfl, g4, h4⟩
  go_wp2_with fail
  go_ret3
  exact ⟨x, y, z, hx, hy, hz, rfl, gr_past (gr_past (gr_past g1 g2 hq) g3 hq) g4 hq⟩

/-- The draw of a list and a number. -/
def DrawnLM (w : World) (e : Ending) (w' : World) : Prop :=
  ∃ (a : Option Addr) (cap : Nat) (l : List R) (m : Int), e = .returned (.tuple #[.slice a l.length cap, .int .i64 m]) ∧ l.length ≤ 4 ∧ w.grownBy w' none ∧ Arg w' a l

set_option maxHeartbeats 1000000 in
theorem drawVoteThree (b : Option Addr) (n c : Nat) (w : World) (hn : n ≤ 4096) (hb : Bytes w w.heap.size b n) :
    Calls Try.prog 9 #[.slice b n c] w (DrawnLM w) := by
  go_enter Try.func9, Try.ntmps9
  go_wp2_with fail
  refine (new b n c _ hn hb).mono ?_
  rintro e w1 ⟨q, rfl, hq, g1, h1⟩
  go_wp2_with fail
  refine (once b n c q _ 14 hn h1 (by omega)).mono ?_
  rintro e w2 ⟨v, rfl, g2, h2⟩
  replace g1 := gr_past g1 g2 hq
  clear g2 h1
  cases v
  · go_wp2_with fail
    refine (drawList b n c q 3 _ hn (by omega) h2).mono ?_
    rintro e w3 ⟨g, cap, l, rfl, hlen, hR, hge, g3, h3, hown⟩
    have hl4 : l.length ≤ 4 := by omega
    rw [hlen]
    have hz := h2.lt
    go_wp2_with fail
    refine (from_ b n c q _ 0 6 hn h3 (by omega) (by omega) (by omega) (by omega)).mono ?_
    rintro e w4 ⟨x, hx, rfl, g4, h4⟩
    go_wp2_with fail
    go_ret2
    exact ⟨_, cap, l, x, by rw [hlen]; rfl, hl4, gr_past (gr_past g1 g3 hq) g4 hq, arg_of_row (row_kept hown g4 hz)⟩
  · go_wp2_with fail
    refine (below b n c q _ 5 hn h2 (by omega)).mono ?_
    rintro e w3 ⟨x, ⟨x0, x1⟩, rfl, g3, h3⟩
    obtain ⟨k, rfl⟩ := Int.eq_ofNat_of_zero_le x0
    have hk : k ≤ 4 := by omega
    replace g1 := gr_past g1 g3 hq
    clear g3 h2
    go_wp2_with fail
    refine (drawList b n c q k _ hn (by omega) h3).mono ?_
    rintro e w4 ⟨g, cap, l, rfl, hlen, hR, hge, g4, h4, hown⟩
    have hl4 : l.length ≤ 4 := by omega
    have hz := h3.lt
    rw [hlen]
    go_wp2_with fail
    refine (from_ b n c q _ 0 6 hn h4 (by omega) (by omega) (by omega) (by omega)).mono ?_
    rintro e w5 ⟨x, hx, rfl, g5, h5⟩
    go_wp2_with fail
    go_ret2
    exact ⟨_, cap, l, x, by rw [hlen]; rfl, hl4, gr_past (gr_past g1 g4 hq) g5 hq, arg_of_row (row_kept hown g5 hz)⟩

/-- A row whose block is known whole can have a cell set: it holds the list with another value in second place. -/
theorem row_owned {w : World} {base cap g : Nat} {l : List R} (h : w.ownsRow base 37 3 (.slice (some ⟨g, 0, none⟩) l.length cap) l.length (rowR l)) :
    ∃ cs : Array Value, Has w g 37 cs ∧ ∀ k, k < l.length → cs[k * 3]? = some (.int .i64 (rx l k)) ∧ cs[k * 3 + 1]? = some (.int .i64 (ra l k)) ∧ cs[k * 3 + 2]? = some (.bool (ro l k)) := by
  rcases h.2 with ⟨h0, _⟩ | ⟨g', cap', cur, hv, _, hc, _⟩
  · cases h0
  · injection hv with hv1 hv2 hv3
    injection hv1 with hv1
    injection hv1 with hv1 _ _
    subst hv1
    refine ⟨cur, hc, fun k hk => ?_⟩
    obtain ⟨x, e, _, c0, c1, c2⟩ := arg_of_row h k hk
    injection e with e
    subst e
    rw [add0] at c0 c1 c2
    exact ⟨(Has.cell hc _).symm.trans c0, (Has.cell hc _).symm.trans c1, (Has.cell hc _).symm.trans c2⟩
end Go.Proofs.Ytpnldabphflgeaa.vt
