/- Chapter 14 on plain numbers; the small functions of the program: a gate behind its face. Chapter 12 on plain numbers: what the wings leave to the fans, what is blended, the push, what is slewed. Nothing here names the program. StaysIn of both sides. Chapter 11, the small functions: the weights, a turn, what a demand may be; of the program and of the model. -/
import Derived.Test.YtdikhdfpcipdbaaGreatDoorG17
import Derived.Stop.Asserts
import Derived.RowKitTokens
import Derived.Test.YtdikhdfpcipdbaaGreatDoorG2
import Derived.Lib.Hide
import Derived.Test.YtdikhdfpcipdbaaGreatDoorG14
import Derived.Test.YtdikhdfpcipdbaaGreatDoorG15
import Derived.Deep.RegionHeldLaw
import Derived.Deep.RegionHeld3
/- Chapter 14 on plain numbers; the small functions of the program: a gate behind its face. -/
namespace Go.Proofs.YtdikhdfpcipdbaaGreatDoor.gt
open Go.ChangeShapes Go.WideShapes Go.ChangeAt Go.RowKit
open Go.Extern.Stop Go.Stop Go.Extern
open Go.Proofs.YtdikhdfpcipdbaaGreatDoor.nums Go.Proofs.YtdikhdfpcipdbaaGreatDoor.mem
open Go.Proofs.YtdikhdfpcipdbaaGreatDoor.fix (ret_int ret_bool)
open Go.Proofs.YtdikhdfpcipdbaaGreatDoor.tab (Ret quiet_w)
open Go.Proofs.YtdikhdfpcipdbaaGreatDoor.md (Fx cs8 fac factsOk eight)
set_option linter.unusedVariables false

/-- A gate: how long all stood still, and whether it is fired. -/
abbrev G := Int × Bool
abbrev cs2 (g : G) : Array Value := #[.int .i64 g.1, .bool g.2]
abbrev gv (g : G) : Value := .agg #[.int .i64 g.1, .bool g.2]
def gateOk (s : Int) : Bool := inb s 0 100
def tooLow (f : Fx) : Bool := f.ho && decide (f.h < 30)
def ticked (g : G) (stop low : Bool) : G :=
  if g.2 = true then g else if stop = false then (0, false) else (min (g.1 + 1) 100, decide (4 ≤ min (g.1 + 1) 100) && !low)
def gated (g : G) (ch st : Bool) (f : Fx) : G := if (gateOk g.1 && factsOk f) = true then ticked g (ch && st) (tooLow f) else (0, false)

theorem gated_no {g : G} {ch st : Bool} {f : Fx} (h : (gateOk g.1 && factsOk f) = false) : gated g ch st f = (0, false) := by unfold gated; rw [h]; rfl
theorem gated_yes {g : G} {ch st : Bool} {f : Fx} (h1 : gateOk g.1 = true) (h2 : factsOk f = true) : gated g ch st f = ticked g (ch && st) (tooLow f) := by unfold gated; rw [h1, h2]; rfl

theorem two {w : World} {g : Nat} {t : TypeId} {a b : Value} (k : Has w g t #[a, b]) :
    w.cell? ⟨g, 0, none⟩ = some a ∧ w.cell? ⟨g, 1, none⟩ = some b ∧ w.frozen? ⟨g, 0, none⟩ = false ∧ w.frozen? ⟨g, 1, none⟩ = false :=
  ⟨k.cell 0, k.cell 1, k.frozen 0, k.frozen 1⟩
theorem set2 {w : World} {g : Nat} {t : TypeId} {a b : Value} (k : Has w g t #[a, b]) (a' b' : Value) :
    Has ((w.setCell ⟨g, 0, none⟩ a').setCell ⟨g, 1, none⟩ b') g t #[a', b'] := (k.put 0 a' (cs' := #[a', b]) rfl).put 1 b' rfl

theorem specGateOk (g : G) (w : World) : Calls Tryz.prog 145 #[gv g] w (Ret (.bool (gateOk g.1)) w) := by
  go_enter Tryz.func145, Tryz.ntmps145
  go_wp2_with fail
  refine (fix.specIn g.1 0 100 _).mono ?_
  rintro e w' ⟨rfl, rfl⟩
  go_wp2_with fail
  go_ret
  exact ⟨rfl, World.grownBy_alloc _ _ _⟩
/-! ### behind the face -/
theorem specMin (a b : Int) (w : World) : Calls Tryz.prog 79 #[.int .i64 a, .int .i64 b] w fun e w' => e = .returned (.int .i64 (min a b)) ∧ w = w' := by
  go_enter Tryz.func79, Tryz.ntmps79
  go_wp2
  all_goals go_ret
  all_goals exact ⟨ret_int (by omega), rfl⟩
end Go.Proofs.YtdikhdfpcipdbaaGreatDoor.gt

/- Chapter 12 on plain numbers: what the wings leave to the fans, what is blended, the push, what is slewed. Nothing here names the program. -/
namespace Go.Proofs.YtdikhdfpcipdbaaGreatDoor.bl
open Go.Proofs.YtdikhdfpcipdbaaGreatDoor.nums
set_option linter.unusedVariables false

/-- The table: 100 1000, 200 0. -/
def T : tab.Pts := [(100, 1000), (200, 0)]
theorem okT : tab.OkT T := by
  refine ⟨by decide, by decide, fun k hk => ?_, fun k hk => ?_⟩
  · have : k = 0 ∨ k = 1 := by have : k < 2 := hk; omega
    rcases this with rfl | rfl <;> decide
  · have : k = 0 := by have : k + 1 < 2 := hk; omega
    subst this; decide
/-- What is left to the fans at that speed. -/
def lp (x : Int) : Int := btw (2000 - 10 * x) 0 1000
theorem lp_in (x : Int) : 0 ≤ lp x ∧ lp x ≤ 1000 := by unfold lp btw; omega
theorem lp_slow {x : Int} (h : x ≤ 100) : lp x = 1000 := by unfold lp btw; omega
theorem lp_is (x : Int) : tab.AtIs T x (lp x) := by
  by_cases h1 : x ≤ 100
  · exact .inl ⟨h1, lp_slow h1⟩
  · by_cases h2 : 200 ≤ x
    · exact .inr (.inl ⟨by show (100 : Int) < x; omega, h2, by show lp x = 0; unfold lp btw; omega⟩)
    · refine .inr (.inr ⟨0, by decide, by show (100 : Int) < x; omega, by show (100 : Int) ≤ x; omega, by show x < 200; omega, ?_⟩)
      show lp x = kPlus 1000 (kPart (0 - 1000) (x - 100) (200 - 100))
      have f1 : fit (0 - 1000) = -1000 := fit_same _ (by omega) (by omega)
      have f2 : fit (x - 100) = x - 100 := fit_same _ (by omega) (by omega)
      have e : kPart (0 - 1000) (x - 100) (200 - 100) = fit (-(10 * (x - 100))) := by
        unfold kPart
        rw [if_neg (by omega), f1, f2]
        congr 1
        rw [show (-1000 : Int) * (x - 100) = -(10 * (x - 100)) * (200 - 100) by omega]
        exact Int.mul_tdiv_cancel _ (by omega)
      rw [e]
      unfold lp kPlus fit btw; omega
theorem lp_one {x y : Int} (h : tab.AtIs T x y) : y = lp x := h.one okT (lp_is x)

/-- A part of what is wished for: so much of it as the wings leave. -/
def cutBy (x v : Int) : Int := kPart v (lp x) 1000
theorem cut_eq (x v : Int) : cutBy x v = fit ((fit v * lp x).tdiv 1000) := by
  unfold cutBy kPart
  have := lp_in x
  rw [if_neg (by omega), fit_same (lp x) (by omega) (by omega)]
theorem part_le (v l : Int) (h : l.natAbs ≤ 1000) : ((v * l).tdiv 1000).natAbs ≤ v.natAbs := by
  have h4 : v.natAbs * l.natAbs ≤ v.natAbs * 1000 := Nat.mul_le_mul_left _ h
  have h5 : ((v * l).tdiv 1000).natAbs = (v * l).natAbs / (1000 : Int).natAbs := Int.natAbs_tdiv _ _
  rw [Int.natAbs_mul] at h5
  have h6 : (1000 : Int).natAbs = 1000 := rfl
  rw [h6] at h5
  rw [h5]
  exact Nat.le_trans (Nat.div_le_div_right h4) (Nat.le_of_eq (Nat.mul_div_cancel _ (by omega)))
theorem fit_abs (z : Int) (n : Nat) (h : z.natAbs ≤ n) : (fit z).natAbs ≤ n := by unfold fit btw; omega
/-- What is left is no more than was wished for. -/
theorem cut_le (x v : Int) (h1 : -1000000 ≤ v) (h2 : v ≤ 1000000) : (cutBy x v).natAbs ≤ v.natAbs := by
  rw [cut_eq, fit_same v h1 h2]
  have hl := lp_in x
  exact fit_abs _ _ (part_le v (lp x) (by omega))
/-- The push of a mode at a speed. -/
def push (m s : Int) : Int := if m = 2 then 1000 else if m = 3 then btw (500 + 10 * (200 - fit s)) 0 1000 else 0
theorem push_out (s : Int) : push 2 s = 1000 := if_pos rfl
theorem push_glide (s : Int) : push 3 s = btw (500 + 10 * (200 - fit s)) 0 1000 := by unfold push; rw [if_neg (by omega), if_pos rfl]
theorem push_else {m : Int} (s : Int) (h2 : m ≠ 2) (h3 : m ≠ 3) : push m s = 0 := by unfold push; rw [if_neg h2, if_neg h3]
theorem push_in (m s : Int) : 0 ≤ push m s ∧ push m s ≤ 1000 := by unfold push btw; split <;> (try split) <;> omega
theorem push_spec (s : Int) : btw (kPlus 500 (10 * (200 - fit s))) 0 1000 = push 3 s := by
  have := fit_ge s
  have := fit_le s
  rw [push_glide]
  generalize fit s = x at *
  unfold kPlus fit btw; omega

/-- One that goes toward another one, but to nothing at once. -/
def one (a b step : Int) : Int := if b = 0 then 0 else kToward a b step
theorem one_zero (a step : Int) : one a 0 step = 0 := rfl
theorem one_else {b : Int} (a step : Int) (h : b ≠ 0) : one a b step = kToward a b step := if_neg h
theorem toward_in {a b step : Int} (h1 : 0 ≤ a ∧ a ≤ 1000) (h2 : 0 ≤ b ∧ b ≤ 1000) : 0 ≤ kToward a b step ∧ kToward a b step ≤ 1000 := by
  unfold kToward
  rw [fit_same a (by omega) (by omega), fit_same b (by omega) (by omega)]
  unfold btw; omega
end Go.Proofs.YtdikhdfpcipdbaaGreatDoor.bl

/- StaysIn of both sides. -/
namespace Go.Proofs.YtdikhdfpcipdbaaGreatDoor.cas
open Go.ChangeShapes Go.WideShapes Go.ChangeAt Go.RowKit
open Go.Proofs.YtdikhdfpcipdbaaGreatDoor.nums Go.Proofs.YtdikhdfpcipdbaaGreatDoor.mem
open Go.Proofs.YtdikhdfpcipdbaaGreatDoor.il (nth IRow vals vals_snoc gr_own row_base RetI infoInt)
set_option linter.unusedVariables false

theorem in_len (c : Int) : (staysIn c).length ≤ 6 := to_len c 6

set_option maxRecDepth 100000 in
set_option maxHeartbeats 4000000 in
theorem specStaysIn (c : Int) (w : World) : Calls Tryz.prog 187 #[.int .i64 c] w (RetI (staysIn c) w) := by
  obtain ⟨i0, hi, hz0, hz1, hz2⟩ := info_parts infoInt
  have g0 : w.grownBy (w.alloc (Obj.cells #[] 2)) none := World.grownBy_alloc _ _ _
  have o0 := World.ownsRow_made (base := w.heap.size) (e := 2) (size := 1) w #[] 0 (Nat.le_refl _) (Nat.zero_le _) rfl
  go_enter Tryz.func187, Tryz.ntmps187
  go_wp2_with fail
  go_loopw [3, 4] (fun t i wr => ∃ (k cp : Nat) (b : Option Addr) (L : List Int), k ≤ 6 ∧ i = .int .i64 k ∧ t = .slice b L.length cp ∧ Hid (L = staysTo c k) ∧ L.length ≤ k ∧ IRow wr w.heap.size (.slice b L.length cp) L ∧ w.grownBy wr none) (fun _ i _ => 6 - (intOf i).toNat)
  case atStart => exact ⟨0, _, _, [], Nat.zero_le _, rfl, rfl, Lib.hid rfl, Nat.le_refl _, o0, g0⟩
  case round =>
    clear o0 g0
    obtain ⟨k, cp, b, L, hk, rfl, rfl, hL, hLk, hown, hg⟩ := hrel
    by_cases hlt : k < 6
    · have hd : decide ((k : Int) < 6) = true := by simp; omega
      obtain ⟨o, ho⟩ : ∃ o, staysOn c (k : Int) = o := ⟨_, rfl⟩
      have cS : ∀ W, Calls Tryz.prog 192 #[.int .i64 c, .int .i64 (k : Int)] W fun e w' => e = .returned (.bool o) ∧ W = w' := fun W => ho ▸ specStaysOn c k W
      have HO := Lib.hid ho
      clear ho
      have hsz := hg.size
      have hbase := row_base hown
      cases o with
      | false =>
        go_wp2_with (go_at_call 192; refine (cS _).mono ?_; rintro e w' ⟨rfl, rfl⟩)
        go_roundw
        case rel => exact ⟨k + 1, cp, b, L, by omega, by go_num, rfl, Lib.hid (by rw [to_no HO.out]; exact hL.out), by omega, hown, hg⟩
        case measure => simp [intOf]; omega
      | true =>
        go_wp2_with (first | (go_at_call 192; refine (cS _).mono ?_; rintro e w' ⟨rfl, rfl⟩) | (at_builtin; refine wpList_append_lies _ rfl _ _ _ rfl w.heap.size 2 i0 _ 1 8 Tryz.underlying25 hi hz0 hz1 hz2 rfl (by omega) (.slice b L.length cp) L.length _ rfl (hown.alloc _) ⟨wr.heap.size, 0, none⟩ 1 1 [.int .i64 (k : Int)] rfl rfl (World.news_of_block (cs := #[.int .i64 (k : Int)]) (t := 2) (fr := (0, 0)) (heap_alloc_new wr _)) (by simp [Value.oneCell']) (by omega) (by unfold maxLen; omega) (by omega) (by simp; omega) (wr.heap.size + 1) (by simp) ?_; intro gg cap1 w3 hown3 hgrow hat hlt3))
        have hg03 : w.grownBy w3 none := gr_own (gr_alloc hg _) hgrow hbase
        clear hgrow hat hlt3
        go_wp2_with fail
        go_roundw
        case rel => exact ⟨k + 1, cap1, some ⟨gg, 0, none⟩, L ++ [(k : Int)], by omega, by go_num, by simp, Lib.hid (by rw [to_yes HO.out, hL.out]), by simp; omega, by unfold IRow; rw [vals_snoc]; simpa using hown3, hg03⟩
        case measure => simp [intOf]; omega
    · obtain rfl : k = 6 := by omega
      go_wp2_with fail
      go_ret
      show RetI (staysTo c 6) _ _ _
      rw [← hL.out]
      exact ⟨b, cp, rfl, hg, il.IRow.own hown, fun x e => il.IRow.above hown e⟩
end Go.Proofs.YtdikhdfpcipdbaaGreatDoor.cas

/- Chapter 11, the small functions: the weights, a turn, what a demand may be; of the program and of the model. -/
namespace Go.Proofs.YtdikhdfpcipdbaaGreatDoor.sh
open Go.ChangeShapes Go.WideShapes Go.ChangeAt Go.RowKit
open Go.Proofs.YtdikhdfpcipdbaaGreatDoor.nums Go.Proofs.YtdikhdfpcipdbaaGreatDoor.mem
open Go.Proofs.YtdikhdfpcipdbaaGreatDoor.fix (ret_int ret_bool)
open Go.Proofs.YtdikhdfpcipdbaaGreatDoor.tab (Ret quiet_w)
set_option linter.unusedVariables false

/-- The weights of the k-th fan, for roll and for pitch. -/
def tR (k : Nat) : Int := [2, 1, -1, -2, -1, 1].getD k 0
def tP (k : Nat) : Int := [0, 2, 2, 0, -2, -2].getD k 0
def wR (f : Int) : Int := if 0 ≤ f ∧ f ≤ 5 then tR f.toNat else 0
def wP (f : Int) : Int := if 0 ≤ f ∧ f ≤ 5 then tP f.toNat else 0
theorem six {k : Nat} (h : k < 6) : k = 0 ∨ k = 1 ∨ k = 2 ∨ k = 3 ∨ k = 4 ∨ k = 5 := by omega
theorem tR_in {k : Nat} (h : k < 6) : -2 ≤ tR k ∧ tR k ≤ 2 := by rcases six h with rfl | rfl | rfl | rfl | rfl | rfl <;> decide
theorem tP_in {k : Nat} (h : k < 6) : -2 ≤ tP k ∧ tP k ≤ 2 := by rcases six h with rfl | rfl | rfl | rfl | rfl | rfl <;> decide
theorem wR_nat {k : Nat} (h : k < 6) : wR (k : Int) = tR k := by unfold wR; rw [if_pos (by omega)]; rfl
theorem wP_nat {k : Nat} (h : k < 6) : wP (k : Int) = tP k := by unfold wP; rw [if_pos (by omega)]; rfl
theorem wR_no {f : Int} (h : f < 0 ∨ 5 < f) : wR f = 0 := by unfold wR; rw [if_neg (by omega)]
theorem wP_no {f : Int} (h : f < 0 ∨ 5 < f) : wP f = 0 := by unfold wP; rw [if_neg (by omega)]
theorem wR_in (f : Int) : -2 ≤ wR f ∧ wR f ≤ 2 := by
  by_cases h : 0 ≤ f ∧ f ≤ 5
  · obtain ⟨k, rfl⟩ := Int.eq_ofNat_of_zero_le h.1
    rw [wR_nat (by omega)]; exact tR_in (by omega)
  · rw [wR_no (by omega)]; omega
theorem wP_in (f : Int) : -2 ≤ wP f ∧ wP f ≤ 2 := by
  by_cases h : 0 ≤ f ∧ f ≤ 5
  · obtain ⟨k, rfl⟩ := Int.eq_ofNat_of_zero_le h.1
    rw [wP_nat (by omega)]; exact tP_in (by omega)
  · rw [wP_no (by omega)]; omega

theorem two {w : World} {g : Nat} {t : TypeId} {a b : Value} (h : Has w g t #[a, b]) : w.cell? ⟨g, 0, none⟩ = some a ∧ w.cell? ⟨g, 1, none⟩ = some b ∧ w.frozen? ⟨g, 0, none⟩ = false ∧ w.frozen? ⟨g, 1, none⟩ = false :=
  ⟨h.cell 0, h.cell 1, h.frozen 0, h.frozen 1⟩
theorem three {w : World} {g : Nat} {t : TypeId} {a b c : Value} (h : Has w g t #[a, b, c]) : w.cell? ⟨g, 0, none⟩ = some a ∧ w.cell? ⟨g, 1, none⟩ = some b ∧ w.cell? ⟨g, 2, none⟩ = some c ∧ w.frozen? ⟨g, 0, none⟩ = false ∧ w.frozen? ⟨g, 1, none⟩ = false ∧ w.frozen? ⟨g, 2, none⟩ = false :=
  ⟨h.cell 0, h.cell 1, h.cell 2, h.frozen 0, h.frozen 1, h.frozen 2⟩
theorem set3 {w : World} {g : Nat} {t : TypeId} {a b c : Value} (h : Has w g t #[a, b, c]) (a' b' c' : Value) : Has (((w.setCell ⟨g, 0, none⟩ a').setCell ⟨g, 1, none⟩ b').setCell ⟨g, 2, none⟩ c') g t #[a', b', c'] := ((h.put 0 a' rfl).put 1 b' rfl).put 2 c' rfl

/-- Both weights of fan f. -/
def RetW (f : Int) (w : World) (e : Ending) (w' : World) : Prop := e = .returned (.tuple #[.int .i64 (wR f), .int .i64 (wP f)]) ∧ w.grownBy w' none
abbrev dem (l r p : Int) : Value := .agg #[.int .i64 l, .int .i64 r, .int .i64 p]

def rowR : Array Value := #[.int .i64 2, .int .i64 1, .int .i64 (-1), .int .i64 (-2), .int .i64 (-1), .int .i64 1]
def rowP : Array Value := #[.int .i64 0, .int .i64 2, .int .i64 2, .int .i64 0, .int .i64 (-2), .int .i64 (-2)]
theorem rowR_at {k : Nat} (h : k < 6) : rowR[k]? = some (.int .i64 (tR k)) := by rcases six h with rfl | rfl | rfl | rfl | rfl | rfl <;> rfl
theorem rowP_at {k : Nat} (h : k < 6) : rowP[k]? = some (.int .i64 (tP k)) := by rcases six h with rfl | rfl | rfl | rfl | rfl | rfl <;> rfl

theorem listR {k : Nat} (h : k < 6) : [Value.int .i64 2, .int .i64 1, .int .i64 (-1), .int .i64 (-2), .int .i64 (-1), .int .i64 1][k]'(by simpa using h) = .int .i64 (tR k) := by rcases six h with rfl | rfl | rfl | rfl | rfl | rfl <;> rfl
theorem listP {k : Nat} (h : k < 6) : [Value.int .i64 0, .int .i64 2, .int .i64 2, .int .i64 0, .int .i64 (-2), .int .i64 (-2)][k]'(by simpa using h) = .int .i64 (tP k) := by rcases six h with rfl | rfl | rfl | rfl | rfl | rfl <;> rfl

set_option maxHeartbeats 2000000 in
theorem specWeightsOf (f : Int) (w : World) : Calls Tryz.prog 194 #[.int .i64 f] w (RetW f w) := by
  by_cases h : 0 ≤ f ∧ f ≤ 5
  · obtain ⟨k, rfl⟩ := Int.eq_ofNat_of_zero_le h.1
    have hk : k < 6 := by omega
    have k1 : inb (k : Int) 0 5 = true := by unfold inb; simp; omega
    have hk5 : (k : Int) < 6 := by omega
    unfold RetW
    rw [wR_nat hk, wP_nat hk]
    clear h
    go_enter Tryz.func194, Tryz.ntmps194
    go_wp2_with fail
    refine (fix.specIn _ _ _ _).mono ?_
    rw [k1]
    rintro e w' ⟨rfl, rfl⟩
    have eR := rowR_at hk
    have eP := rowP_at hk
    unfold rowR at eR
    unfold rowP at eP
    go_wp2_with fail
    go_region
    all_goals go_wp2_with fail
    all_goals go_ret2
    all_goals exact ⟨by rw [listR hk, listP hk]; rfl, gr_drewN (gr_alloc (World.grownBy_alloc _ _ _) _) 1⟩
  · have k1 : inb f 0 5 = false := by unfold inb; simp; omega
    unfold RetW
    rw [wR_no (by omega), wP_no (by omega)]
    go_enter Tryz.func194, Tryz.ntmps194
    go_wp2_with fail
    refine (fix.specIn _ _ _ _).mono ?_
    rw [k1]
    rintro e w' ⟨rfl, rfl⟩
    go_wp2_with fail
    go_ret2
    exact ⟨rfl, gr_refl _ _⟩

set_option maxHeartbeats 1000000 in
theorem specTurn (f l r p : Int) (w : World) (hr : -1000000 ≤ r ∧ r ≤ 1000000) (hp : -1000000 ≤ p ∧ p ≤ 1000000) :
    Calls Tryz.prog 191 #[.int .i64 f, dem l r p] w (Ret (.int .i64 (wR f * r + wP f * p)) w) := by
  obtain ⟨m1, m2⟩ := mul_bd (wR_in f).1 (wR_in f).2 hr.1 hr.2
  obtain ⟨m3, m4⟩ := mul_bd (wP_in f).1 (wP_in f).2 hp.1 hp.2
  have H0 := Has.fresh w 234 #[.int .i64 l, .int .i64 r, .int .i64 p]
  have g0 := World.grownBy_alloc w (Obj.cells #[.int .i64 l, .int .i64 r, .int .i64 p] 234) none
  go_enter Tryz.func191, Tryz.ntmps191
  go_wp2_with fail
  refine (specWeightsOf f _).mono ?_
  rintro e w1 ⟨rfl, g1⟩
  obtain ⟨c0, c1, c2, _, _, _⟩ := three (H0.grown g1 (by simp))
  generalize wR f = a at *
  generalize wP f = b at *
  go_wp2_with fail
  go_ret
  exact ⟨rfl, gr_trans g0 g1⟩

def okD (l r p : Int) : Bool := inb l (-1000000) 1000000 && (inb r (-1000000) 1000000 && inb p (-1000000) 1000000)
set_option maxHeartbeats 1000000 in
theorem specSizes (l r p : Int) (w : World) : Calls Tryz.prog 188 #[dem l r p] w (Ret (.bool (okD l r p)) w) := by
  have g0 := World.grownBy_alloc w (Obj.cells #[.int .i64 l, .int .i64 r, .int .i64 p] 234) none
  have c0 := fix.specSizeOk l
  have c1 := fix.specSizeOk r
  have c2 := fix.specSizeOk p
  unfold okD
  generalize inb l (-1000000) 1000000 = x0 at *
  generalize inb r (-1000000) 1000000 = x1 at *
  generalize inb p (-1000000) 1000000 = x2 at *
  cases x0
  · go_enter Tryz.func188, Tryz.ntmps188
    go_wp2_with fail
    refine (c0 _).mono ?_
    rintro e w' ⟨rfl, rfl⟩
    go_wp2_with fail
    go_ret
    exact ⟨rfl, g0⟩
  cases x1
  · go_enter Tryz.func188, Tryz.ntmps188
    go_wp2_with fail
    refine (c0 _).mono ?_
    rintro e w' ⟨rfl, rfl⟩
    go_wp2_with fail
    refine (c1 _).mono ?_
    rintro e w' ⟨rfl, rfl⟩
    go_wp2_with fail
    go_ret
    exact ⟨rfl, g0⟩
  · go_enter Tryz.func188, Tryz.ntmps188
    go_wp2_with fail
    refine (c0 _).mono ?_
    rintro e w' ⟨rfl, rfl⟩
    go_wp2_with fail
    refine (c1 _).mono ?_
    rintro e w' ⟨rfl, rfl⟩
    go_wp2_with fail
    refine (c2 _).mono ?_
    rintro e w' ⟨rfl, rfl⟩
    go_wp2_with fail
    go_ret
    exact ⟨rfl, g0⟩

end Go.Proofs.YtdikhdfpcipdbaaGreatDoor.sh

