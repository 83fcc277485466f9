/- Readings by what was heard of them, of the model. -/
import Derived.Test.YtdikhdfpcipdbaaGreatDoorSeCopS
namespace Go.Proofs.YtdikhdfpcipdbaaGreatDoor.se
open Go.ChangeShapes Go.WideShapes Go.ChangeAt Go.RowKit
open Go.Proofs.YtdikhdfpcipdbaaGreatDoor.nums Go.Proofs.YtdikhdfpcipdbaaGreatDoor.mem
open Go.Proofs.YtdikhdfpcipdbaaGreatDoor.tab (Ret)
open Go.Proofs.YtdikhdfpcipdbaaGreatDoor.rd (R okR okR_iff all_at ageR zR rx ra ro OwnR rowR rowR_snoc map_take_snoc infoReading RetO RetR specRight specAge)
open Go.Proofs.YtdikhdfpcipdbaaGreatDoor.il (nth Ints Own)
open Go.Proofs.YtdikhdfpcipdbaaGreatDoor.qt (region_below_tail rg_ret rg_same gr_rg)
set_option linter.unusedVariables false

set_option maxRecDepth 100000 in
set_option maxHeartbeats 4000000 in
theorem specAgedO (a : Option Addr) (cap : Nat) (l : List R) (w : World) (h : rd.Arg w a l) (hl : l.length ≤ 1048576) (ha : l.all okR = true) : Calls Tryz.prog 42 #[.slice a l.length cap] w (RetO (l.map ageR) w) := by
  obtain ⟨i0, hi, hz0, hz1, hz2⟩ := info_parts infoReading
  have g0 : w.grownBy (w.alloc (Obj.cells #[] 42)) none := World.grownBy_alloc _ _ _
  have o0 := World.ownsRow_made (base := w.heap.size) (e := 42) (size := 3) w #[] 0 (Nat.le_refl _) (Nat.zero_le _) rfl
  have HA := Lib.hid ha
  go_enter Tryz.func42, Tryz.ntmps42
  go_wp2_with fail
  go_loopw [3, 4] (fun t i wr => ∃ (k g c : Nat), k ≤ l.length ∧ i = .int .i64 k ∧ t = .slice (some ⟨g, 0, none⟩) k c ∧ w.heap.size ≤ g ∧ wr.ownsRow w.heap.size 42 3 (.slice (some ⟨g, 0, none⟩) k c) k (rowR ((l.map ageR).take k)) ∧ w.grownBy wr none) (fun _ i _ => l.length - (intOf i).toNat)
  case atStart => exact ⟨0, _, _, Nat.zero_le _, rfl, rfl, Nat.le_refl _, o0, g0⟩
  case round =>
    clear o0 g0
    obtain ⟨k, g, c, hk, rfl, rfl, hge, hown, hg⟩ := hrel
    by_cases hlt : k < l.length
    · have hA := h.kept hg
      obtain ⟨x, rfl, hb, cx, cy, cz⟩ := hA k hlt
      obtain ⟨_, q0, q1⟩ := okR_iff.1 (all_at ha hlt)
      go_wp2_with fail
      refine (specRight _ _ _ _ hA hl).mono ?_
      rintro e w1 ⟨rfl, hg1⟩
      have hg01 := gr_trans hg hg1
      have hsz := hg01.size
      have hown1 := hown.kept hg1 (Or.inr (by simp [Value.ownBlock]))
      obtain ⟨x', e', hb', cx', cy', cz'⟩ := (h.kept hg01) k hlt
      injection e' with e'
      subst e'
      clear cx cy cz hg1 hown
      go_wp2_with fail
      refine (specAge _ _ _ _ q0 q1).mono ?_
      rintro e w2 ⟨rfl, hg2⟩
      have hg02 := gr_trans hg01 hg2
      have hsz2 := hg02.size
      have hown2 := hown1.kept hg2 (Or.inr (by simp [Value.ownBlock]))
      clear cx' cy' cz' hg2 hown1 hg01
      go_wp2_with (at_builtin; refine wpList_append_lies _ rfl _ _ _ rfl w.heap.size 42 i0 _ 3 24 Tryz.underlying24 hi hz0 hz1 hz2 rfl (by omega) (.slice (some ⟨g, 0, none⟩) k c) k _ rfl (hown2.alloc _) ⟨w2.heap.size, 0, none⟩ 1 1 [.int .i64 (rx l k), .int .i64 (min 1000 (ra l k + 1)), .bool (ro l k)] rfl rfl (World.news_of_block (cs := #[.int .i64 (rx l k), .int .i64 (min 1000 (ra l k + 1)), .bool (ro l k)]) (t := 42) (fr := (0, 0)) (heap_alloc_new w2 _)) (by simp [Value.oneCell']) (by omega) (by unfold maxLen; omega) (by omega) (by simp; omega) (w2.heap.size + 1) (by simp) ?_; intro gg cap1 w3 hown3 hgrow hat hlt3)
      have hgw : w2.grownBy w3 (some g) := gr_trans (World.grownBy_alloc _ _ _) hgrow
      have hg03 := gr_past hg02 hgw hge
      go_wp2_with fail
      go_roundw
      case rel => exact ⟨k + 1, gg, cap1, by omega, by go_num, rfl, by
        rcases hat with hat | hat
        · simp [Value.ownBlock] at hat; omega
        · omega, by rw [map_take_snoc hlt, rowR_snoc]; exact hown3, hg03⟩
      case measure => simp [intOf]; omega
    · obtain rfl : k = l.length := by omega
      go_wp2_with fail
      go_ret
      have ht : (l.map ageR).take l.length = l.map ageR := by rw [List.take_of_length_le (by simp)]
      rw [ht] at hown
      exact ⟨some ⟨g, 0, none⟩, c, by simp, hg, own_of_row (base := w.heap.size) (cap := c) (by simpa using hown), fun x e => by cases e; exact hge⟩

theorem consT_of {α : Type} {n : Nat} {l : List α} (h : l.length = n + 1) : ∃ x t, l = x :: t ∧ t.length = n := by
  cases l with
  | nil => cases h
  | cons x t => exact ⟨x, t, rfl, Nat.succ.inj h⟩
theorem lit37 (tl : List Value) (h : tl.length = 37) : ∃ x0 x1 x2 x3 x4 x5 x6 x7 x8 x9 x10 x11 x12 x13 x14 x15 x16 x17 x18 x19 x20 x21 x22 x23 x24 x25 x26 x27 x28 x29 x30 x31 x32 x33 x34 x35 x36 : Value, tl = [x0, x1, x2, x3, x4, x5, x6, x7, x8, x9, x10, x11, x12, x13, x14, x15, x16, x17, x18, x19, x20, x21, x22, x23, x24, x25, x26, x27, x28, x29, x30, x31, x32, x33, x34, x35, x36] := by
  obtain ⟨x0, t0, e0, h0⟩ := consT_of h
  obtain ⟨x1, t1, e1, h1⟩ := consT_of h0
  obtain ⟨x2, t2, e2, h2⟩ := consT_of h1
  obtain ⟨x3, t3, e3, h3⟩ := consT_of h2
  obtain ⟨x4, t4, e4, h4⟩ := consT_of h3
  obtain ⟨x5, t5, e5, h5⟩ := consT_of h4
  obtain ⟨x6, t6, e6, h6⟩ := consT_of h5
  obtain ⟨x7, t7, e7, h7⟩ := consT_of h6
  obtain ⟨x8, t8, e8, h8⟩ := consT_of h7
  obtain ⟨x9, t9, e9, h9⟩ := consT_of h8
  obtain ⟨x10, t10, e10, h10⟩ := consT_of h9
  obtain ⟨x11, t11, e11, h11⟩ := consT_of h10
  obtain ⟨x12, t12, e12, h12⟩ := consT_of h11
  obtain ⟨x13, t13, e13, h13⟩ := consT_of h12
  obtain ⟨x14, t14, e14, h14⟩ := consT_of h13
  obtain ⟨x15, t15, e15, h15⟩ := consT_of h14
  obtain ⟨x16, t16, e16, h16⟩ := consT_of h15
  obtain ⟨x17, t17, e17, h17⟩ := consT_of h16
  obtain ⟨x18, t18, e18, h18⟩ := consT_of h17
  obtain ⟨x19, t19, e19, h19⟩ := consT_of h18
  obtain ⟨x20, t20, e20, h20⟩ := consT_of h19
  obtain ⟨x21, t21, e21, h21⟩ := consT_of h20
  obtain ⟨x22, t22, e22, h22⟩ := consT_of h21
  obtain ⟨x23, t23, e23, h23⟩ := consT_of h22
  obtain ⟨x24, t24, e24, h24⟩ := consT_of h23
  obtain ⟨x25, t25, e25, h25⟩ := consT_of h24
  obtain ⟨x26, t26, e26, h26⟩ := consT_of h25
  obtain ⟨x27, t27, e27, h27⟩ := consT_of h26
  obtain ⟨x28, t28, e28, h28⟩ := consT_of h27
  obtain ⟨x29, t29, e29, h29⟩ := consT_of h28
  obtain ⟨x30, t30, e30, h30⟩ := consT_of h29
  obtain ⟨x31, t31, e31, h31⟩ := consT_of h30
  obtain ⟨x32, t32, e32, h32⟩ := consT_of h31
  obtain ⟨x33, t33, e33, h33⟩ := consT_of h32
  obtain ⟨x34, t34, e34, h34⟩ := consT_of h33
  obtain ⟨x35, t35, e35, h35⟩ := consT_of h34
  obtain ⟨x36, t36, e36, h36⟩ := consT_of h35
  have e37 := List.eq_nil_of_length_eq_zero h36
  exact ⟨x0, x1, x2, x3, x4, x5, x6, x7, x8, x9, x10, x11, x12, x13, x14, x15, x16, x17, x18, x19, x20, x21, x22, x23, x24, x25, x26, x27, x28, x29, x30, x31, x32, x33, x34, x35, x36, by rw [e0, e1, e2, e3, e4, e5, e6, e7, e8, e9, e10, e11, e12, e13, e14, e15, e16, e17, e18, e19, e20, e21, e22, e23, e24, e25, e26, e27, e28, e29, e30, e31, e32, e33, e34, e35, e36, e37]⟩
/-- What each operation of the loop leaves. -/
def LeftT (vo vr va ve vf vg : Value) (k : Nat) (ro p1 p2 p3 : Value) (r : Value) (n : Int) (t1 t2 : Int) (t3 : Bool) : Nat → Value → World → Prop
  | 0, v, _ => v = vo
  | 1, v, _ => v = vr
  | 2, v, _ => v = va
  | 3, v, _ => v = .int .i64 k
  | 4, v, _ => v = p1
  | 5, v, _ => v = r
  | 6, v, _ => v = p2
  | 7, v, _ => v = vf
  | 8, v, _ => v = .int .i64 k
  | 9, v, _ => v = p3
  | 10, v, _ => v = .int .i64 n
  | 11, v, _ => v = .agg #[.int .i64 t1, .int .i64 t2, .bool t3]
  | 12, v, w => ∃ g, v = .slice (some ⟨g, 0, none⟩) 1 1 ∧ Has w g 42 #[.int .i64 t1, .int .i64 t2, .bool t3]
  | _, _, _ => False
theorem LeftT.stab {vo vr va ve vf vg : Value} {k : Nat} {ro p1 p2 p3 : Value} {r : Value} {n : Int} {t1 t2 : Int} {t3 : Bool} (j : Nat) (v : Value) (w w' : World) (h : LeftT vo vr va ve vf vg k ro p1 p2 p3 r n t1 t2 t3 j v w) (hg : w.grownBy w' none) : LeftT vo vr va ve vf vg k ro p1 p2 p3 r n t1 t2 t3 j v w' := by
  match j, h with
  | 12, h => obtain ⟨g, e, H⟩ := h; exact ⟨g, e, H.grown hg (by simp)⟩
  | 0, h => exact h
  | 1, h => exact h
  | 2, h => exact h
  | 3, h => exact h
  | 4, h => exact h
  | 5, h => exact h
  | 6, h => exact h
  | 7, h => exact h
  | 8, h => exact h
  | 9, h => exact h
  | 10, h => exact h
  | 11, h => exact h
theorem each_take_snoc {f : R → Int → R} {l : List R} {vs : List Int} {k : Nat} (h : k < l.length) : (each f l vs).take (k + 1) = (each f l vs).take k ++ [f (rx l k, ra l k, ro l k) (nth vs k)] := by
  have hk : k < (each f l vs).length := by rw [each_len]; exact h
  have e := each_at (f := f) (vs := vs) h
  rw [List.take_succ_eq_append_getElem hk]
  rw [rd.getD_lt hk] at e
  rw [e]

set_option maxRecDepth 100000 in
set_option maxHeartbeats 4000000 in
theorem takeYes (lo hi rt kd sq : Int) (a b : Option Addr) (cap cap2 : Nat) (l : List R) (vs : List Int) (w : World) (h : rd.Arg w a l) (hv : Ints w b vs) (hl : l.length ≤ 1048576) (hlen : vs.length = l.length) :
    Calls Tryz.prog 41 #[.agg #[.int .i64 lo, .int .i64 hi, .int .i64 rt], .slice a l.length cap, frm.fr kd sq b vs.length cap2, .bool true] w (RetO (each (tk lo hi rt) l vs) w) := by
  obtain ⟨i0, hi0, hz0, hz1, hz2⟩ := info_parts infoReading
  have A := ((Has.fresh w 72 #[.int .i64 lo, .int .i64 hi, .int .i64 rt]).alloc (Obj.cells #[.int .i64 kd, .int .i64 sq, .slice b vs.length cap2] 50)).alloc (Obj.cells #[] 42)
  have B := (Has.fresh (w.alloc (Obj.cells #[.int .i64 lo, .int .i64 hi, .int .i64 rt] 72)) 50 #[.int .i64 kd, .int .i64 sq, .slice b vs.length cap2]).alloc (Obj.cells #[] 42)
  have g00 := gr_alloc (gr_alloc (World.grownBy_alloc w (Obj.cells #[.int .i64 lo, .int .i64 hi, .int .i64 rt] 72) none) (Obj.cells #[.int .i64 kd, .int .i64 sq, .slice b vs.length cap2] 50)) (Obj.cells #[] 42)
  have o0 := World.ownsRow_made (base := w.heap.size + 2) (e := 42) (size := 3) ((w.alloc (Obj.cells #[.int .i64 lo, .int .i64 hi, .int .i64 rt] 72)).alloc (Obj.cells #[.int .i64 kd, .int .i64 sq, .slice b vs.length cap2] 50)) #[] 0 (by simp) (Nat.zero_le _) rfl
  simp only [World.size_alloc] at B o0
  have HL := Lib.hid hlen
  clear hlen
  go_enter Tryz.func41, Tryz.ntmps41
  go_wp2_with fail
  go_loopw [9, 10] (fun t i wr => ∃ (k g c : Nat), k ≤ l.length ∧ i = .int .i64 k ∧ t = .slice (some ⟨g, 0, none⟩) k c ∧ w.heap.size + 2 ≤ g ∧ wr.ownsRow (w.heap.size + 2) 42 3 (.slice (some ⟨g, 0, none⟩) k c) k (rowR ((each (tk lo hi rt) l vs).take k)) ∧ Has wr w.heap.size 72 #[.int .i64 lo, .int .i64 hi, .int .i64 rt] ∧ Has wr (w.heap.size + 1) 50 #[.int .i64 kd, .int .i64 sq, .slice b vs.length cap2] ∧ w.grownBy wr none) (fun _ i _ => l.length - (intOf i).toNat)
  case atStart => exact ⟨0, _, _, Nat.zero_le _, rfl, rfl, Nat.le_refl _, o0, A, B, g00⟩
  case round =>
    clear o0 g00 A B
    obtain ⟨k, g, c, hk, rfl, rfl, hge, hown, A, B, hg⟩ := hrel
    by_cases hlt : k < l.length
    · obtain ⟨x, rfl, hb, cx, cy, cz⟩ := (h.kept hg) k hlt
      obtain ⟨y, rfl, _, cv⟩ := (hv.kept hg) k (by have := HL.out; omega)
      have hkv : k < vs.length := by have := HL.out; omega
      have hT := each_take_snoc (f := tk lo hi rt) (vs := vs) hlt
      have cT : ∀ W, Calls Tryz.prog 77 #[.agg #[.int .i64 lo, .int .i64 hi, .int .i64 rt], .agg #[.int .i64 (rx l k), .int .i64 (ra l k), .bool (ro l k)], .int .i64 (nth vs k)] W (RetR (tk lo hi rt (rx l k, ra l k, ro l k) (nth vs k)) W) := fun W => sane.specTaken lo hi rt (rx l k) (ra l k) (nth vs k) (ro l k) _
      generalize tk lo hi rt (rx l k, ra l k, ro l k) (nth vs k) = T at *
      obtain ⟨t1, t2, t3⟩ := T
      obtain ⟨b0, b1, b2, _, _, _⟩ := rd.three A
      obtain ⟨d0, d1, d2, _, _, _⟩ := frm.three B
      go_wp2_with fail
      have hA := h.kept hg
      have hV := hv.kept hg
      refine iv.region_inv 13 (fun i => i + 22) (LeftT (.slice (some ⟨g, 0, none⟩) k c) (.agg #[.int .i64 lo, .int .i64 hi, .int .i64 rt]) (.slice (some x) l.length cap) undef (.slice (some y) vs.length cap2) undef k undef (.pointer (some (x.add (k * 3)))) (.pointer (some ⟨w.heap.size + 1, 2, none⟩)) (.pointer (some (y.add k))) (.agg #[.int .i64 (rx l k), .int .i64 (ra l k), .bool (ro l k)]) (nth vs k) t1 t2 t3) (by kernel_rfl) (by kernel_rfl) (by kernel_rfl) (by decide) (by kernel_rfl) (by kernel_rfl) (fun i j _ _ e => by simpa using e) (fun i hi => by simp; omega) LeftT.stab ?_ ?_
      · intro i o a W hi ho2 hgW hsz2 hdf hold hdeps
        obtain ⟨⟨tl⟩, df⟩ := a
        obtain ⟨x0, x1, x2, x3, x4, x5, x6, x7, x8, x9, x10, x11, x12, x13, x14, x15, x16, x17, x18, x19, x20, x21, x22, x23, x24, x25, x26, x27, x28, x29, x30, x31, x32, x33, x34, x35, x36, rfl⟩ := lit37 tl (by simpa using hsz2)
        have ed : df = [] := by simpa using hdf
        subst ed
        have e := hold 1 (fun j _ => by omega)
        simp at e
        subst e
        have e := hold 4 (fun j _ => by omega)
        simp at e
        subst e
        have e := hold 6 (fun j _ => by omega)
        simp at e
        subst e
        have e := hold 9 (fun j _ => by omega)
        simp at e
        subst e
        have e := hold 10 (fun j _ => by omega)
        simp at e
        subst e
        clear hold hdf
        rcases (show i = 0 ∨ i = 1 ∨ i = 2 ∨ i = 3 ∨ i = 4 ∨ i = 5 ∨ i = 6 ∨ i = 7 ∨ i = 8 ∨ i = 9 ∨ i = 10 ∨ i = 11 ∨ i = 12 by omega) with rfl | rfl | rfl | rfl | rfl | rfl | rfl | rfl | rfl | rfl | rfl | rfl | rfl
        all_goals simp at ho2
        all_goals subst ho2
        all_goals simp [Region.binds, LeftT] at hdeps
        · first | subst hdeps | (obtain ⟨rfl, rfl⟩ := hdeps) | (obtain ⟨rfl, rfl, rfl⟩ := hdeps) | skip
          go_wp2_with fail
          exact ⟨gr_refl _ _, rfl⟩
        · first | subst hdeps | (obtain ⟨rfl, rfl⟩ := hdeps) | (obtain ⟨rfl, rfl, rfl⟩ := hdeps) | skip
          obtain ⟨b0, b1, b2, _, _, _⟩ := rd.three (A.grown hgW (by simp))
          go_wp2_with fail
          exact ⟨gr_refl _ _, rfl⟩
        · first | subst hdeps | (obtain ⟨rfl, rfl⟩ := hdeps) | (obtain ⟨rfl, rfl, rfl⟩ := hdeps) | skip
          go_wp2_with fail
          exact ⟨gr_refl _ _, rfl⟩
        · first | subst hdeps | (obtain ⟨rfl, rfl⟩ := hdeps) | (obtain ⟨rfl, rfl, rfl⟩ := hdeps) | skip
          go_wp2_with fail
          exact ⟨gr_refl _ _, rfl⟩
        · first | subst hdeps | (obtain ⟨rfl, rfl⟩ := hdeps) | (obtain ⟨rfl, rfl, rfl⟩ := hdeps) | skip
          go_wp2_with fail
          exact ⟨gr_refl _ _, rfl⟩
        · first | subst hdeps | (obtain ⟨rfl, rfl⟩ := hdeps) | (obtain ⟨rfl, rfl, rfl⟩ := hdeps) | skip
          obtain ⟨x', e', _, cx, cy, cz⟩ := (hA.kept hgW) k hlt
          injection e' with e'
          subst e'
          go_wp2_with fail
          exact ⟨gr_refl _ _, rfl⟩
        · first | subst hdeps | (obtain ⟨rfl, rfl⟩ := hdeps) | (obtain ⟨rfl, rfl, rfl⟩ := hdeps) | skip
          go_wp2_with fail
          exact ⟨gr_refl _ _, rfl⟩
        · first | subst hdeps | (obtain ⟨rfl, rfl⟩ := hdeps) | (obtain ⟨rfl, rfl, rfl⟩ := hdeps) | skip
          obtain ⟨d0, d1, d2, _, _, _⟩ := frm.three (B.grown hgW (by simp))
          go_wp2_with fail
          exact ⟨gr_refl _ _, rfl⟩
        · first | subst hdeps | (obtain ⟨rfl, rfl⟩ := hdeps) | (obtain ⟨rfl, rfl, rfl⟩ := hdeps) | skip
          go_wp2_with fail
          exact ⟨gr_refl _ _, rfl⟩
        · first | subst hdeps | (obtain ⟨rfl, rfl⟩ := hdeps) | (obtain ⟨rfl, rfl, rfl⟩ := hdeps) | skip
          go_wp2_with fail
          exact ⟨gr_refl _ _, rfl⟩
        · first | subst hdeps | (obtain ⟨rfl, rfl⟩ := hdeps) | (obtain ⟨rfl, rfl, rfl⟩ := hdeps) | skip
          obtain ⟨y', e', _, cv⟩ := (hV.kept hgW) k hkv
          injection e' with e'
          subst e'
          go_wp2_with fail
          exact ⟨gr_refl _ _, rfl⟩
        · first | subst hdeps | (obtain ⟨rfl, rfl⟩ := hdeps) | (obtain ⟨rfl, rfl, rfl⟩ := hdeps) | skip
          go_wp2_with fail
          refine (cT _).mono ?_
          rintro e w1 ⟨rfl, r⟩
          go_wp2_with fail
          exact rfl
        · first | subst hdeps | (obtain ⟨rfl, rfl⟩ := hdeps) | (obtain ⟨rfl, rfl, rfl⟩ := hdeps) | skip
          go_wp2_with fail
          exact ⟨World.grownBy_alloc _ _ _, _, rfl, Has.fresh _ _ _⟩
      · intro o W hgW hsz2 hdf hold hnew
        obtain ⟨⟨tl⟩, df⟩ := o
        obtain ⟨x0, x1, x2, x3, x4, x5, x6, x7, x8, x9, x10, x11, x12, x13, x14, x15, x16, x17, x18, x19, x20, x21, x22, x23, x24, x25, x26, x27, x28, x29, x30, x31, x32, x33, x34, x35, x36, rfl⟩ := lit37 tl (by simpa using hsz2)
        have ed : df = [] := by simpa using hdf
        subst ed
        obtain ⟨v, e, rfl⟩ := hnew 0 (by omega)
        simp at e
        subst e
        obtain ⟨v, e, gn, rfl, Hn⟩ := hnew 12 (by omega)
        simp at e
        subst e
        clear hnew
        have e := hold 0 (fun j _ => by omega)
        simp at e
        subst e
        have e := hold 1 (fun j _ => by omega)
        simp at e
        subst e
        have e := hold 2 (fun j _ => by omega)
        simp at e
        subst e
        have e := hold 3 (fun j _ => by omega)
        simp at e
        subst e
        have e := hold 4 (fun j _ => by omega)
        simp at e
        subst e
        have e := hold 5 (fun j _ => by omega)
        simp at e
        subst e
        have e := hold 6 (fun j _ => by omega)
        simp at e
        subst e
        have e := hold 7 (fun j _ => by omega)
        simp at e
        subst e
        have e := hold 8 (fun j _ => by omega)
        simp at e
        subst e
        have e := hold 9 (fun j _ => by omega)
        simp at e
        subst e
        have e := hold 10 (fun j _ => by omega)
        simp at e
        subst e
        have e := hold 11 (fun j _ => by omega)
        simp at e
        subst e
        have e := hold 12 (fun j _ => by omega)
        simp at e
        subst e
        have e := hold 13 (fun j _ => by omega)
        simp at e
        subst e
        have e := hold 14 (fun j _ => by omega)
        simp at e
        subst e
        have e := hold 15 (fun j _ => by omega)
        simp at e
        subst e
        have e := hold 16 (fun j _ => by omega)
        simp at e
        subst e
        have e := hold 17 (fun j _ => by omega)
        simp at e
        subst e
        have e := hold 18 (fun j _ => by omega)
        simp at e
        subst e
        have e := hold 19 (fun j _ => by omega)
        simp at e
        subst e
        have e := hold 20 (fun j _ => by omega)
        simp at e
        subst e
        have e := hold 21 (fun j _ => by omega)
        simp at e
        subst e
        have e := hold 35 (fun j _ => by omega)
        simp at e
        subst e
        have e := hold 36 (fun j _ => by omega)
        simp at e
        subst e
        clear hold hdf hsz2
        have hown2 := hown.kept hgW (Or.inr (by simp [Value.ownBlock]))
        have lW := hgW.size
        have lB := B.lt
        simp only [List.drop_succ_cons, List.drop_zero]
        go_wp2_with (at_builtin; refine wpList_append_lies _ rfl _ _ _ rfl (w.heap.size + 2) 42 i0 _ 3 24 Tryz.underlying24 hi0 hz0 hz1 hz2 rfl (by omega) (.slice (some ⟨g, 0, none⟩) k c) k _ rfl hown2 ⟨gn, 0, none⟩ 1 1 [.int .i64 t1, .int .i64 t2, .bool t3] rfl rfl (World.news_of_block (cs := #[.int .i64 t1, .int .i64 t2, .bool t3]) (t := 42) (fr := (0, 0)) Hn) (by simp [Value.oneCell']) (by omega) (by unfold maxLen; omega) (by omega) (by omega) W.heap.size rfl ?_; intro gg cap1 w3 hown3 hgrow hat hlt3)
        have hgw : W.grownBy w3 (some g) := hgrow
        have hg03 := gr_past (gr_trans hg hgW) hgw (by omega)
        go_wp2_with fail
        go_roundw
        case rel => exact ⟨k + 1, gg, cap1, by omega, by go_num, rfl, by
          rcases hat with hat | hat
          · simp [Value.ownBlock] at hat; omega
          · omega, by rw [hT, rowR_snoc]; exact hown3, (A.grown hgW (by simp)).grown hgw (by simp; omega), (B.grown hgW (by simp)).grown hgw (by simp; omega), hg03⟩
        case measure => simp [intOf]; omega
    · obtain rfl : k = l.length := by omega
      go_wp2_with fail
      go_ret
      have ht : (each (tk lo hi rt) l vs).take l.length = each (tk lo hi rt) l vs := by rw [List.take_of_length_le (by rw [each_len]; exact Nat.le_refl _)]
      rw [ht] at hown
      exact ⟨some ⟨g, 0, none⟩, c, by rw [each_len]; rfl, hg, own_of_row (base := w.heap.size + 2) (cap := c) (by rw [each_len]; exact hown), fun x e => by cases e; show w.heap.size ≤ g; omega⟩

set_option maxRecDepth 100000 in
set_option maxHeartbeats 1000000 in
theorem takeNo (lo hi rt : Int) (a : Option Addr) (cap : Nat) (l : List R) (w : World) (h : rd.Arg w a l) (hl : l.length ≤ 1048576) (ho : l.all okR = true) :
    Calls Tryz.prog 41 #[.agg #[.int .i64 lo, .int .i64 hi, .int .i64 rt], .slice a l.length cap, frm.fr 0 0 none 0 0, .bool false] w (RetO (l.map ageR) w) := by
  have g0 := gr_alloc (World.grownBy_alloc w (Obj.cells #[.int .i64 lo, .int .i64 hi, .int .i64 rt] 72) none) (Obj.cells #[.int .i64 0, .int .i64 0, .slice none 0 0] 50)
  go_enter Tryz.func41, Tryz.ntmps41
  go_wp2_with fail
  refine (specAgedO a cap l _ (h.kept g0) hl ho).mono ?_
  rintro e w1 ⟨b, j, rfl, r, o, bb⟩
  go_wp2_with fail
  go_ret
  exact ⟨b, j, by rw [List.length_map]; rfl, gr_trans g0 r, o, fun x e => Nat.le_trans g0.size (bb x e)⟩
end Go.Proofs.YtdikhdfpcipdbaaGreatDoor.se
