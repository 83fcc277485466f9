/- A list of seventy is its members. The case of what is out: the model's CaseOf. Heard of the model. FramesIn of the model. -/
import Derived.Test.YtdikhdfpcipdbaaGreatDoorG23
import Derived.Test.YtdikhdfpcipdbaaGreatDoorG14
import Derived.Test.YtdikhdfpcipdbaaGreatDoorG4
import Derived.Test.YtdikhdfpcipdbaaGreatDoorG10
import Derived.Deep.Cut
/- A list of seventy is its members. -/
namespace Go.Proofs.YtdikhdfpcipdbaaGreatDoor.wd
open Go
open Go.Proofs.YtdikhdfpcipdbaaGreatDoor.se (cons_of)
theorem litS70 (tl : List Value) (h : tl.length = 70) : ∃ x0 x1 x2 x3 x4 x5 x6 x7 x8 x9 x10 x11 x12 x13 x14 x15 x16 x17 x18 x19 x20 x21 x22 x23 x24 x25 x26 x27 x28 x29 x30 x31 x32 x33 x34 x35 x36 x37 x38 x39 x40 x41 x42 x43 x44 x45 x46 x47 x48 x49 x50 x51 x52 x53 x54 x55 x56 x57 x58 x59 x60 x61 x62 x63 x64 x65 x66 x67 x68 x69 : Value, tl = [x0, x1, x2, x3, x4, x5, x6, x7, x8, x9, x10, x11, x12, x13, x14, x15, x16, x17, x18, x19, x20, x21, x22, x23, x24, x25, x26, x27, x28, x29, x30, x31, x32, x33, x34, x35, x36, x37, x38, x39, x40, x41, x42, x43, x44, x45, x46, x47, x48, x49, x50, x51, x52, x53, x54, x55, x56, x57, x58, x59, x60, x61, x62, x63, x64, x65, x66, x67, x68, x69] := by
  obtain ⟨x0, t0, e0, h0⟩ := cons_of h
  obtain ⟨x1, t1, e1, h1⟩ := cons_of h0
  obtain ⟨x2, t2, e2, h2⟩ := cons_of h1
  obtain ⟨x3, t3, e3, h3⟩ := cons_of h2
  obtain ⟨x4, t4, e4, h4⟩ := cons_of h3
  obtain ⟨x5, t5, e5, h5⟩ := cons_of h4
  obtain ⟨x6, t6, e6, h6⟩ := cons_of h5
  obtain ⟨x7, t7, e7, h7⟩ := cons_of h6
  obtain ⟨x8, t8, e8, h8⟩ := cons_of h7
  obtain ⟨x9, t9, e9, h9⟩ := cons_of h8
  obtain ⟨x10, t10, e10, h10⟩ := cons_of h9
  obtain ⟨x11, t11, e11, h11⟩ := cons_of h10
  obtain ⟨x12, t12, e12, h12⟩ := cons_of h11
  obtain ⟨x13, t13, e13, h13⟩ := cons_of h12
  obtain ⟨x14, t14, e14, h14⟩ := cons_of h13
  obtain ⟨x15, t15, e15, h15⟩ := cons_of h14
  obtain ⟨x16, t16, e16, h16⟩ := cons_of h15
  obtain ⟨x17, t17, e17, h17⟩ := cons_of h16
  obtain ⟨x18, t18, e18, h18⟩ := cons_of h17
  obtain ⟨x19, t19, e19, h19⟩ := cons_of h18
  obtain ⟨x20, t20, e20, h20⟩ := cons_of h19
  obtain ⟨x21, t21, e21, h21⟩ := cons_of h20
  obtain ⟨x22, t22, e22, h22⟩ := cons_of h21
  obtain ⟨x23, t23, e23, h23⟩ := cons_of h22
  obtain ⟨x24, t24, e24, h24⟩ := cons_of h23
  obtain ⟨x25, t25, e25, h25⟩ := cons_of h24
  obtain ⟨x26, t26, e26, h26⟩ := cons_of h25
  obtain ⟨x27, t27, e27, h27⟩ := cons_of h26
  obtain ⟨x28, t28, e28, h28⟩ := cons_of h27
  obtain ⟨x29, t29, e29, h29⟩ := cons_of h28
  obtain ⟨x30, t30, e30, h30⟩ := cons_of h29
  obtain ⟨x31, t31, e31, h31⟩ := cons_of h30
  obtain ⟨x32, t32, e32, h32⟩ := cons_of h31
  obtain ⟨x33, t33, e33, h33⟩ := cons_of h32
  obtain ⟨x34, t34, e34, h34⟩ := cons_of h33
  obtain ⟨x35, t35, e35, h35⟩ := cons_of h34
  obtain ⟨x36, t36, e36, h36⟩ := cons_of h35
  obtain ⟨x37, t37, e37, h37⟩ := cons_of h36
  obtain ⟨x38, t38, e38, h38⟩ := cons_of h37
  obtain ⟨x39, t39, e39, h39⟩ := cons_of h38
  obtain ⟨x40, t40, e40, h40⟩ := cons_of h39
  obtain ⟨x41, t41, e41, h41⟩ := cons_of h40
  obtain ⟨x42, t42, e42, h42⟩ := cons_of h41
  obtain ⟨x43, t43, e43, h43⟩ := cons_of h42
  obtain ⟨x44, t44, e44, h44⟩ := cons_of h43
  obtain ⟨x45, t45, e45, h45⟩ := cons_of h44
  obtain ⟨x46, t46, e46, h46⟩ := cons_of h45
  obtain ⟨x47, t47, e47, h47⟩ := cons_of h46
  obtain ⟨x48, t48, e48, h48⟩ := cons_of h47
  obtain ⟨x49, t49, e49, h49⟩ := cons_of h48
  obtain ⟨x50, t50, e50, h50⟩ := cons_of h49
  obtain ⟨x51, t51, e51, h51⟩ := cons_of h50
  obtain ⟨x52, t52, e52, h52⟩ := cons_of h51
  obtain ⟨x53, t53, e53, h53⟩ := cons_of h52
  obtain ⟨x54, t54, e54, h54⟩ := cons_of h53
  obtain ⟨x55, t55, e55, h55⟩ := cons_of h54
  obtain ⟨x56, t56, e56, h56⟩ := cons_of h55
  obtain ⟨x57, t57, e57, h57⟩ := cons_of h56
  obtain ⟨x58, t58, e58, h58⟩ := cons_of h57
  obtain ⟨x59, t59, e59, h59⟩ := cons_of h58
  obtain ⟨x60, t60, e60, h60⟩ := cons_of h59
  obtain ⟨x61, t61, e61, h61⟩ := cons_of h60
  obtain ⟨x62, t62, e62, h62⟩ := cons_of h61
  obtain ⟨x63, t63, e63, h63⟩ := cons_of h62
  obtain ⟨x64, t64, e64, h64⟩ := cons_of h63
  obtain ⟨x65, t65, e65, h65⟩ := cons_of h64
  obtain ⟨x66, t66, e66, h66⟩ := cons_of h65
  obtain ⟨x67, t67, e67, h67⟩ := cons_of h66
  obtain ⟨x68, t68, e68, h68⟩ := cons_of h67
  obtain ⟨x69, t69, e69, h69⟩ := cons_of h68
  have e70 := List.eq_nil_of_length_eq_zero h69
  exact ⟨x0, x1, x2, x3, x4, x5, x6, x7, x8, x9, x10, x11, x12, x13, x14, x15, x16, x17, x18, x19, x20, x21, x22, x23, x24, x25, x26, x27, x28, x29, x30, x31, x32, x33, x34, x35, x36, x37, x38, x39, x40, x41, x42, x43, x44, x45, x46, x47, x48, x49, x50, x51, x52, x53, x54, x55, x56, x57, x58, x59, x60, x61, x62, x63, x64, x65, x66, x67, x68, x69, by rw [e0, e1, e2, e3, e4, e5, e6, e7, e8, e9, e10, e11, e12, e13, e14, e15, e16, e17, e18, e19, e20, e21, e22, e23, e24, e25, e26, e27, e28, e29, e30, e31, e32, e33, e34, e35, e36, e37, e38, e39, e40, e41, e42, e43, e44, e45, e46, e47, e48, e49, e50, e51, e52, e53, e54, e55, e56, e57, e58, e59, e60, e61, e62, e63, e64, e65, e66, e67, e68, e69, e70]⟩
theorem litE70 {C : Prop} (tl : List Value) (h : tl.length = 70) (H : ∀ x0 x1 x2 x3 x4 x5 x6 x7 x8 x9 x10 x11 x12 x13 x14 x15 x16 x17 x18 x19 x20 x21 x22 x23 x24 x25 x26 x27 x28 x29 x30 x31 x32 x33 x34 x35 x36 x37 x38 x39 x40 x41 x42 x43 x44 x45 x46 x47 x48 x49 x50 x51 x52 x53 x54 x55 x56 x57 x58 x59 x60 x61 x62 x63 x64 x65 x66 x67 x68 x69 : Value, tl = [x0, x1, x2, x3, x4, x5, x6, x7, x8, x9, x10, x11, x12, x13, x14, x15, x16, x17, x18, x19, x20, x21, x22, x23, x24, x25, x26, x27, x28, x29, x30, x31, x32, x33, x34, x35, x36, x37, x38, x39, x40, x41, x42, x43, x44, x45, x46, x47, x48, x49, x50, x51, x52, x53, x54, x55, x56, x57, x58, x59, x60, x61, x62, x63, x64, x65, x66, x67, x68, x69] → C) : C := by
  have e := litS70 tl h
  revert H
  obtain ⟨x0, x1, x2, x3, x4, x5, x6, x7, x8, x9, x10, x11, x12, x13, x14, x15, x16, x17, x18, x19, x20, x21, x22, x23, x24, x25, x26, x27, x28, x29, x30, x31, x32, x33, x34, x35, x36, x37, x38, x39, x40, x41, x42, x43, x44, x45, x46, x47, x48, x49, x50, x51, x52, x53, x54, x55, x56, x57, x58, x59, x60, x61, x62, x63, x64, x65, x66, x67, x68, x69, et⟩ := e
  intro H
  exact H x0 x1 x2 x3 x4 x5 x6 x7 x8 x9 x10 x11 x12 x13 x14 x15 x16 x17 x18 x19 x20 x21 x22 x23 x24 x25 x26 x27 x28 x29 x30 x31 x32 x33 x34 x35 x36 x37 x38 x39 x40 x41 x42 x43 x44 x45 x46 x47 x48 x49 x50 x51 x52 x53 x54 x55 x56 x57 x58 x59 x60 x61 x62 x63 x64 x65 x66 x67 x68 x69 et
theorem abs6 {P : Program} {c : Code} {Q : Exit → Act → World → Prop} {a : Act} {w : World} {n : Nat} (i1 i2 i3 i4 i5 i6 : Nat) {y1 y2 y3 y4 y5 y6 : Value}
    (h : ∀ a0 : Act, a0.tmps.size = n → a0.defers = [] → a0.tmps[i1]? = some y1 → a0.tmps[i2]? = some y2 → a0.tmps[i3]? = some y3 → a0.tmps[i4]? = some y4 → a0.tmps[i5]? = some y5 → a0.tmps[i6]? = some y6 → c.wp P Q a0 w)
    (h1 : a.tmps.size = n) (h2 : a.defers = []) (k1 : a.tmps[i1]? = some y1) (k2 : a.tmps[i2]? = some y2) (k3 : a.tmps[i3]? = some y3) (k4 : a.tmps[i4]? = some y4) (k5 : a.tmps[i5]? = some y5) (k6 : a.tmps[i6]? = some y6) : c.wp P Q a w := h a h1 h2 k1 k2 k3 k4 k5 k6
end Go.Proofs.YtdikhdfpcipdbaaGreatDoor.wd

/- The case of what is out: the model's CaseOf. -/
namespace Go.Proofs.YtdikhdfpcipdbaaGreatDoor.br
open Go.ChangeShapes Go.WideShapes Go.ChangeAt Go.RowKit
open Go.Proofs.YtdikhdfpcipdbaaGreatDoor.nums Go.Proofs.YtdikhdfpcipdbaaGreatDoor.mem
open Go.Proofs.YtdikhdfpcipdbaaGreatDoor.tab (Ret)
open Go.Proofs.YtdikhdfpcipdbaaGreatDoor.il (nth Ints Own)
set_option linter.unusedVariables false

set_option maxHeartbeats 1000000 in
theorem specCaseOf (a : Option Addr) (cap : Nat) (l : List Int) (w : World) (h : Ints w a l) (hl : l.length ≤ 100) (hb : ∀ n ∈ l, 0 ≤ n ∧ n ≤ 5) :
    Calls Tryz.prog 161 #[.slice a l.length cap] w fun e w' => e = .returned (.int .i64 (cas.caseOf l)) ∧ w = w' := by
  match l, h, hl, hb with
  | [], h, hl, hb =>
    go_enter Tryz.func161, Tryz.ntmps161
    go_wp2_with fail
    go_ret
    exact ⟨rfl, rfl⟩
  | [n], h, hl, hb =>
    obtain ⟨x, rfl, _, cx⟩ := h 0 (by simp)
    obtain ⟨h0, h1⟩ := hb n (by simp)
    have cx' : w.cell? x = some (.int .i64 n) := by simpa [Addr.add, nth, List.getD] using cx
    have q := fun W => fix.specIn n 0 5 W
    rw [show inb n 0 5 = true by unfold inb; simp; omega] at q
    go_enter Tryz.func161, Tryz.ntmps161
    go_wp2_with fail
    refine (q _).mono ?_
    rintro e w1 ⟨rfl, rfl⟩
    go_wp2_with fail
    go_ret
    refine ⟨?_, rfl⟩
    have : cas.caseOf [n] = n + 1 := by
      unfold cas.caseOf
      rw [if_neg (by simp), if_pos (by simp [nth, List.getD]; omega)]
      simp [nth, List.getD]
    rw [this]; rfl
  | n :: m :: l, h, hl, hb =>
    have n0 : (((n :: m :: l).length : Int) == 0) = false := by simp; omega
    have n1 : (((n :: m :: l).length : Int) == 1) = false := by simp; omega
    have n0' : decide (((n :: m :: l).length : Int) = 0) = false := by simp; omega
    have n1' : decide (((n :: m :: l).length : Int) = 1) = false := by simp; omega
    have e : cas.caseOf (n :: m :: l) = 7 := by unfold cas.caseOf; rw [if_neg (by simp), if_neg (by simp)]
    rw [e]
    generalize hn : (n :: m :: l).length = z at *
    go_enter Tryz.func161, Tryz.ntmps161
    go_wp2_with fail
    go_ret
    exact ⟨rfl, rfl⟩
end Go.Proofs.YtdikhdfpcipdbaaGreatDoor.br

/- Heard of the model. -/
namespace Go.Proofs.YtdikhdfpcipdbaaGreatDoor.stm
open Go.ChangeShapes Go.WideShapes Go.ChangeAt Go.RowKit
open Go.Proofs.YtdikhdfpcipdbaaGreatDoor.nums Go.Proofs.YtdikhdfpcipdbaaGreatDoor.mem Go.Proofs.YtdikhdfpcipdbaaGreatDoor.txt Go.Proofs.YtdikhdfpcipdbaaGreatDoor.fix Go.Proofs.YtdikhdfpcipdbaaGreatDoor.frm
open Go.Proofs.YtdikhdfpcipdbaaGreatDoor.tab (Ret quiet_w wpList_make_has add_off)
set_option linter.unusedVariables false

/-- The frame that is best so far lies in the box q. -/
def Best (base q : Nat) (r : Option Fr) (wr : World) : Prop := match r with
  | none => Has wr q 50 #[.int .i64 0, .int .i64 0, .slice none 0 0]
  | some f => ∃ a cap, Has wr q 50 #[.int .i64 f.1, .int .i64 f.2.1, .slice a f.2.2.length cap] ∧ Own base wr a f.2.2
theorem Best.kept {base q : Nat} {r : Option Fr} {w w' : World} (h : Best base q r w) (hg : w.grownBy w' none) : Best base q r w' := by
  match r with
  | none => exact Has.grown h hg (by simp)
  | some f =>
    obtain ⟨a, cap, h1, h2⟩ := h
    exact ⟨a, cap, h1.grown hg (by simp), h2.kept hg⟩
theorem Best.cells {base q : Nat} {r : Option Fr} {w : World} (h : Best base q r w) : ∃ u v x, Has w q 50 #[u, v, x] := by
  match r with
  | none => exact ⟨_, _, _, h⟩
  | some f =>
    obtain ⟨a, cap, h1, h2⟩ := h
    exact ⟨_, _, _, h1⟩

theorem out_none {r : Option Fr} {w w' : World} (h : r = none) (hg : w.grownBy w' none) : ReadOut r w (.returned (.tuple #[fr 0 0 none 0 0, .bool false])) w' := by subst h; exact ⟨hg, rfl⟩
theorem out_some {r : Option Fr} {w w' : World} {f : Fr} {a : Option Addr} {cap : Nat} (h : r = some f) (hg : w.grownBy w' none) (ho : Own w.heap.size w' a f.2.2) : ReadOut r w (.returned (.tuple #[fr f.1 f.2.1 a f.2.2.length cap, .bool true])) w' := by subst h; exact ⟨hg, a, cap, rfl, ho⟩
theorem cell_set3 {w : World} {q : Nat} {a : Addr} (hn : a.block ≠ q) (i j k : Nat) (u v x : Value) : (((w.setCell ⟨q, i, none⟩ u).setCell ⟨q, j, none⟩ v).setCell ⟨q, k, none⟩ x).cell? a = w.cell? a :=
  World.cell?_of_block (by rw [Below.heap_setCell _ ⟨q, k, none⟩ _ _ hn, Below.heap_setCell _ ⟨q, j, none⟩ _ _ hn, Below.heap_setCell _ ⟨q, i, none⟩ _ _ hn])

set_option maxRecDepth 100000 in
set_option maxHeartbeats 4000000 in
theorem specHeard (a : Option Addr) (cap : Nat) (fs : List Fr) (ps : List Pl) (kind old : Int) (w : World) (h : Frs w a fs ps) (hl : fs.length ≤ 1048576) (hv : ∀ k, k < fs.length → (fv fs k).length ≤ 1048576) :
    Calls Tryz.prog 40 #[.slice a fs.length cap, .int .i64 kind, .int .i64 old] w (ReadOut (heard kind old fs) w) := by
  have HA0 := (Has.fresh w 50 #[.int .i64 0, .int .i64 0, .slice none 0 0]).alloc (Obj.cells #[.int .i64 0, .int .i64 0, .slice none 0 0] 50)
  have HB0 := Has.fresh (w.alloc (Obj.cells #[.int .i64 0, .int .i64 0, .slice none 0 0] 50)) 50 #[.int .i64 0, .int .i64 0, .slice none 0 0]
  rw [show (w.alloc (Obj.cells #[.int .i64 0, .int .i64 0, .slice none 0 0] 50)).heap.size = w.heap.size + 1 by simp] at HB0
  have g00 := gr_alloc (World.grownBy_alloc w (Obj.cells #[.int .i64 0, .int .i64 0, .slice none 0 0] 50) none) (Obj.cells #[.int .i64 0, .int .i64 0, .slice none 0 0] 50)
  have hs0 : ((w.alloc (Obj.cells #[.int .i64 0, .int .i64 0, .slice none 0 0] 50)).alloc (Obj.cells #[.int .i64 0, .int .i64 0, .slice none 0 0] 50)).heap.size = w.heap.size + 2 := by simp
  go_enter Tryz.func40, Tryz.ntmps40
  go_wp2_with fail
  go_loopw [2, 9, 10] (fun o s i wr => ∃ (k : Nat) (O : Int) (r : Option Fr), k ≤ fs.length ∧ i = .int .i64 k ∧ o = .int .i64 O ∧ s = .bool r.isSome ∧ Hid (hfold kind old fs k = (O, r)) ∧ Has wr w.heap.size 50 #[.int .i64 0, .int .i64 0, .slice none 0 0] ∧ Best (w.heap.size + 2) (w.heap.size + 1) r wr ∧ w.heap.size + 2 ≤ wr.heap.size ∧ w.grownBy wr none) (fun _ _ i _ => fs.length - (intOf i).toNat)
  case atStart => exact ⟨0, old, none, Nat.zero_le _, rfl, rfl, rfl, Lib.hid (hfold_zero _ _ _), HA0, HB0, by omega, g00⟩
  case round =>
    clear HA0 HB0 g00 hs0
    obtain ⟨k, O, r, hk, rfl, rfl, rfl, hf, HA, HB, hsz, hg⟩ := hrel
    by_cases hlt : k < fs.length
    · have h6 := hv k hlt
      have hF := hfold_succ (kind := kind) (old := old) hlt
      rw [hf.out] at hF
      obtain ⟨x, rfl, hxb, cx, cy, cz, hI⟩ := (h.kept hg) k hlt
      obtain ⟨x', e', hxw, _⟩ := h k hlt
      injection e' with e'
      subst e'
      have hnxt : ∀ s, hst kind (O, r) (fk fs k, fq fs k, fv fs k) = s → hfold kind old fs (k + 1) = s := fun s e => hF.trans e
      have HN := Lib.hid hnxt
      clear hF hf hnxt
      generalize fk fs k = K at *
      generalize fq fs k = Q at *
      generalize fv fs k = V at *
      generalize pa ps k = A at *
      generalize pc ps k = C at *
      by_cases hK : K = kind
      · subst hK
        cases hO : okF K Q V
        · have cF : ∀ W, Ints W A V → Calls Tryz.prog 75 #[fr K Q A V.length C] W (Ret (.bool false) W) := fun W hW => hO ▸ specFrameOk K Q A C V W hW (by unfold maxLen; omega)
          have hn := HN.out _ (hst_no (by rw [hO]; simp))
          clear hO HN
          go_wp2_with fail
          refine (cF _ hI).mono ?_
          rintro e w1 ⟨rfl, hg1⟩
          go_wp2_with fail
          go_roundw
          case rel => exact ⟨k + 1, O, r, by omega, by go_num, rfl, rfl, Lib.hid hn, HA.grown hg1 (by simp), HB.kept hg1, Nat.le_trans hsz hg1.size, gr_trans hg hg1⟩
          case measure => simp [intOf]; omega
        · have cF : ∀ W, Ints W A V → Calls Tryz.prog 75 #[fr K Q A V.length C] W (Ret (.bool true) W) := fun W hW => hO ▸ specFrameOk K Q A C V W hW (by unfold maxLen; omega)
          have hV0 := okF_ne hO
          have hV6 := okF_short hO
          cases hN : newer O Q
          · have cN : ∀ W, Calls Tryz.prog 76 #[.int .i64 O, .int .i64 Q] W fun e w' => e = .returned (.bool false) ∧ W = w' := fun W => hN ▸ specNewer O Q W
            have hn := HN.out _ (hst_no (by rw [hO, hN]; simp))
            clear hO HN hN
            go_wp2_with fail
            refine (cF _ hI).mono ?_
            rintro e w1 ⟨rfl, hg1⟩
            have cy1 := (World.cell?_of_block (a := ⟨(x.add (k * 3)).block, (x.add (k * 3)).off + 1, none⟩) (hg1.block _ (by rw [block_add]; omega) (by simp))).trans cy
            go_wp2_with fail
            refine (cN _).mono ?_
            rintro e w2 ⟨rfl, rfl⟩
            go_wp2_with fail
            go_roundw
            case rel => exact ⟨k + 1, O, r, by omega, by go_num, rfl, rfl, Lib.hid hn, HA.grown hg1 (by simp), HB.kept hg1, Nat.le_trans hsz hg1.size, gr_trans hg hg1⟩
            case measure => simp [intOf]; omega
          · have cN : ∀ W, Calls Tryz.prog 76 #[.int .i64 O, .int .i64 Q] W fun e w' => e = .returned (.bool true) ∧ W = w' := fun W => hN ▸ specNewer O Q W
            have hn := HN.out _ (hst_yes (by rw [hO, hN]; simp))
            clear hO HN hN
            go_wp2_with fail
            refine (cF _ hI).mono ?_
            rintro e w1 ⟨rfl, hg1⟩
            have cy1 := (World.cell?_of_block (a := ⟨(x.add (k * 3)).block, (x.add (k * 3)).off + 1, none⟩) (hg1.block _ (by rw [block_add]; omega) (by simp))).trans cy
            have cz1 := (World.cell?_of_block (a := ⟨(x.add (k * 3)).block, (x.add (k * 3)).off + 2, none⟩) (hg1.block _ (by rw [block_add]; omega) (by simp))).trans cz
            go_wp2_with fail
            refine (cN _).mono ?_
            rintro e w2 ⟨rfl, rfl⟩
            have HA1 := HA.grown hg1 (by simp)
            obtain ⟨b0, b1, b2, HB1⟩ := (HB.kept hg1).cells
            have hI1 := hI.kept hg1
            have hg2 := gr_trans hg hg1
            have hsz1 := Nat.le_trans hsz hg1.size
            have hxb1 := Nat.lt_of_lt_of_le hxb hg1.size
            have cC := fun W hW => specCopy A C V W hW hV0 (by omega)
            clear cx cy cz cF cN HA HB hI hg hg1 hsz hxb
            go_wp2_with fail
            have cD : Calls Tryz.prog 74 #[.slice A V.length C] w1.drew fun e w7 => ∃ a7 c7, e = .returned (.slice a7 V.length c7) ∧ w1.grownBy w7 none ∧ Own w1.heap.size w7 a7 V ∧ (w7.cell? ⟨(x.add (k * 3)).block, (x.add (k * 3)).off + 1, none⟩ = some (.int .i64 Q) ∧ w7.cell? ⟨(x.add (k * 3)).block, (x.add (k * 3)).off + 2, none⟩ = some (.slice A V.length C)) ∧ Has w7 (w.heap.size + 1) 50 #[b0, b1, b2] := by
              refine (cC w1.drew hI1).mono ?_
              rintro e w7 ⟨a7, c7, rfl, hg7, hO7⟩
              have hg7' : w1.grownBy w7 none := gr_trans (gr_drewN (gr_refl w1 none) 1) hg7
              have hxb2 : (x.add (k * 3)).block < w1.heap.size := by rw [block_add]; exact hxb1
              exact ⟨a7, c7, rfl, hg7', hO7, ⟨(World.cell?_of_block (a := ⟨(x.add (k * 3)).block, (x.add (k * 3)).off + 1, none⟩) (hg7'.block _ hxb2 (by simp))).trans cy1, (World.cell?_of_block (a := ⟨(x.add (k * 3)).block, (x.add (k * 3)).off + 2, none⟩) (hg7'.block _ hxb2 (by simp))).trans cz1⟩, HB1.grown hg7' (by simp)⟩
            have hxq : (x.add (k * 3)).block ≠ w.heap.size + 1 := by rw [block_add]; omega
            have hset : ∀ (W : World) (u v z : Value), (W.cell? ⟨(x.add (k * 3)).block, (x.add (k * 3)).off + 1, none⟩ = some (.int .i64 Q) ∧ W.cell? ⟨(x.add (k * 3)).block, (x.add (k * 3)).off + 2, none⟩ = some (.slice A V.length C)) →
                ((((W.setCell ⟨w.heap.size + 1, 0, none⟩ u).setCell ⟨w.heap.size + 1, 1, none⟩ v).setCell ⟨w.heap.size + 1, 2, none⟩ z).cell? ⟨(x.add (k * 3)).block, (x.add (k * 3)).off + 1, none⟩ = some (.int .i64 Q) ∧ (((W.setCell ⟨w.heap.size + 1, 0, none⟩ u).setCell ⟨w.heap.size + 1, 1, none⟩ v).setCell ⟨w.heap.size + 1, 2, none⟩ z).cell? ⟨(x.add (k * 3)).block, (x.add (k * 3)).off + 2, none⟩ = some (.slice A V.length C)) :=
              fun W u v z hW => ⟨(cell_set3 (a := ⟨(x.add (k * 3)).block, (x.add (k * 3)).off + 1, none⟩) hxq _ _ _ _ _ _).trans hW.1, (cell_set3 (a := ⟨(x.add (k * 3)).block, (x.add (k * 3)).off + 2, none⟩) hxq _ _ _ _ _ _).trans hW.2⟩
            clear cC
            go_region_held3 (fun W => W.cell? ⟨(x.add (k * 3)).block, (x.add (k * 3)).off + 1, none⟩ = some (.int .i64 Q) ∧ W.cell? ⟨(x.add (k * 3)).block, (x.add (k * 3)).off + 2, none⟩ = some (.slice A V.length C)) (first | exact hS7 | exact hset _ _ _ _ hS7 | go_keep) (first | (go_at_call 74; refine cD.mono ?_; rintro e w7 ⟨a7, c7, rfl, hg7, hO7, hS7, HB7⟩; obtain ⟨p0, p1, p2, q0, q1, q2⟩ := three HB7))
            obtain ⟨cy8, cz8⟩ := hset w7 (.int .i64 K) (.int .i64 Q) (.slice a7 V.length c7) hS7
            have hO8 : Own (w.heap.size + 1 + 1) w7 a7 V := hO7.up hsz1
            have hsz7 := hg7.size
            clear cD hset hS7 p0 p1 p2 q0 q1 q2 cy1 cz1
            go_wp2_with fail
            go_roundw
            case rel => exact ⟨k + 1, Q, some (K, Q, V), by omega, by go_num, rfl, rfl, Lib.hid hn, has_other (has_other (has_other (HA1.grown hg7 (by simp)) (by omega) _ _) (by omega) _ _) (by omega) _ _, ⟨a7, c7, set3 HB7 _ _ _, ((hO8.set _ _).set _ _).set _ _⟩, by simp [World.setCell]; omega, gr_new (gr_new (gr_new (gr_trans hg2 hg7) (Nat.le_succ _) _ _) (Nat.le_succ _) _ _) (Nat.le_succ _) _ _⟩
            case measure => simp [intOf]; omega
      · have hn := HN.out _ (hst_no (by rw [decide_eq_false hK]; rfl))
        have hK' : (K == kind) = false := by rw [beq_eq_false_iff_ne]; exact hK
        clear HN
        go_wp2_with fail
        go_roundw
        case rel => exact ⟨k + 1, O, r, by omega, by go_num, rfl, rfl, Lib.hid hn, HA, HB, hsz, hg⟩
        case measure => simp [intOf]; omega
    · obtain rfl : k = fs.length := by omega
      have hh : heard kind old fs = r := by rw [heard, hf.out]
      have HH := Lib.hid hh
      clear hf hh
      obtain ⟨p0, p1, p2, q0, q1, q2⟩ := three HA
      cases r with
      | none =>
        obtain ⟨b0, b1, b2, _, _, _⟩ := three (show Has wr (w.heap.size + 1) 50 #[.int .i64 0, .int .i64 0, .slice none 0 0] from HB)
        go_wp2_with fail
        obtain ⟨r0, r1, r2, _, _, _⟩ := three (set3 HA (.int .i64 0) (.int .i64 0) (.slice none 0 0))
        exact bodyPost_ret (v := .tuple #[fr 0 0 none 0 0, .bool false]) (by simp [results, Tryz.results40, go_sem, r0, r1, r2]) rfl (out_none HH.out (gr_new (gr_new (gr_new hg (Nat.le_refl _) _ _) (Nat.le_refl _) _ _) (Nat.le_refl _) _ _))
      | some f =>
        obtain ⟨a7, c7, HB7, hO7⟩ := HB
        obtain ⟨K, Q, V⟩ := f
        obtain ⟨b0, b1, b2, _, _, _⟩ := three HB7
        have hO8 : Own (w.heap.size + 1) wr a7 V := hO7.up (Nat.le_succ _)
        go_wp2_with fail
        obtain ⟨r0, r1, r2, _, _, _⟩ := three (set3 HA (.int .i64 K) (.int .i64 Q) (.slice a7 V.length c7))
        exact bodyPost_ret (v := .tuple #[fr K Q a7 V.length c7, .bool true]) (by simp [results, Tryz.results40, go_sem, r0, r1, r2]) rfl (out_some (f := (K, Q, V)) HH.out (gr_new (gr_new (gr_new hg (Nat.le_refl _) _ _) (Nat.le_refl _) _ _) (Nat.le_refl _) _ _) ((((hO8.set _ _).set _ _).set _ _).up (Nat.le_succ _)))
end Go.Proofs.YtdikhdfpcipdbaaGreatDoor.stm

/- FramesIn of the model. -/
namespace Go.Proofs.YtdikhdfpcipdbaaGreatDoor.stm
open Go.ChangeShapes Go.WideShapes Go.ChangeAt Go.RowKit
open Go.Proofs.YtdikhdfpcipdbaaGreatDoor.nums Go.Proofs.YtdikhdfpcipdbaaGreatDoor.mem Go.Proofs.YtdikhdfpcipdbaaGreatDoor.txt Go.Proofs.YtdikhdfpcipdbaaGreatDoor.fix Go.Proofs.YtdikhdfpcipdbaaGreatDoor.frm
open Go.Proofs.YtdikhdfpcipdbaaGreatDoor.tab (Ret quiet_w wpList_make_has add_off)
set_option linter.unusedVariables false

theorem take_snoc {s : List UInt8} {k : Nat} (h : k < s.length) : s.take (k + 1) = s.take k ++ [byt s k] := by
  rw [List.take_add_one, List.getElem?_eq_getElem h]
  simp [byt, List.getD, h]
theorem str_piece (l : List UInt8) (a b : Nat) : (ByteArray.mk l.toArray).extract a b = ByteArray.mk ((l.take b).drop a).toArray := by
  rw [ByteArray.extract_mk, List.drop_take]
theorem piece_of {s pre acc : List UInt8} {k fr : Nat} {c : UInt8} (hk : k < s.length) (h : s.take k = pre ++ acc) (hf : pre.length = fr) (hc : byt s k = c) : (s.take (k + 1)).drop fr = acc ++ [c] := by
  rw [take_snoc hk, h, hc, List.append_assoc, ← hf, List.drop_left]
theorem run_other {rd : List UInt8 → Option Fr} {s acc : List UInt8} {out : List Fr} {k : Nat} (hk : k < s.length) (h : run rd (s.take k) = (acc, out)) (hc : byt s k ≠ 10) : run rd (s.take (k + 1)) = (acc ++ [byt s k], out) := by
  rw [take_snoc hk, run_snoc, h, stp, if_neg hc]
theorem run_ten {rd : List UInt8 → Option Fr} {s acc : List UInt8} {out : List Fr} {k : Nat} (hk : k < s.length) (h : run rd (s.take k) = (acc, out)) (hc : byt s k = 10) : run rd (s.take (k + 1)) = ([], push out (rd (acc ++ [10]))) := by
  rw [take_snoc hk, run_snoc, h, stp, if_pos hc]

/-- Where the model's loop stands. -/
structure At (rd : List UInt8 → Option Fr) (s : List UInt8) (k fr : Nat) (out : List Fr) : Prop where
  ex : ∃ pre acc, s.take k = pre ++ acc ∧ pre.length = fr ∧ run rd (s.take k) = (acc, out)
theorem At.zero (rd : List UInt8 → Option Fr) (s : List UInt8) : At rd s 0 0 [] := ⟨[], [], by simp, rfl, by simp [run_nil]⟩
theorem At.le {rd : List UInt8 → Option Fr} {s : List UInt8} {k fr : Nat} {out : List Fr} (h : At rd s k fr out) (hk : k ≤ s.length) : fr ≤ k := by
  obtain ⟨pre, acc, h1, h2, h3⟩ := h.ex
  have := congrArg List.length h1
  simp at this; omega
theorem At.other {rd : List UInt8 → Option Fr} {s : List UInt8} {k fr : Nat} {out : List Fr} (h : At rd s k fr out) (hk : k < s.length) (hc : byt s k ≠ 10) : At rd s (k + 1) fr out := by
  obtain ⟨pre, acc, h1, h2, h3⟩ := h.ex
  exact ⟨pre, acc ++ [byt s k], by rw [take_snoc hk, h1, List.append_assoc], h2, run_other hk h3 hc⟩
theorem At.ten {rd : List UInt8 → Option Fr} {s : List UInt8} {k fr : Nat} {out : List Fr} (h : At rd s k fr out) (hk : k < s.length) (hc : byt s k = 10) : At rd s (k + 1) (k + 1) (push out (rd ((s.take (k + 1)).drop fr))) := by
  obtain ⟨pre, acc, h1, h2, h3⟩ := h.ex
  rw [piece_of hk h1 h2 hc]
  exact ⟨s.take (k + 1), [], by simp, by simp; omega, run_ten hk h3 hc⟩
theorem At.end_ {rd : List UInt8 → Option Fr} {s : List UInt8} {fr : Nat} {out : List Fr} (h : At rd s s.length fr out) : run rd s = (s.drop fr, out) := by
  obtain ⟨pre, acc, h1, h2, h3⟩ := h.ex
  rw [List.take_length] at h1 h3
  rw [h3, h1, ← h2, List.drop_left]

set_option maxRecDepth 100000 in
set_option maxHeartbeats 4000000 in
theorem specIn_ (rd : List UInt8 → Option Fr) (hrd : ∀ s, IsRead s (rd s)) (s : List UInt8) (w : World) (hl : s.length ≤ 1048576) : Calls Tryz.prog 159 #[str s] w (InOut (frsOf rd s) (rstOf rd s) w) := by
  obtain ⟨i0, hi, hz0, hz1, hz2⟩ := info_parts infoFrame
  have L0 := Lst.made w.heap.size w (Nat.le_refl _)
  have g0 := World.grownBy_alloc w (Obj.cells #[] 50) none
  by_cases hbig : 4000 < s.length
  · have hO : InOut (frsOf rd s) (rstOf rd s) w (.returned (.tuple #[.slice (some ⟨w.heap.size, 0, none⟩) 0 0, str []])) (w.alloc (Obj.cells #[] 50)) := by
      rw [frsOf, rstOf, if_pos hbig, if_pos hbig]
      obtain ⟨h1, h2⟩ := own_of L0 (Deep.nil _)
      exact ⟨_, 0, [], rfl, g0, h1, h2, L0, Deep.nil _⟩
    have hbig' : decide (4000 < (s.length : Int)) = true := by simp; omega
    replace hO := Lib.hid hO
    clear L0 hrd
    go_enter Tryz.func159, Tryz.ntmps159
    go_wp2_with fail
    go_ret2
    exact hO.out
  · have hbig' : decide (4000 < (s.length : Int)) = false := by simp; omega
    have hend : ∀ a cap ps fr out w', At rd s s.length fr out → w.grownBy w' none → Lst w.heap.size w' (.slice a out.length cap) out ps → Deep w' out ps → InOut (frsOf rd s) (rstOf rd s) w (.returned (.tuple #[.slice a out.length cap, str (rest (s.drop fr))])) w' := fun a cap ps fr out w' hA hg L D => by
      rw [frsOf, rstOf, if_neg hbig, if_neg hbig, hA.end_]
      obtain ⟨h1, h2⟩ := own_of L D
      exact ⟨a, cap, ps, rfl, hg, h1, h2, L, D⟩
    have HE := Lib.hid hend
    have hl4 : s.length ≤ 4000 := by omega
    clear hend hbig hl
    go_enter Tryz.func159, Tryz.ntmps159
    go_wp2_with fail
    go_loopw [4, 5, 6] (fun v fr i wr => ∃ (k f : Nat) (out : List Fr) (ps : List Pl), k ≤ s.length ∧ i = .int .i64 k ∧ fr = .int .i64 f ∧ f ≤ k ∧ Hid (At rd s k f out) ∧ Lst w.heap.size wr v out ps ∧ Deep wr out ps ∧ out.length ≤ 50 ∧ w.grownBy wr none) (fun _ _ i _ => s.length - (intOf i).toNat)
    case atStart => exact ⟨0, 0, [], [], Nat.zero_le _, rfl, rfl, Nat.le_refl _, Lib.hid (At.zero rd s), L0, Deep.nil _, by simp, g0⟩
    case round =>
      clear L0 g0
      obtain ⟨k, f, out, ps, hk, rfl, rfl, hfk, hA, L, D, h50, hg⟩ := hrel
      obtain ⟨a4, c4, e4⟩ := L.form
      subst e4
      by_cases hlt : k < s.length
      · have hidx : (ByteArray.mk s.toArray)[k]'hlt = byt s k := by simp [byt, List.getD, hlt]; rfl
        by_cases hc : byt s k = 10
        · have hidx' : (ByteArray.mk s.toArray)[k]'hlt = 10 := hidx.trans hc
          have hi2 : k + 1 ≤ s.length := by omega
          have hi4 : (k : Int) + 1 ≤ s.length := by omega
          have hi5 : (f : Int) ≤ (k : Int) + 1 := by omega
          have hw1 : ((k : Int) + 1).toNat = k + 1 := by omega
          have hw2 : (0 : Int) ≤ (k : Int) + 1 := by omega
          have hw3 : IntKind.i64.wrap ((k : Int) + 1) = (k : Int) + 1 := IntWalk.i64_in _ (by omega)
          have cR : ∀ W, Calls Tryz.prog 172 #[.string ((ByteArray.mk s.toArray).extract f (k + 1))] W (ReadOut (rd ((s.take (k + 1)).drop f)) W) := fun W => by
            rw [str_piece]
            exact specRead _ _ W (by simp; omega) (hrd _)
          have hA1 := hA.out.ten hlt hc
          have hk50 := push_len (r := rd ((s.take (k + 1)).drop f)) h50
          clear hA hidx hc hrd
          obtain ⟨r, hr⟩ : ∃ r, rd ((s.take (k + 1)).drop f) = r := ⟨_, rfl⟩
          rw [hr] at cR hA1 hk50
          clear hr
          cases r with
          | none =>
            replace hA1 := Lib.hid hA1
            go_wp2_with fail
            refine (cR _).mono ?_
            rintro e w1 ⟨g1, rfl⟩
            have g2 := gr_alloc g1 (Obj.cells #[.int .i64 0, .int .i64 0, .slice none 0 0] 50)
            clear cR
            go_wp2_with fail
            go_roundw
            case rel => exact ⟨k + 1, k + 1, out, ps, by omega, by go_num, by go_num, Nat.le_refl _, hA1, L.kept g2, D.kept g2, h50, gr_trans hg g2⟩
            case measure => simp [intOf]; omega
          | some q =>
            obtain ⟨K, Q, V⟩ := q
            by_cases hlen : out.length < 50
            · have hlen' : decide ((out.length : Int) < 50) = true := by simp; omega
              have hpu : push out (some (K, Q, V)) = out ++ [(K, Q, V)] := by simp [push, hlen]
              rw [hpu] at hA1 hk50
              replace hA1 := Lib.hid hA1
              go_wp2_with fail
              refine (cR _).mono ?_
              rintro e w1 ⟨g1, a1, c1, rfl, hO1⟩
              have g2 := gr_alloc g1 (Obj.cells #[.int .i64 K, .int .i64 Q, .slice a1 V.length c1] 50)
              have HX := Has.fresh w1 50 #[.int .i64 K, .int .i64 Q, .slice a1 V.length c1]
              have hO2 := hO1.kept (World.grownBy_alloc w1 (Obj.cells #[.int .i64 K, .int .i64 Q, .slice a1 V.length c1] 50) none)
              have hoV := OwnV.of hO2
              have hlow := L.lt
              have hge := own_ge hO2
              have L1 := L.kept g2
              have D1 := D.kept g2
              have hg2 := gr_trans hg g2
              have hwsz := hg.size
              clear cR g1 g2 hO1 hO2 L D hg
              go_upto_region 11 with fail
              generalize w1.alloc (Obj.cells #[.int .i64 K, .int .i64 Q, .slice a1 V.length c1] 50) = w2 at *
              obtain ⟨b0, b1, b2, _, _, _⟩ := three HX
              have hs2 := hg2.size
              go_wp2_with (at_builtin; refine wpList_append_lies _ rfl _ _ _ rfl w.heap.size 50 i0 _ 3 40 Tryz.underlying28 hi hz0 hz1 hz2 rfl (by omega) _ out.length (rowF out ps) rfl (L1.row.alloc _) ⟨w2.heap.size, 0, none⟩ 1 1 [.int .i64 K, .int .i64 Q, .slice a1 V.length c1] rfl rfl (World.news_of_block (cs := #[.int .i64 K, .int .i64 Q, .slice a1 V.length c1]) (t := 50) (fr := (0, 0)) (heap_alloc_new _ _)) (by simp [Value.oneCell']) (by omega) (by unfold maxLen; omega) (by omega) (by simp; omega) _ rfl ?_; intro gg cap1 w9 hown hgrow hat hlt9)
              obtain ⟨L9, D9⟩ := both_snoc (f := (K, Q, V)) (p := (a1, c1)) L1 D1 hoV hwsz hge hlow hown hgrow (hat.imp id (fun e => e.trans (by simp)))
              have g9 := gr_own (gr_alloc hg2 _) (L1.row.alloc _) (Nat.le_refl _) hgrow
              clear hgrow hat hown
              go_roundw
              case rel => exact ⟨k + 1, k + 1, out ++ [(K, Q, V)], ps ++ [(a1, c1)], by omega, by go_num, by go_num, Nat.le_refl _, hA1, L9, D9, hk50, g9⟩
              case measure => simp [intOf]; omega
            · have hlen' : decide ((out.length : Int) < 50) = false := by simp; omega
              have hpu : push out (some (K, Q, V)) = out := by simp [push, hlen]
              rw [hpu] at hA1 hk50
              replace hA1 := Lib.hid hA1
              go_wp2_with fail
              refine (cR _).mono ?_
              rintro e w1 ⟨g1, a1, c1, rfl, -⟩
              have g2 := gr_alloc g1 (Obj.cells #[.int .i64 K, .int .i64 Q, .slice a1 V.length c1] 50)
              clear cR
              go_wp2_with fail
              go_roundw
              case rel => exact ⟨k + 1, k + 1, out, ps, by omega, by go_num, by go_num, Nat.le_refl _, hA1, L.kept g2, D.kept g2, h50, gr_trans hg g2⟩
              case measure => simp [intOf]; omega
        · have hne1 : ((((ByteArray.mk s.toArray)[k]'hlt).toNat : Int) == 10) = false := by
            rw [beq_eq_false_iff_ne, hidx]
            intro e
            exact hc (UInt8.toNat.inj (by simp; omega))
          have hA1 := Lib.hid (hA.out.other hlt hc)
          clear hA hidx hc hrd
          go_wp2_with fail
          go_roundw
          case rel => exact ⟨k + 1, f, out, ps, by omega, by go_num, rfl, by omega, hA1, L, D, h50, hg⟩
          case measure => simp [intOf]; omega
      · obtain rfl : k = s.length := by omega
        have hO := Lib.hid (HE.out a4 c4 ps f out wr hA.out hg L D)
        clear hA HE hrd
        have hdr := str_drop s f
        by_cases h60 : 60 < s.length - f
        · have h60' : decide (60 < ((s.drop f).length : Int)) = true := by simp; omega
          rw [show rest (s.drop f) = [] by rw [rest, if_pos (by simp; omega)]] at hO
          go_wp2_with fail
          go_ret2
          exact hO.out
        · rw [show rest (s.drop f) = s.drop f by rw [rest, if_neg (by simp; omega)]] at hO
          go_wp2_with fail
          go_ret2
          exact hO.out
end Go.Proofs.YtdikhdfpcipdbaaGreatDoor.stm

