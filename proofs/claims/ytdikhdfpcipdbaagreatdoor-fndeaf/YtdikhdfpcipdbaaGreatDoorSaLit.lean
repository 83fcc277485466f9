/- A list of seventy is its members. -/
import Derived.Test.YtdikhdfpcipdbaaGreatDoorLit
namespace Go.Proofs.YtdikhdfpcipdbaaGreatDoor.wd
open Go
open Go.Proofs.YtdikhdfpcipdbaaGreatDoor.se (cons_of)
theorem litS70 (tl : List Value) (h : tl.length = 70) : ∃ x0 x1 x2 x3 x4 x5 x6 x7 x8 x9 x10 x11 x12 x13 x14 x15 x16 x17 x18 x19 x20 x21 x22 x23 x24 x25 x26 x27 x28 x29 x30 x31 x32 x33 x34 x35 x36 x37 x38 x39 x40 x41 x42 x43 x44 x45 x46 x47 x48 x49 x50 x51 x52 x53 x54 x55 x56 x57 x58 x59 x60 x61 x62 x63 x64 x65 x66 x67 x68 x69 : Value, tl = [x0, x1, x2, x3, x4, x5, x6, x7, x8, x9, x10, x11, x12, x13, x14, x15, x16, x17, x18, x19, x20, x21, x22, x23, x24, x25, x26, x27, x28, x29, x30, x31, x32, x33, x34, x35, x36, x37, x38, x39, x40, x41, x42, x43, x44, x45, x46, x47, x48, x49, x50, x51, x52, x53, x54, x55, x56, x57, x58, x59, x60, x61, x62, x63, x64, x65, x66, x67, x68, x69] := by
  obtain ⟨x0, t0, e0, h0⟩ := cons_of h
  obtain ⟨x1, t1, e1, h1⟩ := cons_of h0
  obtain ⟨x2, t2, e2, h2⟩ := cons_of h1
  obtain ⟨x3, t3, e3, h3⟩ := cons_of h2
  obtain ⟨x4, t4, e4, h4⟩ := cons_of h3
  obtain ⟨x5, t5, e5, h5⟩ := cons_of h4
  obtain ⟨x6, t6, e6, h6⟩ := cons_of h5
  obtain ⟨x7, t7, e7, h7⟩ := cons_of h6
  obtain ⟨x8, t8, e8, h8⟩ := cons_of h7
  obtain ⟨x9, t9, e9, h9⟩ := cons_of h8
  obtain ⟨x10, t10, e10, h10⟩ := cons_of h9
  obtain ⟨x11, t11, e11, h11⟩ := cons_of h10
  obtain ⟨x12, t12, e12, h12⟩ := cons_of h11
  obtain ⟨x13, t13, e13, h13⟩ := cons_of h12
  obtain ⟨x14, t14, e14, h14⟩ := cons_of h13
  obtain ⟨x15, t15, e15, h15⟩ := cons_of h14
  obtain ⟨x16, t16, e16, h16⟩ := cons_of h15
  obtain ⟨x17, t17, e17, h17⟩ := cons_of h16
  obtain ⟨x18, t18, e18, h18⟩ := cons_of h17
  obtain ⟨x19, t19, e19, h19⟩ := cons_of h18
  obtain ⟨x20, t20, e20, h20⟩ := cons_of h19
  obtain ⟨x21, t21, e21, h21⟩ := cons_of h20
  obtain ⟨x22, t22, e22, h22⟩ := cons_of h21
  obtain ⟨x23, t23, e23, h23⟩ := cons_of h22
  obtain ⟨x24, t24, e24, h24⟩ := cons_of h23
  obtain ⟨x25, t25, e25, h25⟩ := cons_of h24
  obtain ⟨x26, t26, e26, h26⟩ := cons_of h25
  obtain ⟨x27, t27, e27, h27⟩ := cons_of h26
  obtain ⟨x28, t28, e28, h28⟩ := cons_of h27
  obtain ⟨x29, t29, e29, h29⟩ := cons_of h28
  obtain ⟨x30, t30, e30, h30⟩ := cons_of h29
  obtain ⟨x31, t31, e31, h31⟩ := cons_of h30
  obtain ⟨x32, t32, e32, h32⟩ := cons_of h31
  obtain ⟨x33, t33, e33, h33⟩ := cons_of h32
  obtain ⟨x34, t34, e34, h34⟩ := cons_of h33
  obtain ⟨x35, t35, e35, h35⟩ := cons_of h34
  obtain ⟨x36, t36, e36, h36⟩ := cons_of h35
  obtain ⟨x37, t37, e37, h37⟩ := cons_of h36
  obtain ⟨x38, t38, e38, h38⟩ := cons_of h37
  obtain ⟨x39, t39, e39, h39⟩ := cons_of h38
  obtain ⟨x40, t40, e40, h40⟩ := cons_of h39
  obtain ⟨x41, t41, e41, h41⟩ := cons_of h40
  obtain ⟨x42, t42, e42, h42⟩ := cons_of h41
  obtain ⟨x43, t43, e43, h43⟩ := cons_of h42
  obtain ⟨x44, t44, e44, h44⟩ := cons_of h43
  obtain ⟨x45, t45, e45, h45⟩ := cons_of h44
  obtain ⟨x46, t46, e46, h46⟩ := cons_of h45
  obtain ⟨x47, t47, e47, h47⟩ := cons_of h46
  obtain ⟨x48, t48, e48, h48⟩ := cons_of h47
  obtain ⟨x49, t49, e49, h49⟩ := cons_of h48
  obtain ⟨x50, t50, e50, h50⟩ := cons_of h49
  obtain ⟨x51, t51, e51, h51⟩ := cons_of h50
  obtain ⟨x52, t52, e52, h52⟩ := cons_of h51
  obtain ⟨x53, t53, e53, h53⟩ := cons_of h52
  obtain ⟨x54, t54, e54, h54⟩ := cons_of h53
  obtain ⟨x55, t55, e55, h55⟩ := cons_of h54
  obtain ⟨x56, t56, e56, h56⟩ := cons_of h55
  obtain ⟨x57, t57, e57, h57⟩ := cons_of h56
  obtain ⟨x58, t58, e58, h58⟩ := cons_of h57
  obtain ⟨x59, t59, e59, h59⟩ := cons_of h58
  obtain ⟨x60, t60, e60, h60⟩ := cons_of h59
  obtain ⟨x61, t61, e61, h61⟩ := cons_of h60
  obtain ⟨x62, t62, e62, h62⟩ := cons_of h61
  obtain ⟨x63, t63, e63, h63⟩ := cons_of h62
  obtain ⟨x64, t64, e64, h64⟩ := cons_of h63
  obtain ⟨x65, t65, e65, h65⟩ := cons_of h64
  obtain ⟨x66, t66, e66, h66⟩ := cons_of h65
  obtain ⟨x67, t67, e67, h67⟩ := cons_of h66
  obtain ⟨x68, t68, e68, h68⟩ := cons_of h67
  obtain ⟨x69, t69, e69, h69⟩ := cons_of h68
  have e70 := List.eq_nil_of_length_eq_zero h69
  exact ⟨x0, x1, x2, x3, x4, x5, x6, x7, x8, x9, x10, x11, x12, x13, x14, x15, x16, x17, x18, x19, x20, x21, x22, x23, x24, x25, x26, x27, x28, x29, x30, x31, x32, x33, x34, x35, x36, x37, x38, x39, x40, x41, x42, x43, x44, x45, x46, x47, x48, x49, x50, x51, x52, x53, x54, x55, x56, x57, x58, x59, x60, x61, x62, x63, x64, x65, x66, x67, x68, x69, by rw [e0, e1, e2, e3, e4, e5, e6, e7, e8, e9, e10, e11, e12, e13, e14, e15, e16, e17, e18, e19, e20, e21, e22, e23, e24, e25, e26, e27, e28, e29, e30, e31, e32, e33, e34, e35, e36, e37, e38, e39, e40, e41, e42, e43, e44, e45, e46, e47, e48, e49, e50, e51, e52, e53, e54, e55, e56, e57, e58, e59, e60, e61, e62, e63, e64, e65, e66, e67, e68, e69, e70]⟩
theorem litE70 {C : Prop} (tl : List Value) (h : tl.length = 70) (H : ∀ x0 x1 x2 x3 x4 x5 x6 x7 x8 x9 x10 x11 x12 x13 x14 x15 x16 x17 x18 x19 x20 x21 x22 x23 x24 x25 x26 x27 x28 x29 x30 x31 x32 x33 x34 x35 x36 x37 x38 x39 x40 x41 x42 x43 x44 x45 x46 x47 x48 x49 x50 x51 x52 x53 x54 x55 x56 x57 x58 x59 x60 x61 x62 x63 x64 x65 x66 x67 x68 x69 : Value, tl = [x0, x1, x2, x3, x4, x5, x6, x7, x8, x9, x10, x11, x12, x13, x14, x15, x16, x17, x18, x19, x20, x21, x22, x23, x24, x25, x26, x27, x28, x29, x30, x31, x32, x33, x34, x35, x36, x37, x38, x39, x40, x41, x42, x43, x44, x45, x46, x47, x48, x49, x50, x51, x52, x53, x54, x55, x56, x57, x58, x59, x60, x61, x62, x63, x64, x65, x66, x67, x68, x69] → C) : C := by
  have e := litS70 tl h
  revert H
  obtain ⟨x0, x1, x2, x3, x4, x5, x6, x7, x8, x9, x10, x11, x12, x13, x14, x15, x16, x17, x18, x19, x20, x21, x22, x23, x24, x25, x26, x27, x28, x29, x30, x31, x32, x33, x34, x35, x36, x37, x38, x39, x40, x41, x42, x43, x44, x45, x46, x47, x48, x49, x50, x51, x52, x53, x54, x55, x56, x57, x58, x59, x60, x61, x62, x63, x64, x65, x66, x67, x68, x69, et⟩ := e
  intro H
  exact H x0 x1 x2 x3 x4 x5 x6 x7 x8 x9 x10 x11 x12 x13 x14 x15 x16 x17 x18 x19 x20 x21 x22 x23 x24 x25 x26 x27 x28 x29 x30 x31 x32 x33 x34 x35 x36 x37 x38 x39 x40 x41 x42 x43 x44 x45 x46 x47 x48 x49 x50 x51 x52 x53 x54 x55 x56 x57 x58 x59 x60 x61 x62 x63 x64 x65 x66 x67 x68 x69 et
theorem abs6 {P : Program} {c : Code} {Q : Exit → Act → World → Prop} {a : Act} {w : World} {n : Nat} (i1 i2 i3 i4 i5 i6 : Nat) {y1 y2 y3 y4 y5 y6 : Value}
    (h : ∀ a0 : Act, a0.tmps.size = n → a0.defers = [] → a0.tmps[i1]? = some y1 → a0.tmps[i2]? = some y2 → a0.tmps[i3]? = some y3 → a0.tmps[i4]? = some y4 → a0.tmps[i5]? = some y5 → a0.tmps[i6]? = some y6 → c.wp P Q a0 w)
    (h1 : a.tmps.size = n) (h2 : a.defers = []) (k1 : a.tmps[i1]? = some y1) (k2 : a.tmps[i2]? = some y2) (k3 : a.tmps[i3]? = some y3) (k4 : a.tmps[i4]? = some y4) (k5 : a.tmps[i5]? = some y5) (k6 : a.tmps[i6]? = some y6) : c.wp P Q a w := h a h1 h2 k1 k2 k3 k4 k5 k6
theorem abs2 {P : Program} {c : Code} {Q : Exit → Act → World → Prop} {a : Act} {w : World} {n : Nat} (i j : Nat) {x y : Value}
    (h : ∀ a0 : Act, a0.tmps.size = n → a0.defers = [] → a0.tmps[i]? = some x → a0.tmps[j]? = some y → c.wp P Q a0 w)
    (h1 : a.tmps.size = n) (h2 : a.defers = []) (h3 : a.tmps[i]? = some x) (h4 : a.tmps[j]? = some y) : c.wp P Q a w := h a h1 h2 h3 h4
end Go.Proofs.YtdikhdfpcipdbaaGreatDoor.wd
