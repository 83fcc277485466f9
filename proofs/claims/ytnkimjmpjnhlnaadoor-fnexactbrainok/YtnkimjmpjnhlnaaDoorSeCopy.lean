/- Senses: their bulk, copied, compared. -/
import Derived.Test.YtnkimjmpjnhlnaaDoorSeMark
namespace Go.Proofs.YtnkimjmpjnhlnaaDoor.se
open Go.ChangeShapes Go.WideShapes Go.ChangeAt Go.RowKit
open Go.Proofs.YtnkimjmpjnhlnaaDoor.nums Go.Proofs.YtnkimjmpjnhlnaaDoor.mem
open Go.Proofs.YtnkimjmpjnhlnaaDoor.tab (Ret)
open Go.Proofs.YtnkimjmpjnhlnaaDoor.rd (R okR zR OwnR)
open Go.Proofs.YtnkimjmpjnhlnaaDoor.il (nth Ints Own)
set_option linter.unusedVariables false

set_option maxHeartbeats 1000000 in
theorem szSenses_yes (s : S) (p : P) (w : World) (hl : Lim s) (h : bulk s ≤ 1048576) : Calls Tryd.prog 15 #[sv s p, .int .i64 1048576] w (Ret (.int .i64 (1048576 - (bulk s : Int))) w) := by
  have K0 := Has.fresh w 28 (cs6 s p)
  have g0 := World.grownBy_alloc w (Obj.cells (cs6 s p) 28) none
  obtain ⟨⟨c0, c1, c2⟩, _, _, c5⟩ := six K0
  unfold bulk at h ⊢
  obtain ⟨A, hA⟩ : ∃ A : Nat, 1048576 = A + s.sp.length := ⟨1048576 - s.sp.length, by omega⟩
  obtain ⟨B, hB⟩ : ∃ B : Nat, A = B + s.he.length := ⟨A - s.he.length, by omega⟩
  obtain ⟨C, hC⟩ : ∃ C : Nat, B = C + s.fa.length := ⟨B - s.fa.length, by omega⟩
  obtain ⟨D, hD⟩ : ∃ D : Nat, C = D + s.sq.length := ⟨C - s.sq.length, by omega⟩
  have k1 := fun a cap W => szR_yes a s.sp.length cap 1048576 A W hl.sp (by omega) hA
  have k2 := fun a cap W => szR_yes a s.he.length cap A B W hl.he (by omega) hB
  have k3 := fun a cap W => szR_yes a s.fa.length cap B C W hl.fa (by omega) hC
  have k4 := fun a cap W => szI_yes a s.sq.length cap C D W hl.sq (by omega) hD
  have n1 : decide ((A : Int) < 0) = false := by simp
  have n2 : decide ((B : Int) < 0) = false := by simp
  have n3 : decide ((C : Int) < 0) = false := by simp
  have n4 : decide ((D : Int) < 0) = false := by simp
  have e : (1048576 - ((s.sp.length + s.he.length + s.fa.length + s.sq.length : Nat) : Int)) = (D : Int) := by omega
  rw [e]
  clear e hA hB hC hD h
  go_enter Tryd.func15, Tryd.ntmps15
  go_wp2_with fail
  refine (k1 _ _ _).mono ?_
  rintro e w' ⟨rfl, rfl⟩
  go_wp2_with fail
  refine (k2 _ _ _).mono ?_
  rintro e w' ⟨rfl, rfl⟩
  go_wp2_with fail
  refine (k3 _ _ _).mono ?_
  rintro e w' ⟨rfl, rfl⟩
  go_wp2_with fail
  refine (k4 _ _ _).mono ?_
  rintro e w' ⟨rfl, rfl⟩
  go_wp2_with fail
  go_ret
  exact ⟨rfl, g0⟩
set_option maxHeartbeats 1000000 in
theorem szSenses_no (s : S) (p : P) (w : World) (hl : Lim s) (h : ¬ bulk s ≤ 1048576) : Calls Tryd.prog 15 #[sv s p, .int .i64 1048576] w (Ret (.int .i64 (-1)) w) := by
  have K0 := Has.fresh w 28 (cs6 s p)
  have g0 := World.grownBy_alloc w (Obj.cells (cs6 s p) 28) none
  obtain ⟨⟨c0, c1, c2⟩, _, _, c5⟩ := six K0
  unfold bulk at h
  by_cases h1 : s.sp.length ≤ 1048576
  · obtain ⟨A, hA⟩ : ∃ A : Nat, 1048576 = A + s.sp.length := ⟨1048576 - s.sp.length, by omega⟩
    have k1 := fun a cap W => szR_yes a s.sp.length cap 1048576 A W hl.sp (by omega) hA
    have n1 : decide ((A : Int) < 0) = false := by simp
    by_cases h2 : s.he.length ≤ A
    · obtain ⟨B, hB⟩ : ∃ B : Nat, A = B + s.he.length := ⟨A - s.he.length, by omega⟩
      have k2 := fun a cap W => szR_yes a s.he.length cap A B W hl.he (by omega) hB
      have n2 : decide ((B : Int) < 0) = false := by simp
      by_cases h3 : s.fa.length ≤ B
      · obtain ⟨C, hC⟩ : ∃ C : Nat, B = C + s.fa.length := ⟨B - s.fa.length, by omega⟩
        have k3 := fun a cap W => szR_yes a s.fa.length cap B C W hl.fa (by omega) hC
        have n3 : decide ((C : Int) < 0) = false := by simp
        have k4 := fun a cap W => szI_no a s.sq.length cap C W hl.sq (by omega) (by omega)
        clear hA hB hC h h1 h2 h3
        go_enter Tryd.func15, Tryd.ntmps15
        go_wp2_with fail
        refine (k1 _ _ _).mono ?_
        rintro e w' ⟨rfl, rfl⟩
        go_wp2_with fail
        refine (k2 _ _ _).mono ?_
        rintro e w' ⟨rfl, rfl⟩
        go_wp2_with fail
        refine (k3 _ _ _).mono ?_
        rintro e w' ⟨rfl, rfl⟩
        go_wp2_with fail
        refine (k4 _ _ _).mono ?_
        rintro e w' ⟨rfl, rfl⟩
        go_wp2_with fail
        go_ret
        exact ⟨rfl, g0⟩
      · have k3 := fun a cap W => szR_no a s.fa.length cap B W hl.fa (by omega) h3
        clear hA hB h h1 h2 h3
        go_enter Tryd.func15, Tryd.ntmps15
        go_wp2_with fail
        refine (k1 _ _ _).mono ?_
        rintro e w' ⟨rfl, rfl⟩
        go_wp2_with fail
        refine (k2 _ _ _).mono ?_
        rintro e w' ⟨rfl, rfl⟩
        go_wp2_with fail
        refine (k3 _ _ _).mono ?_
        rintro e w' ⟨rfl, rfl⟩
        go_wp2_with fail
        go_ret
        exact ⟨rfl, g0⟩
    · have k2 := fun a cap W => szR_no a s.he.length cap A W hl.he (by omega) h2
      clear hA h h1 h2
      go_enter Tryd.func15, Tryd.ntmps15
      go_wp2_with fail
      refine (k1 _ _ _).mono ?_
      rintro e w' ⟨rfl, rfl⟩
      go_wp2_with fail
      refine (k2 _ _ _).mono ?_
      rintro e w' ⟨rfl, rfl⟩
      go_wp2_with fail
      go_ret
      exact ⟨rfl, g0⟩
  · have k1 := fun a cap W => szR_no a s.sp.length cap 1048576 W hl.sp (by omega) h1
    clear h h1
    go_enter Tryd.func15, Tryd.ntmps15
    go_wp2_with fail
    refine (k1 _ _ _).mono ?_
    rintro e w' ⟨rfl, rfl⟩
    go_wp2_with fail
    go_ret
    exact ⟨rfl, g0⟩

theorem gr6 {a w : World} {g : Nat} (h : a.grownBy w none) (hg : a.heap.size ≤ g) (u0 u1 u2 u3 u4 u5 : Value) :
    a.grownBy ((((((w.setCell ⟨g, 0, none⟩ u0).setCell ⟨g, 1, none⟩ u1).setCell ⟨g, 2, none⟩ u2).setCell ⟨g, 3, none⟩ u3).setCell ⟨g, 4, none⟩ u4).setCell ⟨g, 5, none⟩ u5) none :=
  gr_new (gr_new (gr_new (gr_new (gr_new (gr_new h hg _ _) hg _ _) hg _ _) hg _ _) hg _ _) hg _ _
theorem set6 {w : World} {g : Nat} {t : TypeId} {a b c d e f : Value} (k : Has w g t #[a, b, c, d, e, f]) (u0 u1 u2 u3 u4 u5 : Value) :
    Has ((((((w.setCell ⟨g, 0, none⟩ u0).setCell ⟨g, 1, none⟩ u1).setCell ⟨g, 2, none⟩ u2).setCell ⟨g, 3, none⟩ u3).setCell ⟨g, 4, none⟩ u4).setCell ⟨g, 5, none⟩ u5) g t #[u0, u1, u2, u3, u4, u5] :=
  (((((k.put 0 u0 rfl).put 1 u1 rfl).put 2 u2 rfl).put 3 u3 rfl).put 4 u4 rfl).put 5 u5 rfl
/-- A store into an older block of one's own is seen by none of what is kept. -/
theorem OwnS.set {b : Nat} {w : World} {s : S} {p : P} (h : OwnS b w s p) (g i : Nat) (u : Value) (hg : ∀ c, blkS s p c → c ≠ g) : OwnS b (w.setCell ⟨g, i, none⟩ u) s p :=
  h.chg (T := fun c => c = g) (chg_of_gr (gr_set (gr_refl w (some g)) i u) (fun b e => by injection e)) hg
theorem OwnS.set6 {b : Nat} {w : World} {s : S} {p : P} (h : OwnS b w s p) (g : Nat) (hg : g < b) (u0 u1 u2 u3 u4 u5 : Value) :
    OwnS b ((((((w.setCell ⟨g, 0, none⟩ u0).setCell ⟨g, 1, none⟩ u1).setCell ⟨g, 2, none⟩ u2).setCell ⟨g, 3, none⟩ u3).setCell ⟨g, 4, none⟩ u4).setCell ⟨g, 5, none⟩ u5) s p := by
  have hn : ∀ (W : World) (K : OwnS b W s p) c, blkS s p c → c ≠ g := fun W K c hc e => by have := (K.lt hc).1; omega
  have h0 := h.set g 0 u0 (hn _ h)
  have h1 := h0.set g 1 u1 (hn _ h0)
  have h2 := h1.set g 2 u2 (hn _ h1)
  have h3 := h2.set g 3 u3 (hn _ h2)
  have h4 := h3.set g 4 u4 (hn _ h3)
  exact h4.set g 5 u5 (hn _ h4)

set_option maxHeartbeats 4000000 in
theorem toSenses (s : S) (p : P) (w : World) (h : Arg w s p) (hb : Bd s 1048576) : Calls Tryd.prog 25 #[sv s p] w (RetS s w) := by
  have hl1 := hb.sp
  have hl2 := hb.he
  have hl3 := hb.fa
  have hl4 := hb.sq
  have K0 := ((Has.fresh w 28 (cs6 s p)).alloc (Obj.cells #[.slice none 0 0, .slice none 0 0, .slice none 0 0, .int .i64 0, .bool false, .slice none 0 0] 37)).alloc (Obj.cells #[.slice none 0 0, .slice none 0 0, .slice none 0 0, .int .i64 0, .bool false, .slice none 0 0] 37)
  have K1 := (Has.fresh (w.alloc (Obj.cells (cs6 s p) 28)) 37 #[.slice none 0 0, .slice none 0 0, .slice none 0 0, .int .i64 0, .bool false, .slice none 0 0]).alloc (Obj.cells #[.slice none 0 0, .slice none 0 0, .slice none 0 0, .int .i64 0, .bool false, .slice none 0 0] 37)
  have K2 := Has.fresh ((w.alloc (Obj.cells (cs6 s p) 28)).alloc (Obj.cells #[.slice none 0 0, .slice none 0 0, .slice none 0 0, .int .i64 0, .bool false, .slice none 0 0] 37)) 37 #[.slice none 0 0, .slice none 0 0, .slice none 0 0, .int .i64 0, .bool false, .slice none 0 0]
  have g0 := gr_alloc (gr_alloc (World.grownBy_alloc w (Obj.cells (cs6 s p) 28) none) (Obj.cells #[.slice none 0 0, .slice none 0 0, .slice none 0 0, .int .i64 0, .bool false, .slice none 0 0] 37)) (Obj.cells #[.slice none 0 0, .slice none 0 0, .slice none 0 0, .int .i64 0, .bool false, .slice none 0 0] 37)
  obtain ⟨⟨c0, c1, c2⟩, c3, c4, c5⟩ := six K0
  go_enter Tryd.func25, Tryd.ntmps25
  go_wp2_with fail
  clear c0 c1 c2 c3 c4 c5
  generalize hw3 : ((w.alloc (Obj.cells (cs6 s p) 28)).alloc (Obj.cells #[.slice none 0 0, .slice none 0 0, .slice none 0 0, .int .i64 0, .bool false, .slice none 0 0] 37)).alloc (Obj.cells #[.slice none 0 0, .slice none 0 0, .slice none 0 0, .int .i64 0, .bool false, .slice none 0 0] 37) = w3 at *
  have hs3 : w3.heap.size = w.heap.size + 1 + 1 + 1 := by rw [← hw3]; simp
  replace K1 : Has w3 (w.heap.size + 1) 37 #[.slice none 0 0, .slice none 0 0, .slice none 0 0, .int .i64 0, .bool false, .slice none 0 0] := by simpa using K1
  replace K2 : Has w3 (w.heap.size + 1 + 1) 37 #[.slice none 0 0, .slice none 0 0, .slice none 0 0, .int .i64 0, .bool false, .slice none 0 0] := by simpa using K2
  clear hw3
  have ne0 : w.heap.size ≠ w.heap.size + 1 + 1 := by omega
  have ne1 : w.heap.size + 1 ≠ w.heap.size + 1 + 1 := by omega
  have le2 : w.heap.size ≤ w.heap.size + 1 + 1 := by omega
  have G3 := hs3
  refine (rd.toReadings _ _ _ _ (h.kept g0).sp hl1).mono ?_
  rintro e w4 ⟨a1, k1, rfl, r1, o1, b1⟩
  replace K0 := K0.grown r1 (by simp)
  replace K1 := K1.grown r1 (by simp)
  replace K2 := K2.grown r1 (by simp)
  replace g0 := gr_trans g0 r1
  have z4 := r1.size
  clear r1
  obtain ⟨⟨c0, c1, c2⟩, c3, c4, c5⟩ := six K0
  obtain ⟨⟨d0, d1, d2⟩, d3, d4, d5⟩ := six K2
  obtain ⟨⟨f0, f1, f2⟩, f3, f4, f5⟩ := free6 K2
  go_wp2_with fail
  replace K0 := K0.set_other ne0 0 (.slice a1 s.sp.length k1)
  replace K1 := K1.set_other ne1 0 (.slice a1 s.sp.length k1)
  replace K2 := K2.put 0 (.slice a1 s.sp.length k1) rfl
  replace g0 := gr_new g0 le2 0 (.slice a1 s.sp.length k1)
  replace o1 := o1.grown (gr_set (gr_refl w4 (some (w.heap.size + 1 + 1))) 0 (.slice a1 s.sp.length k1)) (fun x e => by have := b1 x e; intro e2; injection e2; omega)
  replace z4 : w3.heap.size ≤ (w4.setCell ⟨w.heap.size + 1 + 1, 0, none⟩ (.slice a1 s.sp.length k1)).heap.size := by simpa using z4
  clear c0 c1 c2 c3 c4 c5 d0 d1 d2 d3 d4 d5 f0 f1 f2 f3 f4 f5
  generalize w4.setCell ⟨w.heap.size + 1 + 1, 0, none⟩ (.slice a1 s.sp.length k1) = w5 at *
  refine (rd.toReadings _ _ _ _ (h.kept g0).he hl2).mono ?_
  rintro e w6 ⟨a2, k2, rfl, r1, o2, b2⟩
  replace K0 := K0.grown r1 (by simp)
  replace K1 := K1.grown r1 (by simp)
  replace K2 := K2.grown r1 (by simp)
  have d12 : ∀ x y : Addr, a1 = some x → a2 = some y → x.block ≠ y.block := fun x y ex ey => by have := o1.lt ex; have := b2 y ey; omega
  replace o1 := o1.kept r1
  replace g0 := gr_trans g0 r1
  have z6 := r1.size
  clear r1
  obtain ⟨⟨c0, c1, c2⟩, c3, c4, c5⟩ := six K0
  obtain ⟨⟨d0, d1, d2⟩, d3, d4, d5⟩ := six K2
  obtain ⟨⟨f0, f1, f2⟩, f3, f4, f5⟩ := free6 K2
  go_wp2_with fail
  replace K0 := K0.set_other ne0 1 (.slice a2 s.he.length k2)
  replace K1 := K1.set_other ne1 1 (.slice a2 s.he.length k2)
  replace K2 := K2.put 1 (.slice a2 s.he.length k2) rfl
  replace g0 := gr_new g0 le2 1 (.slice a2 s.he.length k2)
  have S1 := gr_set (gr_refl w6 (some (w.heap.size + 1 + 1))) 1 (.slice a2 s.he.length k2)
  replace o1 := o1.grown S1 (fun x e => by have := b1 x e; intro e2; injection e2; omega)
  replace o2 := o2.grown S1 (fun x e => by have := b2 x e; intro e2; injection e2; omega)
  replace z6 : w5.heap.size ≤ (w6.setCell ⟨w.heap.size + 1 + 1, 1, none⟩ (.slice a2 s.he.length k2)).heap.size := by simpa using z6
  clear c0 c1 c2 c3 c4 c5 d0 d1 d2 d3 d4 d5 f0 f1 f2 f3 f4 f5 S1
  generalize w6.setCell ⟨w.heap.size + 1 + 1, 1, none⟩ (.slice a2 s.he.length k2) = w7 at *
  refine (rd.toReadings _ _ _ _ (h.kept g0).fa hl3).mono ?_
  rintro e w8 ⟨a3, k3, rfl, r1, o3, b3⟩
  replace K0 := K0.grown r1 (by simp)
  replace K1 := K1.grown r1 (by simp)
  replace K2 := K2.grown r1 (by simp)
  have d13 : ∀ x y : Addr, a1 = some x → a3 = some y → x.block ≠ y.block := fun x y ex ey => by have := o1.lt ex; have := b3 y ey; omega
  have d23 : ∀ x y : Addr, a2 = some x → a3 = some y → x.block ≠ y.block := fun x y ex ey => by have := o2.lt ex; have := b3 y ey; omega
  replace o1 := o1.kept r1
  replace o2 := o2.kept r1
  replace g0 := gr_trans g0 r1
  have z8 := r1.size
  clear r1
  obtain ⟨⟨c0, c1, c2⟩, c3, c4, c5⟩ := six K0
  obtain ⟨⟨d0, d1, d2⟩, d3, d4, d5⟩ := six K2
  obtain ⟨⟨f0, f1, f2⟩, f3, f4, f5⟩ := free6 K2
  go_wp2_with fail
  replace K1 := ((K1.set_other ne1 2 (.slice a3 s.fa.length k3)).set_other ne1 3 (.int .i64 s.wn)).set_other ne1 4 (.bool s.ar)
  replace K2 := ((K2.put 2 (.slice a3 s.fa.length k3) rfl).put 3 (.int .i64 s.wn) rfl).put 4 (.bool s.ar) rfl
  replace g0 := gr_new (gr_new (gr_new g0 le2 2 (.slice a3 s.fa.length k3)) le2 3 (.int .i64 s.wn)) le2 4 (.bool s.ar)
  have S1 := gr_set (gr_set (gr_set (gr_refl w8 (some (w.heap.size + 1 + 1))) 2 (.slice a3 s.fa.length k3)) 3 (.int .i64 s.wn)) 4 (.bool s.ar)
  replace o1 := o1.grown S1 (fun x e => by have := b1 x e; intro e2; injection e2; omega)
  replace o2 := o2.grown S1 (fun x e => by have := b2 x e; intro e2; injection e2; omega)
  replace o3 := o3.grown S1 (fun x e => by have := b3 x e; intro e2; injection e2; omega)
  replace z8 : w7.heap.size ≤ (((w8.setCell ⟨w.heap.size + 1 + 1, 2, none⟩ (.slice a3 s.fa.length k3)).setCell ⟨w.heap.size + 1 + 1, 3, none⟩ (.int .i64 s.wn)).setCell ⟨w.heap.size + 1 + 1, 4, none⟩ (.bool s.ar)).heap.size := by simpa using z8
  clear c0 c1 c2 c3 c4 c5 d0 d1 d2 d3 d4 d5 f0 f1 f2 f3 f4 f5 S1
  generalize ((w8.setCell ⟨w.heap.size + 1 + 1, 2, none⟩ (.slice a3 s.fa.length k3)).setCell ⟨w.heap.size + 1 + 1, 3, none⟩ (.int .i64 s.wn)).setCell ⟨w.heap.size + 1 + 1, 4, none⟩ (.bool s.ar) = w9 at *
  refine (il.toInts _ _ _ _ (h.kept g0).sq hl4).mono ?_
  rintro e w10 ⟨a4, k4, rfl, r1, o4, b4⟩
  replace K1 := K1.grown r1 (by simp)
  replace K2 := K2.grown r1 (by simp)
  replace o1 := o1.kept r1
  replace o2 := o2.kept r1
  replace o3 := o3.kept r1
  replace g0 := gr_trans g0 r1
  clear r1 K0
  obtain ⟨⟨c0, c1, c2⟩, c3, c4, c5⟩ := six K1
  obtain ⟨⟨e0, e1, e2⟩, e3, e4, e5⟩ := free6 K1
  obtain ⟨⟨d0, d1, d2⟩, d3, d4, d5⟩ := six K2
  obtain ⟨⟨f0, f1, f2⟩, f3, f4, f5⟩ := free6 K2
  go_wp2_with fail
  have S1 := gr_set (gr_refl w10 (some (w.heap.size + 1 + 1))) 5 (.slice a4 s.sq.length k4)
  replace o1 := o1.grown S1 (fun x e => by have := b1 x e; intro e2; injection e2; omega)
  replace o2 := o2.grown S1 (fun x e => by have := b2 x e; intro e2; injection e2; omega)
  replace o3 := o3.grown S1 (fun x e => by have := b3 x e; intro e2; injection e2; omega)
  replace o4 := o4.grown S1 (fun x e => by have := b4 x e; intro e2; injection e2; omega)
  have O : OwnS w3.heap.size (w10.setCell ⟨w.heap.size + 1 + 1, 5, none⟩ (.slice a4 s.sq.length k4)) s ⟨a1, k1, a2, k2, a3, k3, a4, k4⟩ :=
    ⟨o1, o2, o3, o4, b1, (fun x e => by have := b2 x e; omega), (fun x e => by have := b3 x e; omega), (fun x e => by have := b4 x e; omega), d12, d13, d23⟩
  have Q := O.set6 (w.heap.size + 1) (by omega) (.slice a1 s.sp.length k1) (.slice a2 s.he.length k2) (.slice a3 s.fa.length k3) (.int .i64 s.wn) (.bool s.ar) (.slice a4 s.sq.length k4)
  have G := gr6 (gr_new g0 le2 5 (.slice a4 s.sq.length k4)) (show w.heap.size ≤ w.heap.size + 1 by omega) (.slice a1 s.sp.length k1) (.slice a2 s.he.length k2) (.slice a3 s.fa.length k3) (.int .i64 s.wn) (.bool s.ar) (.slice a4 s.sq.length k4)
  obtain ⟨⟨u0, u1, u2⟩, u3, u4, u5⟩ := six (set6 (K1.set_other ne1 5 (.slice a4 s.sq.length k4)) (.slice a1 s.sp.length k1) (.slice a2 s.he.length k2) (.slice a3 s.fa.length k3) (.int .i64 s.wn) (.bool s.ar) (.slice a4 s.sq.length k4))
  exact bodyPost_ret (v := sv s ⟨a1, k1, a2, k2, a3, k3, a4, k4⟩) (by simp [results, Tryd.results25, go_sem, u0, u1, u2, u3, u4, u5]) rfl ⟨_, rfl, G, Q.below (by omega)⟩

set_option maxHeartbeats 2000000 in
theorem eqSenses (s : S) (p q : P) (w : World) (h : Arg w s p) (k : Arg w s q) (hb : Bd s 1048576) : Calls Tryd.prog 32 #[sv s p, sv s q] w (Ret (.bool true) w) := by
  have hl1 := hb.sp
  have hl2 := hb.he
  have hl3 := hb.fa
  have hl4 := hb.sq
  have K0 := (Has.fresh w 37 (cs6 s p)).alloc (Obj.cells (cs6 s q) 37)
  have K1 := Has.fresh (w.alloc (Obj.cells (cs6 s p) 37)) 37 (cs6 s q)
  have g0 := gr_alloc (World.grownBy_alloc w (Obj.cells (cs6 s p) 37) none) (Obj.cells (cs6 s q) 37)
  simp only [World.size_alloc] at K1
  obtain ⟨⟨c0, c1, c2⟩, c3, c4, c5⟩ := six K0
  obtain ⟨⟨d0, d1, d2⟩, d3, d4, d5⟩ := six K1
  go_enter Tryd.func32, Tryd.ntmps32
  go_wp2_with fail
  refine (rd.eqReadings _ _ _ _ _ _ (h.kept g0).sp (k.kept g0).sp hl1).mono ?_
  rintro e w1 ⟨rfl, r1⟩
  replace K0 := K0.grown r1 (by simp)
  replace K1 := K1.grown r1 (by simp)
  replace g0 := gr_trans g0 r1
  clear c0 c1 c2 c3 c4 c5 d0 d1 d2 d3 d4 d5 r1
  obtain ⟨⟨c0, c1, c2⟩, c3, c4, c5⟩ := six K0
  obtain ⟨⟨d0, d1, d2⟩, d3, d4, d5⟩ := six K1
  go_wp2_with fail
  refine (rd.eqReadings _ _ _ _ _ _ (h.kept g0).he (k.kept g0).he hl2).mono ?_
  rintro e w2 ⟨rfl, r1⟩
  replace K0 := K0.grown r1 (by simp)
  replace K1 := K1.grown r1 (by simp)
  replace g0 := gr_trans g0 r1
  clear c0 c1 c2 c3 c4 c5 d0 d1 d2 d3 d4 d5 r1
  obtain ⟨⟨c0, c1, c2⟩, c3, c4, c5⟩ := six K0
  obtain ⟨⟨d0, d1, d2⟩, d3, d4, d5⟩ := six K1
  go_wp2_with fail
  refine (rd.eqReadings _ _ _ _ _ _ (h.kept g0).fa (k.kept g0).fa hl3).mono ?_
  rintro e w3 ⟨rfl, r1⟩
  replace K0 := K0.grown r1 (by simp)
  replace K1 := K1.grown r1 (by simp)
  replace g0 := gr_trans g0 r1
  clear c0 c1 c2 c3 c4 c5 d0 d1 d2 d3 d4 d5 r1
  obtain ⟨⟨c0, c1, c2⟩, c3, c4, c5⟩ := six K0
  obtain ⟨⟨d0, d1, d2⟩, d3, d4, d5⟩ := six K1
  go_wp2_with fail
  refine (il.eqInts _ _ _ _ _ _ (h.kept g0).sq (k.kept g0).sq hl4).mono ?_
  rintro e w4 ⟨rfl, r1⟩
  go_wp2_with fail
  go_ret
  exact ⟨rfl, gr_trans g0 r1⟩
end Go.Proofs.YtnkimjmpjnhlnaaDoor.se
