/- Senses and a list of frames drawn; senses and two numbers drawn. -/
import Derived.Test.YtdikhdfpcipdbaaGreatDoorG44
import Derived.Test.YtdikhdfpcipdbaaGreatDoorG27
/- Senses and a list of frames drawn; senses and two numbers drawn. -/
namespace Go.Proofs.YtdikhdfpcipdbaaGreatDoor.se
open Go.ChangeShapes Go.WideShapes Go.ChangeAt Go.RowKit
open Go.Proofs.YtdikhdfpcipdbaaGreatDoor.nums Go.Proofs.YtdikhdfpcipdbaaGreatDoor.mem Go.Proofs.YtdikhdfpcipdbaaGreatDoor.fix
open Go.Proofs.YtdikhdfpcipdbaaGreatDoor.tab (Ret quiet_w wpList_make_has add_off)
open Go.Proofs.YtdikhdfpcipdbaaGreatDoor.cur (Cur Bytes below once from_ new Cur.alloc Cur.kept Cur.lt)
open Go.Proofs.YtdikhdfpcipdbaaGreatDoor.rd (R okR ageR zR rx ra ro OwnR rowR)
open Go.Proofs.YtdikhdfpcipdbaaGreatDoor.il (nth Ints Own)
open Go.Proofs.YtdikhdfpcipdbaaGreatDoor.stm (Fr Pl fv Frs Lst Lst.made infoFrame blkV rowF)
open Go.Proofs.YtdikhdfpcipdbaaGreatDoor.frm (gr_own_row three)
set_option linter.unusedVariables false

theorem OwnS.past {b B : Nat} {w w' : World} {s : S} {p : P} {row : Option Nat} (h : OwnS b w s p) (hlow : ∀ c, blkS s p c → c < B) (hg : w.grownBy w' row) (hr : ∀ r, row = some r → B ≤ r) : OwnS b w' s p :=
  h.chg (chg_of_gr (S := fun i => some i = row) hg (fun i e => e)) (fun c hc e => by have := hlow c hc; have := hr c e.symm; omega)
theorem DrawnS.parts {b : Option Addr} {n c q : Nat} {w w' : World} {e : Ending} (h : DrawnS b n c w q e w') : ∃ (s : S) (a1 : Option Addr) (j1 : Nat) (a2 : Option Addr) (j2 : Nat) (a3 : Option Addr) (j3 gs os j4 : Nat),
    e = .returned (.agg #[.slice a1 s.sp.length j1, .slice a2 s.he.length j2, .slice a3 s.fa.length j3, .int .i64 s.wn, .bool s.ar, .slice (some ⟨gs, os, none⟩) s.sq.length j4]) ∧ w.grownBy w' (some q) ∧ OwnS w.heap.size w' s ⟨a1, j1, a2, j2, a3, j3, some ⟨gs, os, none⟩, j4⟩ ∧ Cur b n c w' q ∧ s.sp.length = 3 ∧ s.he.length = 2 ∧ s.fa.length ≤ 6 ∧ s.sq.length = 4 := by
  obtain ⟨s, ⟨a1, j1, a2, j2, a3, j3, a4, j4⟩, rfl, h1, O, h3, l1, l2, l3, l4⟩ := h
  obtain ⟨gs, os, ea, _⟩ := O.seq (k := 0) (by omega) 0
  dsimp only at ea
  subst ea
  exact ⟨s, a1, j1, a2, j2, a3, j3, gs, os, j4, rfl, h1, O, h3, l1, l2, l3, l4⟩
theorem gr6row (w : World) (g : Nat) (u0 u1 u2 u3 u4 u5 : Value) :
    w.grownBy ((((((w.setCell ⟨g, 0, none⟩ u0).setCell ⟨g, 1, none⟩ u1).setCell ⟨g, 2, none⟩ u2).setCell ⟨g, 3, none⟩ u3).setCell ⟨g, 4, none⟩ u4).setCell ⟨g, 5, none⟩ u5) (some g) :=
  gr_set (gr_set (gr_set (gr_set (gr_set (gr_set (gr_refl _ _) _ _) _ _) _ _) _ _) _ _) _ _
/-- Senses and a list of frames are drawn. -/
def DrawnFed (w : World) (e : Ending) (w' : World) : Prop :=
  ∃ s p a cap fs ps, e = .returned (.tuple #[sv s p, .slice a fs.length cap]) ∧ w.grownBy w' none ∧ Arg w' s p ∧ Bd s 100 ∧ Frs w' a fs ps ∧ fs.length ≤ 4 ∧ ∀ k, k < fs.length → (fv fs k).length ≤ 6
theorem seq_cell {w : World} {b : Nat} {s : S} {p : P} {gs os : Nat} (h : OwnS b w s p) (ea : p.a4 = some ⟨gs, os, none⟩) {k : Nat} (hk : k < s.sq.length) : w.cell? ⟨gs, os + k, none⟩ = some (.int .i64 (nth s.sq k)) := by
  obtain ⟨g, o, e, _, _, c, _⟩ := h.seq hk 0
  rw [ea] at e
  cases e
  exact c

set_option maxRecDepth 100000 in
set_option maxHeartbeats 4000000 in
theorem drawFed (b : Option Addr) (n c : Nat) (w : World) (hn : n ≤ 4096) (hb : Bytes w w.heap.size b n) : Calls Tryz.prog 6 #[.slice b n c] w (DrawnFed w) := by
  obtain ⟨i0, hi, hz0, hz1, hz2⟩ := info_parts infoFrame
  have R := Has.fresh w 27 z6
  have G := World.grownBy_alloc w (Obj.cells z6 27) none
  have hb1 := cur.bytes_grown hb G
  go_enter Tryz.func6, Tryz.ntmps6
  go_wp2_with fail
  have hs0 : (w.alloc (Obj.cells z6 27)).heap.size = w.heap.size + 1 := by simp
  generalize w.alloc (Obj.cells z6 27) = v0 at *
  refine (new b n c _ hn hb1).mono ?_
  rintro e v1 ⟨q, rfl, hq0, g1, h1⟩
  have hq : w.heap.size ≤ q := by omega
  have hX : w.heap.size < q := by omega
  have hq1 := h1.lt
  replace R := R.grown g1 (by simp)
  replace G := gr_trans G g1
  clear hb hb1 g1
  go_wp2_with fail
  refine (drawSenses b n c q _ hn h1).mono ?_
  rintro e v2 hD
  obtain ⟨s, a1, j1, a2, j2, a3, j3, gs, os, j4, rfl, g2, O, h2, l1, l2, l3, l4⟩ := hD.parts
  have HL := Lib.hid (And.intro l1 (And.intro l2 (And.intro l3 l4)))
  clear l1 l2 l3 l4
  have hY : q < v2.heap.size := h2.lt
  replace R := (R.grown g2 (fun e => by injection e with e; omega)).alloc (Obj.cells #[.slice a1 s.sp.length j1, .slice a2 s.he.length j2, .slice a3 s.fa.length j3, .int .i64 s.wn, .bool s.ar, .slice (some ⟨gs, os, none⟩) s.sq.length j4] 27)
  replace G := gr_alloc (gr_past G g2 hq) (Obj.cells #[.slice a1 s.sp.length j1, .slice a2 s.he.length j2, .slice a3 s.fa.length j3, .int .i64 s.wn, .bool s.ar, .slice (some ⟨gs, os, none⟩) s.sq.length j4] 27)
  have K : Has (v2.alloc (Obj.cells #[.slice a1 s.sp.length j1, .slice a2 s.he.length j2, .slice a3 s.fa.length j3, .int .i64 s.wn, .bool s.ar, .slice (some ⟨gs, os, none⟩) s.sq.length j4] 27)) v2.heap.size 27 #[.slice a1 s.sp.length j1, .slice a2 s.he.length j2, .slice a3 s.fa.length j3, .int .i64 s.wn, .bool s.ar, .slice (some ⟨gs, os, none⟩) s.sq.length j4] := Has.fresh _ _ _
  replace O := O.kept (World.grownBy_alloc v2 (Obj.cells #[.slice a1 s.sp.length j1, .slice a2 s.he.length j2, .slice a3 s.fa.length j3, .int .i64 s.wn, .bool s.ar, .slice (some ⟨gs, os, none⟩) s.sq.length j4] 27) none)
  replace h2 := h2.alloc (Obj.cells #[.slice a1 s.sp.length j1, .slice a2 s.he.length j2, .slice a3 s.fa.length j3, .int .i64 s.wn, .bool s.ar, .slice (some ⟨gs, os, none⟩) s.sq.length j4] 27)
  have hYs : v2.heap.size < (v2.alloc (Obj.cells #[.slice a1 s.sp.length j1, .slice a2 s.he.length j2, .slice a3 s.fa.length j3, .int .i64 s.wn, .bool s.ar, .slice (some ⟨gs, os, none⟩) s.sq.length j4] 27)).heap.size := by simp
  clear hD g2 h1
  go_upto_region 3 with fail
  generalize v2.alloc (Obj.cells #[.slice a1 s.sp.length j1, .slice a2 s.he.length j2, .slice a3 s.fa.length j3, .int .i64 s.wn, .bool s.ar, .slice (some ⟨gs, os, none⟩) s.sq.length j4] 27) = v3 at *
  generalize v2.heap.size = Y at *
  generalize v1.heap.size = z at *
  have hlow : ∀ c, blkS s ⟨a1, j1, a2, j2, a3, j3, some ⟨gs, os, none⟩, j4⟩ c → c < v3.heap.size := fun c hc => (O.lt hc).2
  have L0 := Lst.made v3.heap.size v3 (Nat.le_refl _)
  have ga := World.grownBy_alloc v3 (Obj.cells #[] 50) none
  have h3a := h2.alloc (Obj.cells #[] 50)
  have hBsz : v3.heap.size ≤ (v3.alloc (Obj.cells #[] 50)).heap.size := ga.size
  replace R := R.alloc (Obj.cells #[] 50)
  replace K := K.alloc (Obj.cells #[] 50)
  replace O := O.kept ga
  replace G := gr_trans G ga
  clear h2
  go_wp2_with fail
  refine (below b n c q _ 5 hn h3a (by omega)).mono ?_
  rintro e v4 ⟨x, ⟨x0, x1⟩, rfl, g4, h4⟩
  have hqB : q < v3.heap.size := by omega
  replace L0 := L0.grown g4 (fun r e => by injection e with e; omega)
  replace R := R.grown g4 (fun e => by injection e with e; omega)
  replace K := K.grown g4 (fun e => by injection e with e; omega)
  replace O := O.low g4 hq1
  replace G := gr_past G g4 hq
  have hB : v3.heap.size ≤ v4.heap.size := Nat.le_trans hBsz g4.size
  obtain ⟨M, rfl⟩ := Int.eq_ofNat_of_zero_le x0
  generalize v3.heap.size = B at *
  clear ga h3a g4 x0 hBsz
  go_wp2_with fail
  go_loopw [6, 7] (fun v i wr => ∃ (m : Nat) (fs : List Fr) (ps : List Pl), i = .int .i64 m ∧ fs.length + m ≤ 4 ∧ Lst B wr v fs ps ∧ Hid (∀ k, k < fs.length → (fv fs k).length ≤ 6) ∧ w.grownBy wr none ∧ Cur b n c wr q ∧ B ≤ wr.heap.size ∧ Has wr Y 27 #[.slice a1 s.sp.length j1, .slice a2 s.he.length j2, .slice a3 s.fa.length j3, .int .i64 s.wn, .bool s.ar, .slice (some ⟨gs, os, none⟩) s.sq.length j4] ∧ Has wr w.heap.size 27 z6 ∧ OwnS z wr s ⟨a1, j1, a2, j2, a3, j3, some ⟨gs, os, none⟩, j4⟩) (fun _ i _ => (intOf i).toNat)
  case atStart => exact ⟨M, [], [], rfl, by simp; omega, L0, Lib.hid (fun k hk => by simp at hk), G, h4, hB, K, R, O⟩
  case round =>
    clear L0 G h4 hB K R O
    obtain ⟨m, fs, ps, rfl, hm5, L, hs, g0, h2, hB, K, R, O⟩ := hrel
    by_cases hm : 0 < m
    · have hm' : decide (0 < (m : Int)) = true := by simp; omega
      obtain ⟨low1, low2⟩ := L.lt
      go_wp2_with fail
      refine (frm.drawAny b n c q _ hn h2).mono ?_
      rintro e w3 ⟨k, sq, vs, a, cap, rfl, hI, h6, hge, g3, h3⟩
      have hoff : ∀ d, blkV a vs d → B ≤ d ∧ Value.ownBlock _ ≠ some d := fun d hd => by
        obtain ⟨_, y, ey, rfl⟩ := hd
        have := hge y ey
        exact ⟨by omega, fun e => by have := (L.row.lt _ e).2; omega⟩
      have hoffF : ∀ x : Addr, a = some x → 0 < vs.length → x.block < w3.heap.size := fun x e hl => by
        obtain ⟨y, ey, hy, _⟩ := hI 0 hl
        rw [e] at ey; cases ey; exact hy
      have hWF := g3.size
      replace L := L.grown g3 (fun r e => by injection e with e; omega)
      replace g0 := gr_past g0 g3 hq
      replace K := K.grown g3 (fun e => by injection e with e; omega)
      replace R := R.grown g3 (fun e => by injection e with e; omega)
      replace O := O.low g3 hq1
      have hB3 := Nat.le_trans hB g3.size
      have ga := World.grownBy_alloc w3 (Obj.cells #[.int .i64 k, .int .i64 sq, .slice a vs.length cap] 50) none
      have HX := Has.fresh w3 50 #[.int .i64 k, .int .i64 sq, .slice a vs.length cap]
      replace L := L.kept ga
      replace g0 := gr_trans g0 ga
      replace hI := hI.kept ga
      replace h3 := h3.alloc (Obj.cells #[.int .i64 k, .int .i64 sq, .slice a vs.length cap] 50)
      replace K := K.alloc (Obj.cells #[.int .i64 k, .int .i64 sq, .slice a vs.length cap] 50)
      replace R := R.alloc (Obj.cells #[.int .i64 k, .int .i64 sq, .slice a vs.length cap] 50)
      replace O := O.kept ga
      have hs4 := ga.size
      clear g3 hge h2
      go_upto_region 8 with fail
      generalize w3.alloc (Obj.cells #[.int .i64 k, .int .i64 sq, .slice a vs.length cap] 50) = w4 at *
      have hF : B ≤ w3.heap.size := hB3
      have hB4 : B ≤ w4.heap.size := Nat.le_trans hB3 hs4
      generalize w3.heap.size = F at *
      clear ga
      have hl4 : ((s.sq.length : Int) == 4) = true := by have := HL.out.2.2.2; simp; omega
      have hm0 : (1 : Int) ≤ m := by omega
      obtain ⟨⟨c0, c1, c2⟩, c3, c4, c5⟩ := six K
      obtain ⟨b0, b1, b2, f0, f1, f2⟩ := three HX
      cases hin : inb k 1 4
      · have h := h3
        go_upto_region 10 with (go_at_call 24; refine (fix.specIn k 1 4 _).mono ?_; rw [hin]; rintro e w' ⟨rfl, rfl⟩)
        clear b0 b1 b2 f0 f1 f2
        obtain ⟨b0, b1, b2, f0, f1, f2⟩ := three HX
        go_wp2_with (at_builtin; refine wpList_append_lies _ rfl _ _ _ rfl B 50 i0 _ 3 40 Tryz.underlying28 hi hz0 hz1 hz2 rfl (by omega) _ fs.length (rowF fs ps) rfl (L.row.alloc _) ⟨w4.heap.size, 0, none⟩ 1 1 [.int .i64 k, .int .i64 sq, .slice a vs.length cap] rfl rfl (World.news_of_block (cs := #[.int .i64 k, .int .i64 sq, .slice a vs.length cap]) (t := 50) (fr := (0, 0)) (heap_alloc_new _ _)) (by simp [Value.oneCell']) (by omega) (by unfold maxLen; omega) (by omega) (by simp; omega) _ rfl ?_; intro gg cap1 w9 hown hgrow hat hlt9)
        have L9 := Lst.snoc (f := (k, sq, vs)) (p := (a, cap)) L hI hoff hown hgrow (hat.imp id (fun e => e.trans (by simp)))
        have hown1 : ∀ r, Value.ownBlock _ = some r → B ≤ r := fun r e => (L.row.lt r e).1
        have g9 := gr_own_row g0 L.row (by omega) hgrow
        have h9 : Cur b n c w9 q := frm.cur_own (h.alloc _) (L.row.alloc _) hqB hgrow
        have K9 := (K.alloc _).grown hgrow (fun e => by have := hown1 _ e.symm; omega)
        have R9 := (R.alloc _).grown hgrow (fun e => by have := hown1 _ e.symm; omega)
        have O9 := (O.kept (World.grownBy_alloc _ _ none)).past hlow hgrow hown1
        have hs9 := hgrow.size
        clear hgrow hat hown
        go_roundw
        case rel => exact ⟨m - 1, fs ++ [(k, sq, vs)], ps ++ [(a, cap)], by congr 1; omega, by simp; omega, L9, Lib.hid (stm.short_snoc hs.out h6), g9, h9, by simp at hs9; omega, K9, R9, O9⟩
        case measure => simp [intOf]; omega
      · go_wp2_with (go_at_call 24; refine (fix.specIn k 1 4 _).mono ?_; rw [hin]; rintro e w' ⟨rfl, rfl⟩)
        refine (once b n c q _ 2 hn h3 (by omega)).mono ?_
        rintro e w5 ⟨v1, rfl, g5, h⟩
        replace L := L.grown g5 (fun r e => by injection e with e; omega)
        replace g0 := gr_past g0 g5 hq
        replace K := K.grown g5 (fun e => by injection e with e; omega)
        replace R := R.grown g5 (fun e => by injection e with e; omega)
        replace O := O.low g5 hq1
        replace HX := HX.grown g5 (fun e => by injection e with e; omega)
        replace hI := stm.ints_past hI g5 (fun d hd => by have := (hoff d hd).1; omega)
        have hs5 := g5.size
        have hB5 : B ≤ w5.heap.size := by omega
        clear g5 h3 b0 b1 b2 f0 f1 f2 c0 c1 c2 c3 c4 c5
        obtain ⟨⟨c0, c1, c2⟩, c3, c4, c5⟩ := six K
        cases v1
        · go_upto_region 10 with fail
          obtain ⟨b0, b1, b2, f0, f1, f2⟩ := three HX
          go_wp2_with (at_builtin; refine wpList_append_lies _ rfl _ _ _ rfl B 50 i0 _ 3 40 Tryz.underlying28 hi hz0 hz1 hz2 rfl (by omega) _ fs.length (rowF fs ps) rfl (L.row.alloc _) ⟨w5.heap.size, 0, none⟩ 1 1 [.int .i64 k, .int .i64 sq, .slice a vs.length cap] rfl rfl (World.news_of_block (cs := #[.int .i64 k, .int .i64 sq, .slice a vs.length cap]) (t := 50) (fr := (0, 0)) (heap_alloc_new _ _)) (by simp [Value.oneCell']) (by omega) (by unfold maxLen; omega) (by omega) (by simp; omega) _ rfl ?_; intro gg cap1 w9 hown hgrow hat hlt9)
          have L9 := Lst.snoc (f := (k, sq, vs)) (p := (a, cap)) L hI hoff hown hgrow (hat.imp id (fun e => e.trans (by simp)))
          have hown1 : ∀ r, Value.ownBlock _ = some r → B ≤ r := fun r e => (L.row.lt r e).1
          have g9 := gr_own_row g0 L.row (by omega) hgrow
          have h9 : Cur b n c w9 q := frm.cur_own (h.alloc _) (L.row.alloc _) hqB hgrow
          have K9 := (K.alloc _).grown hgrow (fun e => by have := hown1 _ e.symm; omega)
          have R9 := (R.alloc _).grown hgrow (fun e => by have := hown1 _ e.symm; omega)
          have O9 := (O.kept (World.grownBy_alloc _ _ none)).past hlow hgrow hown1
          have hs9 := hgrow.size
          clear hgrow hat hown
          go_roundw
          case rel => exact ⟨m - 1, fs ++ [(k, sq, vs)], ps ++ [(a, cap)], by congr 1; omega, by simp; omega, L9, Lib.hid (stm.short_snoc hs.out h6), g9, h9, by simp at hs9; omega, K9, R9, O9⟩
          case measure => simp [intOf]; omega
        · obtain ⟨k1, k4⟩ := inb_iff.1 hin
          obtain ⟨j, hj, rfl⟩ : ∃ j : Nat, j < 4 ∧ k = (j : Int) + 1 := ⟨(k - 1).toNat, by omega, by omega⟩
          have cs := seq_cell O rfl (k := j) (by have := HL.out.2.2.2; omega)
          have W1 : IntKind.i64.wrap ((j : Int) + 1 - 1) = (j : Int) := by rw [Int.add_sub_cancel]; exact IntWalk.i64_in _ (by omega)
          have hjl : (j : Int) < (s.sq.length : Int) := by have := HL.out.2.2.2; omega
          generalize nth s.sq j = Q at *
          obtain ⟨b0, b1, b2, f0, f1, f2⟩ := three HX
          go_upto_region 10 with (go_at_call 26; refine (fix.specMax _ _ _).mono ?_; rintro e w' ⟨rfl, rfl⟩)
          generalize (max 0 (wrap64 (Q + 1)) % 100) = T at *
          have C6 := gr_set (gr_refl w5 (some F)) 1 (.int .i64 T)
          have CF := stm.chg_of_gr (S := fun i => i = F) C6 (fun b e => by injection e)
          have L6 := L.chg CF (fun b e k => by have := low1 b e; omega) (fun k' b hk hb e => by have := low2 k' b hk hb; omega)
          have I6 := CF.ints hI (fun x e hl k => by have := hoffF x e hl; omega)
          have K6 := K.set_other (show Y ≠ F by omega) 1 (.int .i64 T)
          have R6 := R.set_other (show w.heap.size ≠ F by omega) 1 (.int .i64 T)
          have O6 := O.past hlow C6 (fun r e => by injection e with e; omega)
          have G6 := gr_new g0 (show w.heap.size ≤ F by omega) 1 (.int .i64 T)
          have h6' := cur_set h (show q < F by omega) 1 (.int .i64 T)
          have X6 : Has (w5.setCell ⟨F, 1, none⟩ (.int .i64 T)) F 50 #[.int .i64 ((j : Int) + 1), .int .i64 T, .slice a vs.length cap] := HX.put 1 (.int .i64 T) rfl
          have B6 : B ≤ (w5.setCell ⟨F, 1, none⟩ (.int .i64 T)).heap.size := by simpa using hB5
          clear L hI K R O g0 h HX C6 CF b0 b1 b2 f0 f1 f2 c0 c1 c2 c3 c4 c5 cs W1 hjl hB5 hs5
          generalize w5.setCell ⟨F, 1, none⟩ (.int .i64 T) = w6 at *
          rename Has w6 F _ _ => HX
          rename Lst B w6 _ fs ps => L
          rename frm.Ints w6 a vs => hI
          rename w.grownBy w6 none => g0
          rename Cur b n c w6 q => h
          rename OwnS z w6 s _ => O
          rename Has w6 Y _ _ => K
          rename Has w6 w.heap.size _ _ => R
          obtain ⟨b0, b1, b2, f0, f1, f2⟩ := three HX
          go_wp2_with (at_builtin; refine wpList_append_lies _ rfl _ _ _ rfl B 50 i0 _ 3 40 Tryz.underlying28 hi hz0 hz1 hz2 rfl (by omega) _ fs.length (rowF fs ps) rfl (L.row.alloc _) ⟨w6.heap.size, 0, none⟩ 1 1 [.int .i64 ((j : Int) + 1), .int .i64 T, .slice a vs.length cap] rfl rfl (World.news_of_block (cs := #[.int .i64 ((j : Int) + 1), .int .i64 T, .slice a vs.length cap]) (t := 50) (fr := (0, 0)) (heap_alloc_new _ _)) (by simp [Value.oneCell']) (by omega) (by unfold maxLen; omega) (by omega) (by simp; omega) _ rfl ?_; intro gg cap1 w9 hown hgrow hat hlt9)
          have L9 := Lst.snoc (f := (((j : Int) + 1), T, vs)) (p := (a, cap)) L hI hoff hown hgrow (hat.imp id (fun e => e.trans (by simp)))
          have hown1 : ∀ r, Value.ownBlock _ = some r → B ≤ r := fun r e => (L.row.lt r e).1
          have g9 := gr_own_row g0 L.row (by omega) hgrow
          have h9 : Cur b n c w9 q := frm.cur_own (h.alloc _) (L.row.alloc _) hqB hgrow
          have K9 := (K.alloc _).grown hgrow (fun e => by have := hown1 _ e.symm; omega)
          have R9 := (R.alloc _).grown hgrow (fun e => by have := hown1 _ e.symm; omega)
          have O9 := (O.kept (World.grownBy_alloc _ _ none)).past hlow hgrow hown1
          have hs9 := hgrow.size
          clear hgrow hat hown
          go_roundw
          case rel => exact ⟨m - 1, fs ++ [(((j : Int) + 1), T, vs)], ps ++ [(a, cap)], by congr 1; omega, by simp; omega, L9, Lib.hid (stm.short_snoc hs.out h6), g9, h9, by simp at hs9; omega, K9, R9, O9⟩
          case measure => simp [intOf]; omega
    · obtain rfl : m = 0 := by omega
      have hm' : decide (0 < ((0 : Nat) : Int)) = false := by simp
      obtain ⟨a6, c6, e6⟩ := L.form
      subst e6
      obtain ⟨⟨c0, c1, c2⟩, c3, c4, c5⟩ := six K
      obtain ⟨⟨r0, r1, r2⟩, r3, r4, r5⟩ := six R
      obtain ⟨⟨e0, e1, e2⟩, e3, e4, e5⟩ := free6 R
      go_wp2_with fail
      obtain ⟨⟨t0, t1, t2⟩, t3, t4, t5⟩ := six (set6 R (.slice a1 s.sp.length j1) (.slice a2 s.he.length j2) (.slice a3 s.fa.length j3) (.int .i64 s.wn) (.bool s.ar) (.slice (some ⟨gs, os, none⟩) s.sq.length j4))
      have GG := gr6 g0 (Nat.le_refl w.heap.size) (.slice a1 s.sp.length j1) (.slice a2 s.he.length j2) (.slice a3 s.fa.length j3) (.int .i64 s.wn) (.bool s.ar) (.slice (some ⟨gs, os, none⟩) s.sq.length j4)
      have OO := O.set6 w.heap.size (by omega) (.slice a1 s.sp.length j1) (.slice a2 s.he.length j2) (.slice a3 s.fa.length j3) (.int .i64 s.wn) (.bool s.ar) (.slice (some ⟨gs, os, none⟩) s.sq.length j4)
      have LL := L.grown (gr6row wr w.heap.size (.slice a1 s.sp.length j1) (.slice a2 s.he.length j2) (.slice a3 s.fa.length j3) (.int .i64 s.wn) (.bool s.ar) (.slice (some ⟨gs, os, none⟩) s.sq.length j4)) (fun r e => by injection e with e; omega)
      exact bodyPost_ret (v := .tuple #[.agg #[.slice a1 s.sp.length j1, .slice a2 s.he.length j2, .slice a3 s.fa.length j3, .int .i64 s.wn, .bool s.ar, .slice (some ⟨gs, os, none⟩) s.sq.length j4], .slice a6 fs.length c6]) (by simp [results, Tryz.results6, go_sem, t0, t1, t2, t3, t4, t5]) rfl
        ⟨s, ⟨a1, j1, a2, j2, a3, j3, some ⟨gs, os, none⟩, j4⟩, a6, c6, fs, ps, rfl, GG, OO.arg, ⟨by have := HL.out; omega, by have := HL.out; omega, by have := HL.out; omega, by have := HL.out; omega⟩, LL.frs, by omega, hs.out⟩
theorem past6s {w : World} {b g : Nat} {t : TypeId} {cs : Array Value} (hb : b ≠ g) (H : Has w b t cs) (u0 u1 u2 u3 u4 u5 : Value) : Has ((((((w.setCell ⟨g, 0, none⟩ u0).setCell ⟨g, 1, none⟩ u1).setCell ⟨g, 2, none⟩ u2).setCell ⟨g, 3, none⟩ u3).setCell ⟨g, 4, none⟩ u4).setCell ⟨g, 5, none⟩ u5) b t cs :=
  (((((H.set_other hb _ _).set_other hb _ _).set_other hb _ _).set_other hb _ _).set_other hb _ _).set_other hb _ _
/-- Senses and two numbers are drawn. -/
def DrawnFO (w : World) (e : Ending) (w' : World) : Prop :=
  ∃ s p k t, e = .returned (.tuple #[sv s p, .int .i64 k, .int .i64 t]) ∧ w.grownBy w' none ∧ Arg w' s p ∧ Bd s 100
set_option maxRecDepth 100000 in
set_option maxHeartbeats 4000000 in
theorem drawFactsOf (b : Option Addr) (n c : Nat) (w : World) (hn : n ≤ 4096) (hb : Bytes w w.heap.size b n) : Calls Tryz.prog 8 #[.slice b n c] w (DrawnFO w) := by
  have R := Has.fresh w 27 z6
  have G := World.grownBy_alloc w (Obj.cells z6 27) none
  have hb1 := cur.bytes_grown hb G
  go_enter Tryz.func8, Tryz.ntmps8
  go_wp2_with fail
  have hs0 : (w.alloc (Obj.cells z6 27)).heap.size = w.heap.size + 1 := by simp
  generalize w.alloc (Obj.cells z6 27) = v0 at *
  refine (new b n c _ hn hb1).mono ?_
  rintro e v1 ⟨q, rfl, hq0, g1, h1⟩
  have hq : w.heap.size ≤ q := by omega
  have hX : w.heap.size < q := by omega
  have hq1 := h1.lt
  replace R := R.grown g1 (by simp)
  replace G := gr_trans G g1
  clear hb hb1 g1
  go_wp2_with fail
  refine (drawSenses b n c q _ hn h1).mono ?_
  rintro e v2 hD
  obtain ⟨s, a1, j1, a2, j2, a3, j3, gs, os, j4, rfl, g2, O, h2, l1, l2, l3, l4⟩ := hD.parts
  have HL := Lib.hid (And.intro l1 (And.intro l2 (And.intro l3 l4)))
  clear l1 l2 l3 l4
  have hY : q < v2.heap.size := h2.lt
  replace R := (R.grown g2 (fun e => by injection e with e; omega)).alloc (Obj.cells #[.slice a1 s.sp.length j1, .slice a2 s.he.length j2, .slice a3 s.fa.length j3, .int .i64 s.wn, .bool s.ar, .slice (some ⟨gs, os, none⟩) s.sq.length j4] 27)
  replace G := gr_alloc (gr_past G g2 hq) (Obj.cells #[.slice a1 s.sp.length j1, .slice a2 s.he.length j2, .slice a3 s.fa.length j3, .int .i64 s.wn, .bool s.ar, .slice (some ⟨gs, os, none⟩) s.sq.length j4] 27)
  have K : Has (v2.alloc (Obj.cells #[.slice a1 s.sp.length j1, .slice a2 s.he.length j2, .slice a3 s.fa.length j3, .int .i64 s.wn, .bool s.ar, .slice (some ⟨gs, os, none⟩) s.sq.length j4] 27)) v2.heap.size 27 #[.slice a1 s.sp.length j1, .slice a2 s.he.length j2, .slice a3 s.fa.length j3, .int .i64 s.wn, .bool s.ar, .slice (some ⟨gs, os, none⟩) s.sq.length j4] := Has.fresh _ _ _
  replace O := O.kept (World.grownBy_alloc v2 (Obj.cells #[.slice a1 s.sp.length j1, .slice a2 s.he.length j2, .slice a3 s.fa.length j3, .int .i64 s.wn, .bool s.ar, .slice (some ⟨gs, os, none⟩) s.sq.length j4] 27) none)
  replace h2 := h2.alloc (Obj.cells #[.slice a1 s.sp.length j1, .slice a2 s.he.length j2, .slice a3 s.fa.length j3, .int .i64 s.wn, .bool s.ar, .slice (some ⟨gs, os, none⟩) s.sq.length j4] 27)
  clear hD g2 h1
  go_upto_region 3 with fail
  generalize v2.alloc (Obj.cells #[.slice a1 s.sp.length j1, .slice a2 s.he.length j2, .slice a3 s.fa.length j3, .int .i64 s.wn, .bool s.ar, .slice (some ⟨gs, os, none⟩) s.sq.length j4] 27) = v3 at *
  generalize v2.heap.size = Y at *
  generalize v1.heap.size = z at *
  go_wp2_with fail
  refine (from_ b n c q _ _ _ hn h2 (by omega) (by omega) (by omega) (by omega)).mono ?_
  rintro e v4 ⟨k, _, rfl, g4, h4⟩
  replace R := R.grown g4 (fun e => by injection e with e; omega)
  replace K := K.grown g4 (fun e => by injection e with e; omega)
  replace O := O.low g4 hq1
  replace G := gr_past G g4 hq
  clear g4 h2
  go_upto_region 4 with fail
  have K0 : Has v4.drew Y 27 #[.slice a1 s.sp.length j1, .slice a2 s.he.length j2, .slice a3 s.fa.length j3, .int .i64 s.wn, .bool s.ar, .slice (some ⟨gs, os, none⟩) s.sq.length j4] := K
  have R0 : Has v4.drew w.heap.size 27 z6 := R
  have O0 : OwnS z v4.drew s ⟨a1, j1, a2, j2, a3, j3, some ⟨gs, os, none⟩, j4⟩ := O.kept (gr_drewN (gr_refl _ _) 1)
  have G0 : w.grownBy v4.drew none := gr_drewN G 1
  have hd : Cur b n c v4.drew q := h4.kept (row := none) (gr_drewN (gr_refl _ _) 1) (by simp)
  obtain ⟨⟨c0, c1, c2⟩, c3, c4, c5⟩ := six K
  obtain ⟨⟨r0, r1, r2⟩, r3, r4, r5⟩ := six R
  obtain ⟨⟨f0, f1, f2⟩, f3, f4, f5⟩ := free6 R
  go_region_held3 (fun W => (W.cell? ⟨Y, 0, none⟩ = some (.slice a1 s.sp.length j1) ∧ W.cell? ⟨Y, 1, none⟩ = some (.slice a2 s.he.length j2) ∧ W.cell? ⟨Y, 2, none⟩ = some (.slice a3 s.fa.length j3)) ∧ W.cell? ⟨Y, 3, none⟩ = some (.int .i64 s.wn) ∧ W.cell? ⟨Y, 4, none⟩ = some (.bool s.ar) ∧ W.cell? ⟨Y, 5, none⟩ = some (.slice (some ⟨gs, os, none⟩) s.sq.length j4)) (first | with_reducible exact six K0 | with_reducible exact six K1 | with_reducible exact six K2 | fail) (first | (go_at_call 32; refine (cur.size b n c q _ hn hd).mono ?_; rintro e v9 ⟨t, _, rfl, g9, h9⟩; have K1 := K0.grown g9 (fun e => by injection e with e; omega); have R1 := R0.grown g9 (fun e => by injection e with e; omega); have O1 := O0.low g9 hq1; have G1 := gr_past G0 g9 hq; have K2 := past6s (show Y ≠ w.heap.size by omega) K1 (.slice a1 s.sp.length j1) (.slice a2 s.he.length j2) (.slice a3 s.fa.length j3) (.int .i64 s.wn) (.bool s.ar) (.slice (some ⟨gs, os, none⟩) s.sq.length j4); have Zq := six R1; obtain ⟨⟨z0, z1, z2⟩, z3, z4, z5⟩ := Zq; have Zs := free6 R1; obtain ⟨⟨y0, y1, y2⟩, y3, y4, y5⟩ := Zs) | fail)
  obtain ⟨⟨t0, t1, t2⟩, t3, t4, t5⟩ := six (set6 R1 (.slice a1 s.sp.length j1) (.slice a2 s.he.length j2) (.slice a3 s.fa.length j3) (.int .i64 s.wn) (.bool s.ar) (.slice (some ⟨gs, os, none⟩) s.sq.length j4))
  have GG := gr6 G1 (Nat.le_refl w.heap.size) (.slice a1 s.sp.length j1) (.slice a2 s.he.length j2) (.slice a3 s.fa.length j3) (.int .i64 s.wn) (.bool s.ar) (.slice (some ⟨gs, os, none⟩) s.sq.length j4)
  have OO := O1.set6 w.heap.size (by omega) (.slice a1 s.sp.length j1) (.slice a2 s.he.length j2) (.slice a3 s.fa.length j3) (.int .i64 s.wn) (.bool s.ar) (.slice (some ⟨gs, os, none⟩) s.sq.length j4)
  clear c0 c1 c2 c3 c4 c5 r0 r1 r2 r3 r4 r5 f0 f1 f2 f3 f4 f5 z0 z1 z2 z3 z4 z5 y0 y1 y2 y3 y4 y5 K0 K1 K2 R0 R1 O0 O1 G0 G1 K R O G hd h4
  go_wp2_with fail
  exact bodyPost_ret (v := .tuple #[.agg #[.slice a1 s.sp.length j1, .slice a2 s.he.length j2, .slice a3 s.fa.length j3, .int .i64 s.wn, .bool s.ar, .slice (some ⟨gs, os, none⟩) s.sq.length j4], .int .i64 k, .int .i64 t]) (by simp [results, Tryz.results8, go_sem, t0, t1, t2, t3, t4, t5]) rfl
    ⟨s, ⟨a1, j1, a2, j2, a3, j3, some ⟨gs, os, none⟩, j4⟩, k, t, rfl, GG, OO.arg, ⟨by have := HL.out; omega, by have := HL.out; omega, by have := HL.out; omega, by have := HL.out; omega⟩⟩
end Go.Proofs.YtdikhdfpcipdbaaGreatDoor.se

