/- The law FnDeaf. -/
import Derived.Test.YtdikhdfpcipdbaaGreatDoorG45
import Derived.Test.YtdikhdfpcipdbaaGreatDoorG37
import Derived.Test.YtdikhdfpcipdbaaGreatDoorG38
import Derived.Test.YtdikhdfpcipdbaaGreatDoorG19
/- The law FnDeaf. -/
namespace Go.Proofs.YtdikhdfpcipdbaaGreatDoor.se
open Go.ChangeShapes Go.WideShapes Go.ChangeAt Go.RowKit
open Go.Proofs.YtdikhdfpcipdbaaGreatDoor.nums Go.Proofs.YtdikhdfpcipdbaaGreatDoor.mem
open Go.Proofs.YtdikhdfpcipdbaaGreatDoor.tab (Ret)
open Go.Proofs.YtdikhdfpcipdbaaGreatDoor.cur (Cur Bytes bytes_grown)
open Go.Proofs.YtdikhdfpcipdbaaGreatDoor.rd (R okR ageR zR rx ra ro OwnR)
open Go.Proofs.YtdikhdfpcipdbaaGreatDoor.md (Fx cs8 fac eight free8)
open Go.Proofs.YtdikhdfpcipdbaaGreatDoor.il (nth Ints Own)
open Go.Proofs.YtdikhdfpcipdbaaGreatDoor.stm (Fr fv Frs Pl)
set_option linter.unusedVariables false

set_option maxRecDepth 100000 in
set_option maxHeartbeats 4000000 in
theorem deafLaw (b : Option Addr) (n c : Nat) (w : World) (hb : Bytes w w.heap.size b n) (e1 e2 e3 : Addr) (hV : Vals w) (he : sane.ErrB w e1 e2 e3) (ht : sane.ErrT w) (hr : Rgs w) :
    Calls Tryz.prog 4 #[.slice b n c] w fun e w' => e = .returned (.bool true) ∧ Below w.heap.size w w' := by
  by_cases hbig : 4096 < n
  · have hd : decide (4096 < n) = true := by simp [hbig]
    go_enter Tryz.func4, Tryz.ntmps4
    go_wp2_with fail
    refine (cur.big b n c w).mono ?_
    rintro e w1 ⟨rfl, rfl⟩
    go_wp2_with fail
    go_ret
    exact ⟨rfl, Below.refl _ _⟩
  · have hd : decide (4096 < n) = false := by simp [hbig]
    have hn : n ≤ 4096 := by omega
    go_enter Tryz.func4, Tryz.ntmps4
    go_wp2_with fail
    refine (cur.big b n c w).mono ?_
    rintro e w1 ⟨rfl, rfl⟩
    go_wp2_with fail
    refine (drawFed b n c _ hn hb).mono ?_
    rintro e w1 ⟨s, p, a, cap, fs, ps, rfl, g0, A, B, hF, hl, hv6⟩
    clear hd hbig
    have B' := B.up (show 100 ≤ 1048576 by omega)
    have cO := fun W (k : Arg W s p) => specSensesOk s p W k B'
    have K := Has.fresh w1 27 (cs6 s p)
    have ga := World.grownBy_alloc w1 (Obj.cells (cs6 s p) 27) none
    replace g0 := gr_trans g0 ga
    replace A := A.kept ga
    replace hF := hF.kept ga
    clear ga
    go_upto_region 4 with fail
    generalize w1.alloc (Obj.cells #[.slice p.a1 s.sp.length p.c1, .slice p.a2 s.he.length p.c2, .slice p.a3 s.fa.length p.c3, .int .i64 s.wn, .bool s.ar, .slice p.a4 s.sq.length p.c4] 27) = w2 at *
    generalize w1.heap.size = X at *
    obtain ⟨⟨c0, c1, c2⟩, c3, c4, c5⟩ := six K
    cases ho : ok s
    · rw [ho] at cO
      go_wp2_with fail
      refine (cO _ A).mono ?_
      rintro e w3 ⟨rfl, g3⟩
      go_wp2_with fail
      go_ret
      exact ⟨rfl, below_of_none (gr_trans g0 g3)⟩
    · rw [ho] at cO
      go_wp2_with fail
      refine (cO _ A).mono ?_
      rintro e w3 ⟨rfl, g3⟩
      replace g0 := gr_trans g0 g3
      replace A := A.kept g3
      replace hF := hF.kept g3
      replace K := K.grown g3 (by simp)
      clear cO g3 c0 c1 c2 c3 c4 c5
      obtain ⟨⟨c0, c1, c2⟩, c3, c4, c5⟩ := six K
      go_wp2_with fail
      refine (implFed s p a cap fs ps e1 e2 e3 _ A B' hF (by omega) (fun k hk => by have := hv6 k hk; omega) (hV.kept g0) (he.kept g0) (ht.kept g0) (hr.kept g0)).mono ?_
      rintro e w4 ⟨p4, rfl, g4, O4⟩
      have okx : ok (fed s fs) = true := ok_fed ho
      replace g0 := gr_trans g0 g4
      clear g4 A hF K c0 c1 c2 c3 c4 c5 ho hv6 hl
      generalize fed s fs = t at *
      have K := Has.fresh w4 27 (cs6 t p4)
      have ga := World.grownBy_alloc w4 (Obj.cells (cs6 t p4) 27) none
      have hZ : w.heap.size ≤ w4.heap.size := g0.size
      replace g0 := gr_trans g0 ga
      have A := O4.arg.kept ga
      clear ga O4
      go_upto_region 7 with fail
      generalize w4.alloc (Obj.cells #[.slice p4.a1 t.sp.length p4.c1, .slice p4.a2 t.he.length p4.c2, .slice p4.a3 t.fa.length p4.c3, .int .i64 t.wn, .bool t.ar, .slice p4.a4 t.sq.length p4.c4] 27) = w5 at *
      generalize w4.heap.size = Z at *
      go_wp2_with fail
      go_loopw [6] (fun i wr => ∃ (k : Nat) (p' : P), k ≤ 12 ∧ i = .int .i64 k ∧ Has wr Z 27 (cs6 (deafS t k) p') ∧ Arg wr (deafS t k) p' ∧ w.grownBy wr none) (fun i _ => 20 - (intOf i).toNat)
      case atStart => exact ⟨0, p4, by omega, rfl, K, A, g0⟩
      case round =>
        clear K A g0
        obtain ⟨k, p', hk, rfl, K, A, g0⟩ := hrel
        go_wp2_with fail
        refine (cur.pick b n c _ 1 9 _ hn (bytes_grown hb g0) (by omega) (by omega) (by omega) (by omega)).mono ?_
        rintro e w9 ⟨r, r0, r1, rfl, rfl⟩
        have W1 : IntKind.i64.wrap (4 + r) = 4 + r := IntWalk.i64_in _ (by omega)
        have okd := ok_deaf okx k
        have Bd' := bd_ok okd
        by_cases hlt : (k : Int) < 4 + r
        · have hd : decide ((k : Int) < 4 + r) = true := by simp [hlt]
          have cF := implFed (deafS t k) p' none 0 [] [] e1 e2 e3 wr A Bd' (fun k hk => by simp at hk) (by simp) (fun k hk => by simp at hk) (hV.kept g0) (he.kept g0) (ht.kept g0) (hr.kept g0)
          rw [fed_nil okd] at cF
          obtain ⟨⟨c0, c1, c2⟩, c3, c4, c5⟩ := six K
          go_wp2_with fail
          refine cF.mono ?_
          rintro e w10 ⟨p10, rfl, g10, O10⟩
          replace K := K.grown g10 (by simp)
          replace g0 := gr_trans g0 g10
          clear cF g10 A c0 c1 c2 c3 c4 c5
          obtain ⟨⟨c0, c1, c2⟩, c3, c4, c5⟩ := six K
          obtain ⟨⟨f0, f1, f2⟩, f3, f4, f5⟩ := free6 K
          have O11 := O10.boxed K (.slice p10.a1 (deafS t (k + 1)).sp.length p10.c1) (.slice p10.a2 (deafS t (k + 1)).he.length p10.c2) (.slice p10.a3 (deafS t (k + 1)).fa.length p10.c3) (.int .i64 (deafS t (k + 1)).wn) (.bool (deafS t (k + 1)).ar) (.slice p10.a4 (deafS t (k + 1)).sq.length p10.c4)
          go_wp2_with fail
          go_roundw
          case rel => exact ⟨k + 1, p10, by omega, by go_num, set6 K _ _ _ _ _ _, O11.arg, gr6 g0 hZ _ _ _ _ _ _⟩
          case measure => simp [intOf]; omega
        · have hd : decide ((k : Int) < 4 + r) = false := by simp [hlt]
          have cX := fun W (h : Arg W (deafS t k) p') (v : Vals W) => implFacts (deafS t k) p' 0 0 W h Bd' v
          rw [facts_deaf okx (by omega) (by omega)] at cX
          have cS := fun W (h : Arg W (deafS t k) p') (v : Vals W) => implSensesOk (deafS t k) p' W h Bd' v
          rw [okd] at cS
          obtain ⟨⟨c0, c1, c2⟩, c3, c4, c5⟩ := six K
          go_wp2_with fail
          refine (cX _ A (hV.kept g0)).mono ?_
          rintro e w10 ⟨rfl, g10⟩
          replace K := (K.grown g10 (by simp)).alloc (Obj.cells (cs8 ⟨0, false, 0, false, 0, (deafS t k).ar, (deafS t k).wn, 0⟩) 35)
          have F := Has.fresh w10 35 (cs8 ⟨0, false, 0, false, 0, (deafS t k).ar, (deafS t k).wn, 0⟩)
          have ga := World.grownBy_alloc w10 (Obj.cells (cs8 ⟨0, false, 0, false, 0, (deafS t k).ar, (deafS t k).wn, 0⟩) 35) none
          replace A := (A.kept g10).kept ga
          replace g0 := gr_trans (gr_trans g0 g10) ga
          clear cX g10 ga c0 c1 c2 c3 c4 c5
          go_upto_region 12 with fail
          generalize w10.alloc (Obj.cells #[.int .i64 0, .bool false, .int .i64 0, .bool false, .int .i64 0, .bool (deafS t k).ar, .int .i64 (deafS t k).wn, .int .i64 0] 35) = w11 at *
          generalize w10.heap.size = Y at *
          obtain ⟨⟨c0, c1, c2⟩, c3, c4, c5⟩ := six K
          go_wp2_with fail
          refine (cS _ A (hV.kept g0)).mono ?_
          rintro e w12 ⟨rfl, g12⟩
          replace K := K.grown g12 (by simp)
          replace F := F.grown g12 (by simp)
          replace g0 := gr_trans g0 g12
          clear cS g12 c0 c1 c2 c3 c4 c5
          obtain ⟨⟨c0, c1, c2⟩, c3, c4, c5⟩ := six K
          obtain ⟨e0, e1, e2, e3, e4, e5, e6, e7⟩ := eight F
          generalize (deafS t k).ar = ar at *
          generalize (deafS t k).wn = wn at *
          go_wp2_with fail
          go_ret
          exact ⟨by simp, below_of_none g0⟩
end Go.Proofs.YtdikhdfpcipdbaaGreatDoor.se

