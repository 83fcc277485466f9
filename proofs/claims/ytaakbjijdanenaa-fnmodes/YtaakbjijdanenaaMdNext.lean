/- NextMode and MayFollow of the program: the first way that applies; is there a way. -/
import Derived.Test.YtaakbjijdanenaaMdWays
namespace Go.Proofs.Ytaakbjijdanenaa.md
open Go.ChangeShapes Go.WideShapes Go.ChangeAt Go.RowKit
open Go.Proofs.Ytaakbjijdanenaa.nums Go.Proofs.Ytaakbjijdanenaa.mem
open Go.Proofs.Ytaakbjijdanenaa.fix (ret_int ret_bool)
open Go.Proofs.Ytaakbjijdanenaa.tab (Ret quiet_w)
open Go.Proofs.Ytaakbjijdanenaa.cas (caseOk)
set_option linter.unusedVariables false

theorem next_no {m : Int} {f : Fx} (h : (modeOk m && factsOk f) = false) : nextMode m f = 0 := by unfold nextMode; rw [h]; rfl
theorem next_yes {m : Int} {f : Fx} (h1 : modeOk m = true) (h2 : factsOk f = true) : nextMode m f = first f m (ways m) := by unfold nextMode; rw [h1, h2]; rfl

set_option maxHeartbeats 1000000 in
theorem implNextMode (m : Int) (f : Fx) (w : World) : Calls Try.prog 10 #[.int .i64 m, fac f] w (Ret (.int .i64 (nextMode m f)) w) := by
  have A0 := Has.fresh w 25 (cs8 f)
  have g0 := World.grownBy_alloc w (Obj.cells (cs8 f) 25) none
  have cM := implModeOk m
  have cF := implFactsOk f
  cases h1 : modeOk m
  · rw [h1] at cM
    rw [next_no (by rw [h1]; rfl)]
    clear h1
    go_enter Try.func10, Try.ntmps10
    go_wp2_with fail
    refine (cM _).mono ?_
    rintro e w' ⟨rfl, rfl⟩
    go_wp2_with fail
    go_ret
    exact ⟨rfl, g0⟩
  · rw [h1] at cM
    cases h2 : factsOk f
    · rw [h2] at cF
      rw [next_no (by rw [h2, Bool.and_false])]
      clear h1 h2
      go_enter Try.func10, Try.ntmps10
      go_wp2_with fail
      refine (cM _).mono ?_
      rintro e w' ⟨rfl, rfl⟩
      go_wp2_with fail
      refine (cF _).mono ?_
      rintro e w1 ⟨rfl, g1⟩
      go_wp2_with fail
      go_ret
      exact ⟨rfl, gr_trans g0 g1⟩
    · rw [h2] at cF
      rw [next_yes h1 h2]
      have cW := fun W => implWaysFrom m W h1
      have hL : ∀ k, k < (ways m).length → ask (ways m) k < 8 := ask_lt
      have hl3 : (ways m).length ≤ 3 := ways_len
      generalize ways m = l at *
      clear h1 h2
      go_enter Try.func10, Try.ntmps10
      go_wp2_with fail
      refine (cM _).mono ?_
      rintro e w' ⟨rfl, rfl⟩
      go_wp2_with fail
      refine (cF _).mono ?_
      rintro e w1 ⟨rfl, g1⟩
      replace A0 := A0.grown g1 (by simp)
      replace g0 := gr_trans g0 g1
      clear g1 cM cF
      go_wp2_with fail
      refine (cW _).mono ?_
      rintro e w2 ⟨g, rfl, hg, hW, g2⟩
      replace A0 := A0.grown g2 (by simp)
      replace g0 := gr_trans g0 g2
      clear g2 cW hg
      go_wp2_with fail
      go_loopw [18] (fun i wr => ∃ k : Nat, k ≤ l.length ∧ i = .int .i64 k ∧ Hid (first f m (l.drop k) = first f m l) ∧ Has wr g 46 (cells2 l).toArray ∧ Has wr w.heap.size 25 (cs8 f) ∧ w.grownBy wr none) (fun i _ => l.length - (intOf i).toNat)
      case atStart => exact ⟨0, Nat.zero_le _, rfl, Lib.hid rfl, hW, A0, g0⟩
      case round =>
        clear A0 g0 hW
        obtain ⟨k, hk, rfl, hF, hW, hA, hg⟩ := hrel
        by_cases hlt : k < l.length
        · obtain ⟨x0, x1⟩ := cells2_at l k hlt
          obtain ⟨hE, cA⟩ := asks f _ (hL k hlt)
          have hY := Lib.hid (first_yes (f := f) (m := m) hlt)
          have hN := Lib.hid (first_no (f := f) (m := m) hlt)
          have c0 : wr.cell? ⟨g, k * 2, none⟩ = some (.int .i64 (lead l k)) := (hW.cell _).trans (by simpa using x0)
          have c1 : wr.cell? ⟨g, k * 2 + 1, none⟩ = some (.func (.func (fnum (ask l k))) #[] #[]) := (hW.cell _).trans (by simpa using x1)
          clear x0 x1 hL
          generalize fnum (ask l k) = n at *
          generalize lead l k = b at *
          generalize cnd f (ask l k) = v at *
          have e199 : ∀ args w, (callFunc n args).run Try.prog w = .ok (.enter n args) w := hE
          obtain ⟨a0, a1, a2, a3, a4, a5, a6, a7⟩ := eight hA
          have hsz := hA.lt
          have hgz := hW.lt
          clear hE
          go_wp2_with fail
          refine (cA _).mono ?_
          rintro e w3 ⟨rfl, g3⟩
          have B0 := (Has.fresh wr 46 #[.int .i64 b, .func (.func n) #[] #[]]).grown g3 (by simp)
          replace hW := (hW.alloc (Obj.cells #[.int .i64 b, .func (.func n) #[] #[]] 46)).grown g3 (by simp)
          replace hA := (hA.alloc (Obj.cells #[.int .i64 b, .func (.func n) #[] #[]] 46)).grown g3 (by simp)
          replace hg := gr_trans (gr_alloc hg (Obj.cells #[.int .i64 b, .func (.func n) #[] #[]] 46)) g3
          have b0 : w3.cell? ⟨wr.heap.size, 0, none⟩ = some (.int .i64 b) := B0.cell 0
          clear g3 c0 c1 a0 a1 a2 a3 a4 a5 a6 a7 cA e199 B0
          cases v
          · have HN := Lib.hid ((hN.out rfl).symm.trans hF.out)
            clear hN hY hF
            go_wp2_with fail
            go_roundw
            case rel => exact ⟨k + 1, hlt, by go_num, HN, hW, hA, hg⟩
            case measure => simp [intOf]; omega
          · have HY := Lib.hid ((hY.out rfl).symm.trans hF.out)
            clear hN hY hF
            go_wp2_with fail
            go_ret
            exact ⟨ret_int HY.out, hg⟩
        · obtain rfl : k = l.length := by omega
          go_wp2_with fail
          go_ret
          refine ⟨ret_int ?_, hg⟩
          rw [← hF.out, List.drop_length]
          rfl

theorem follow_no {a b : Int} (h : modeOk a = false) : mayFollow a b = false := by unfold mayFollow; rw [h]; rfl
theorem follow_yes {a b : Int} (h : modeOk a = true) : mayFollow a b = ((ways a).any (fun x => decide (x.1 = b)) || decide (b = a)) := by unfold mayFollow; rw [h]; rfl
theorem any_yes {b : Int} {l : List W2} {k : Nat} (h : k < l.length) (hb : lead l k = b) : (l.drop k).any (fun x => decide (x.1 = b)) = true := by
  rw [drop_at l h, List.any_cons]
  simp [hb]
theorem any_no {b : Int} {l : List W2} {k : Nat} (h : k < l.length) (hb : ¬ lead l k = b) : (l.drop k).any (fun x => decide (x.1 = b)) = (l.drop (k + 1)).any (fun x => decide (x.1 = b)) := by
  rw [drop_at l h, List.any_cons]
  simp [hb]

set_option maxHeartbeats 1000000 in
theorem implMayFollow (a b : Int) (w : World) : Calls Try.prog 14 #[.int .i64 a, .int .i64 b] w (Ret (.bool (mayFollow a b)) w) := by
  have cM := implModeOk a
  cases h1 : modeOk a
  · rw [h1] at cM
    rw [follow_no h1]
    clear h1
    go_enter Try.func14, Try.ntmps14
    go_wp2_with fail
    refine (cM _).mono ?_
    rintro e w' ⟨rfl, rfl⟩
    go_wp2_with fail
    go_ret
    exact ⟨rfl, gr_refl _ _⟩
  · rw [h1] at cM
    rw [follow_yes h1]
    have cW := fun W => implWaysFrom a W h1
    have hl3 : (ways a).length ≤ 3 := ways_len
    generalize ways a = l at *
    clear h1
    go_enter Try.func14, Try.ntmps14
    go_wp2_with fail
    refine (cM _).mono ?_
    rintro e w' ⟨rfl, rfl⟩
    go_wp2_with fail
    refine (cW _).mono ?_
    rintro e w2 ⟨g, rfl, hg, hW, g0⟩
    clear cM cW hg
    go_wp2_with fail
    go_loopw [13] (fun i wr => ∃ k : Nat, k ≤ l.length ∧ i = .int .i64 k ∧ Hid ((l.drop k).any (fun x => decide (x.1 = b)) = l.any (fun x => decide (x.1 = b))) ∧ Has wr g 46 (cells2 l).toArray ∧ w.grownBy wr none) (fun i _ => l.length - (intOf i).toNat)
    case atStart => exact ⟨0, Nat.zero_le _, rfl, Lib.hid rfl, hW, g0⟩
    case round =>
      clear g0 hW
      obtain ⟨k, hk, rfl, hF, hW, hg⟩ := hrel
      by_cases hlt : k < l.length
      · obtain ⟨x0, x1⟩ := cells2_at l k hlt
        have hY := Lib.hid (any_yes (b := b) hlt)
        have hN := Lib.hid (any_no (b := b) hlt)
        have c0 : wr.cell? ⟨g, k * 2, none⟩ = some (.int .i64 (lead l k)) := (hW.cell _).trans (by simpa using x0)
        have c1 : wr.cell? ⟨g, k * 2 + 1, none⟩ = some (.func (.func (fnum (ask l k))) #[] #[]) := (hW.cell _).trans (by simpa using x1)
        clear x0 x1
        generalize fnum (ask l k) = n at *
        generalize lead l k = d at *
        have hgz := hW.lt
        replace hW := hW.alloc (Obj.cells #[.int .i64 d, .func (.func n) #[] #[]] 46)
        replace hg := gr_alloc hg (Obj.cells #[.int .i64 d, .func (.func n) #[] #[]] 46)
        by_cases hd : d = b
        · have he : (d == b) = true := by simp [hd]
          have HY := Lib.hid ((hY.out hd).symm.trans hF.out)
          clear hY hN hd hF
          go_wp2_with fail
          go_ret
          exact ⟨ret_bool (by rw [← HY.out]; rfl), hg⟩
        · have he : (d == b) = false := by simp [hd]
          have HN := Lib.hid ((hN.out hd).symm.trans hF.out)
          clear hY hN hd hF
          go_wp2_with fail
          go_roundw
          case rel => exact ⟨k + 1, hlt, by go_num, HN, hW, hg⟩
          case measure => simp [intOf]; omega
      · obtain rfl : k = l.length := by omega
        have HF : Hid (l.any (fun x => decide (x.1 = b)) = false) := Lib.hid (by rw [← hF.out, List.drop_length]; rfl)
        clear hF
        go_wp2_with fail
        go_ret
        exact ⟨ret_bool (by rw [HF.out]; rfl), hg⟩
end Go.Proofs.Ytaakbjijdanenaa.md
