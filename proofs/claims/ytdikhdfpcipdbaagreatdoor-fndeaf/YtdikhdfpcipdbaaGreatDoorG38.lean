/- Chapter 15 on plain senses: the facts are right; who has heard nothing for four ticks votes nothing. Two values of facts compared. What the listed variables' condition gives chapter 15: the table, the three errors, the two ranges; named variables read again. -/
import Derived.Test.YtdikhdfpcipdbaaGreatDoorG15
import Derived.Test.YtdikhdfpcipdbaaGreatDoorG34
import Derived.Test.YtdikhdfpcipdbaaGreatDoorG23
import Derived.Test.YtdikhdfpcipdbaaGreatDoorG2
import Derived.Test.YtdikhdfpcipdbaaGreatDoorG28
import Derived.Test.YtdikhdfpcipdbaaGreatDoorG29
import Derived.Lib.LaidTab
import Derived.ChangeVars
import Derived.WalkSmall
/- Chapter 15 on plain senses: the facts are right; who has heard nothing for four ticks votes nothing. Two values of facts compared. -/
namespace Go.Proofs.YtdikhdfpcipdbaaGreatDoor.se
open Go.ChangeShapes Go.WideShapes Go.ChangeAt Go.RowKit
open Go.Proofs.YtdikhdfpcipdbaaGreatDoor.nums Go.Proofs.YtdikhdfpcipdbaaGreatDoor.mem
open Go.Proofs.YtdikhdfpcipdbaaGreatDoor.rd (R okR ageR zR rx ra ro okR_iff partI partB eqI eqB)
open Go.Proofs.YtdikhdfpcipdbaaGreatDoor.md (Fx cs8 fac eight free8 factsOk)
open Go.Proofs.YtdikhdfpcipdbaaGreatDoor.il (nth)
set_option linter.unusedVariables false

theorem half_in {a b : Int} (ha : -1000000 ≤ a ∧ a ≤ 1000000) (hb : -1000000 ≤ b ∧ b ≤ 1000000) : -1000000 ≤ (a + b).tdiv 2 ∧ (a + b).tdiv 2 ≤ 1000000 := by
  rcases Int.le_total 0 (a + b) with h | h
  · rw [Int.tdiv_eq_ediv_of_nonneg h]; omega
  · have e : (a + b).tdiv 2 = -((-(a + b)).tdiv 2) := by rw [Int.neg_tdiv, Int.neg_neg]
    rw [e, Int.tdiv_eq_ediv_of_nonneg (by omega)]; omega
theorem v3_in {l : List Int} (h : ∀ v ∈ l, -1000000 ≤ v ∧ v ≤ 1000000) : -1000000 ≤ (vt.v3 l).1 ∧ (vt.v3 l).1 ≤ 1000000 := by
  match l, h with
  | [], _ => exact ⟨by decide, by decide⟩
  | [a], h => exact h a (by simp)
  | [a, b], h => exact half_in (h a (by simp)) (h b (by simp))
  | [a, b, c], h =>
    have h1 := h a (by simp)
    have h2 := h b (by simp)
    have h3 := h c (by simp)
    show -1000000 ≤ vt.mid a b c ∧ vt.mid a b c ≤ 1000000
    unfold vt.mid; omega
  | _ :: _ :: _ :: _ :: _, _ => exact ⟨show (-1000000 : Int) ≤ 0 by decide, show (0 : Int) ≤ 1000000 by decide⟩
theorem v2_in {ap : Int} {l : List Int} (h : ∀ v ∈ l, -1000000 ≤ v ∧ v ≤ 1000000) : -1000000 ≤ (vt.v2 ap l).1 ∧ (vt.v2 ap l).1 ≤ 1000000 := by
  match l, h with
  | [], _ => exact ⟨show (-1000000 : Int) ≤ 0 by decide, show (0 : Int) ≤ 1000000 by decide⟩
  | [a], h => exact h a (by simp)
  | [a, b], h =>
    have h1 := h a (by simp)
    have h2 := h b (by simp)
    show -1000000 ≤ min a b ∧ min a b ≤ 1000000
    omega
  | _ :: _ :: _ :: _, _ => exact ⟨show (-1000000 : Int) ≤ 0 by decide, show (0 : Int) ≤ 1000000 by decide⟩
theorem three_in (l : List R) (m : Int) : -1000000 ≤ (vt.voteThree l m).1 ∧ (vt.voteThree l m).1 ≤ 1000000 := v3_in (fun v h => vt.voters_in h)
theorem two_in (l : List R) (m ap : Int) : -1000000 ≤ (vt.voteTwo l m ap).1 ∧ (vt.voteTwo l m ap).1 ≤ 1000000 := by
  unfold vt.voteTwo
  split
  · exact v2_in (fun v h => vt.voters_in h)
  · exact ⟨show (-1000000 : Int) ≤ 0 by decide, show (0 : Int) ≤ 1000000 by decide⟩
/-- Whatever the senses, the facts are right. -/
theorem facts_ok (s : S) (c t : Int) : factsOk (factsOf s c t) = true := by
  cases h : (ok s && cas.caseOk c)
  · rw [factsOf_no t h]; decide
  · rw [factsOf_yes t h]
    simp only [Bool.and_eq_true] at h
    have h1 := three_in s.sp 3
    have h2 := two_in s.he 3 10
    have h3 := (ok_iff.1 h.1).wn
    have h4 : 0 ≤ btw t 0 1000 ∧ btw t 0 1000 ≤ 1000 := by unfold btw; omega
    unfold factsOk
    simp only [Bool.and_eq_true]
    exact ⟨inb_iff.2 h1, inb_iff.2 h2, h.2, h3, inb_iff.2 h4⟩
theorem ok_aged {s : S} (h : ok s = true) : ok (agedS s) = true := fed_nil h ▸ ok_fed (fs := []) h
theorem bd_ok {s : S} (h : ok s = true) : Bd s 1048576 := by
  have o := ok_iff.1 h
  exact ⟨by rw [o.sp3]; omega, by rw [o.he2]; omega, by rw [o.fa6]; omega, by rw [o.sq4]; omega⟩
theorem Bd.up {s : S} {m n : Nat} (h : Bd s m) (hm : m ≤ n) : Bd s n := ⟨Nat.le_trans h.sp hm, Nat.le_trans h.he hm, Nat.le_trans h.fa hm, Nat.le_trans h.sq hm⟩
theorem bd_z : Bd zS 1048576 := ⟨by simp [zS], by simp [zS], by simp [zS], by simp [zS]⟩
theorem ok_new : ok newS = true := by decide
/-- Heard of nothing k times. -/
def deafS (s : S) : Nat → S
  | 0 => s
  | k + 1 => agedS (deafS s k)
theorem ok_deaf {s : S} (h : ok s = true) : ∀ k, ok (deafS s k) = true
  | 0 => h
  | k + 1 => ok_aged (ok_deaf h k)
theorem old_deaf {s : S} (h : ok s = true) : ∀ k : Nat, k ≤ 20 → Old k (deafS s k).sp ∧ Old k (deafS s k).he
  | 0, _ => ⟨Old.zero (ok_iff.1 h).sp, Old.zero (ok_iff.1 h).he⟩
  | k + 1, hk => by
    obtain ⟨h1, h2⟩ := old_deaf h k (by omega)
    have e : ((k + 1 : Nat) : Int) = (k : Int) + 1 := by omega
    rw [e]
    exact ⟨h1.age (by omega), h2.age (by omega)⟩
theorem old_le {n m : Int} {l : List R} (h : Old n l) (hm : m ≤ n) : Old m l := fun r hr => Int.le_trans hm (h r hr)
/-- The facts of one who is deaf. -/
theorem facts_deaf {s : S} (h : ok s = true) {k : Nat} (h4 : 4 ≤ k) (hk : k ≤ 20) : factsOf (deafS s k) 0 0 = ⟨0, false, 0, false, 0, (deafS s k).ar, (deafS s k).wn, 0⟩ := by
  obtain ⟨h1, h2⟩ := old_deaf h k hk
  have e : (ok (deafS s k) && cas.caseOk 0) = true := by rw [ok_deaf h k]; decide
  rw [factsOf_yes 0 e, (old_le h1 (show (4 : Int) ≤ k by omega)).three, (old_le h2 (show (4 : Int) ≤ k by omega)).two]
  rfl

/-! ### facts compared -/
theorem fieldsF : ∃ fs : List Field, Tryz.prog.underlying 35 = some (.struct fs.toArray) ∧ fs.map (fun f => (f.name, f.type, f.offset)) = [("Speed", 2, 0), ("SpeedOk", 4, 1), ("Height", 2, 2), ("HeightOk", 4, 3), ("Case", 2, 4), ("Armed", 4, 5), ("Want", 2, 6), ("Timer", 2, 7)] :=
  ⟨_, Tryz.underlying35, rfl⟩
theorem equalF (w : World) (d : Nat) (f : Fx) : (Op.equalIn (d + 2) 35 (fac f) (fac f)).run Tryz.prog w = .ok true w := by
  obtain ⟨fs, hu, hf⟩ := fieldsF
  have hp : Tryz.prog.stoodInHeld 35 = false := by kernel_rfl
  unfold Op.equalIn
  simp only [Sem.run_bind, run_underlying hu, Result.andThen_ok, run_program, hp, Bool.false_eq_true, if_false]
  rw [← Array.forIn_toList]
  match fs, hf with
  | f0 :: f1 :: f2 :: f3 :: f4 :: f5 :: f6 :: f7 :: fs, hf =>
    simp only [List.map_cons, List.cons.injEq, Prod.mk.injEq, List.map_eq_nil_iff] at hf
    obtain ⟨⟨n0, t0, o0⟩, ⟨n1, t1, o1⟩, ⟨n2, t2, o2⟩, ⟨n3, t3, o3⟩, ⟨n4, t4, o4⟩, ⟨n5, t5, o5⟩, ⟨n6, t6, o6⟩, ⟨n7, t7, o7⟩, rfl⟩ := hf
    simp [n0, n1, n2, n3, n4, n5, n6, n7, t0, t1, t2, t3, t4, t5, t6, t7, o0, o1, o2, o3, o4, o5, o6, o7, partI, partB, eqI, eqB]
  | [], hf => simp at hf
  | [_], hf => simp at hf
  | [_, _], hf => simp at hf
  | [_, _, _], hf => simp at hf
  | [_, _, _, _], hf => simp at hf
  | [_, _, _, _, _], hf => simp at hf
  | [_, _, _, _, _, _], hf => simp at hf
  | [_, _, _, _, _, _, _], hf => simp at hf
theorem neqF_same (w : World) (f : Fx) : (binOp .neq 35 (fac f) (fac f)).run Tryz.prog w = .ok (.bool false) w := by
  simp only [binOp]
  simp [Op.equal, Op.maxDepth, equalF w 9998]
theorem guardF (w : World) (op : BinOp) (x y : Operand) (xs ys : Array Value) : (eqGuard op 35 x y (.agg xs) (.agg ys)).run Tryz.prog w = .ok () w := by
  have hm : Tryz.prog.eqGuardType Tryz.prog.depth 35 = false := by kernel_rfl
  cases op <;> simp [eqGuard, run_program, hm]
end Go.Proofs.YtdikhdfpcipdbaaGreatDoor.se

/- What the listed variables' condition gives chapter 15: the table, the three errors, the two ranges; named variables read again. -/
namespace Go.Proofs.YtdikhdfpcipdbaaGreatDoor.se
open Go.ChangeShapes Go.WideShapes Go.ChangeAt Go.RowKit
open Go.Proofs.YtdikhdfpcipdbaaGreatDoor.mem
set_option linter.unusedVariables false

theorem gVals : Tryz.prog.globalNamed "loop.example/g00619/impl.valuesOf" = some 0 := by kernel_rfl
theorem gValsT : (Tryz.prog.globals[0]?).map (·.type) = some 76 := by kernel_rfl
theorem gSr : Tryz.prog.globalNamed "loop.example/g00619/impl.speedRange" = some 1 := by kernel_rfl
theorem gSrT : (Tryz.prog.globals[1]?).map (·.type) = some 72 := by kernel_rfl
theorem gHr : Tryz.prog.globalNamed "loop.example/g00619/impl.heightRange" = some 2 := by kernel_rfl
theorem gHrT : (Tryz.prog.globals[2]?).map (·.type) = some 72 := by kernel_rfl
set_option maxRecDepth 100000 in
theorem range_of_head {W : World} {name : String} {rest : List (String × DataW Unit)} {g : Nat} {lo hi rt : Int} (hg : Tryz.prog.globalNamed name = some g) (hty : (Tryz.prog.globals[g]?).map (·.type) = some 72)
    (h : laidMet Tryz.prog ((name, .agg [.lit (.int .i64 lo), .lit (.int .i64 hi), .lit (.int .i64 rt)]) :: rest) W) : W.cell? ⟨g, 0, none⟩ = some (.int .i64 lo) ∧ W.cell? ⟨g, 1, none⟩ = some (.int .i64 hi) ∧ W.cell? ⟨g, 2, none⟩ = some (.int .i64 rt) := by
  obtain ⟨ps, ⟨g', t', cs, fuel, p, q, hg', ht', hvar, hd, _, _⟩, _⟩ := h
  obtain rfl := Option.some.inj (hg.symm.trans hg')
  obtain rfl := Option.some.inj (hty.symm.trans ht')
  have h2 : Tryz.prog.cellsOf 72 = 3 := by kernel_rfl
  have c1 : Tryz.prog.cellsOf 2 = 1 := by kernel_rfl
  obtain ⟨y0, y1, y2, n, ed, hl, t0, t1, t2⟩ := Go.Deep.trod_struct3 Tryz.underlying72 hd
  rw [h2] at hl
  obtain ⟨z, e0, f0, _⟩ := DataW.trod_int Tryz.underlying2 t0
  obtain ⟨z1, e1, f1, _⟩ := DataW.trod_int Tryz.underlying2 t1
  obtain ⟨z2, e2, f2, _⟩ := DataW.trod_int Tryz.underlying2 t2
  have r0 := World.var?_cell hg hvar 0
  have r1 := World.var?_cell hg hvar 1
  have r2 := World.var?_cell hg hvar 2
  obtain ⟨l⟩ := cs
  match l, hl with
  | [x, y, u], _ =>
    simp [c1] at e0 e1 e2
    subst e0 e1 e2
    rw [f0, f1, f2] at ed
    simp only [Prod.mk.injEq, DataW.agg.injEq, List.cons.injEq, DataW.lit.injEq, Lit.int.injEq, true_and, and_true] at ed
    obtain ⟨⟨rfl, rfl, rfl⟩, _⟩ := ed
    exact ⟨by simpa using r0, by simpa using r1, by simpa using r2⟩
theorem vals_of_head {W : World} {rest : List (String × DataW Unit)} (h : laidMet Tryz.prog (("loop.example/g00619/impl.valuesOf", Rows.laid_loop_example_g00619_impl_valuesOf) :: rest) W) : Vals W := by
  have hT : Lib.TabIs Tryz.prog W "loop.example/g00619/impl.valuesOf" .i64 [0, 3, 2, 6, 2] := Lib.tabIs_of_head (P := Tryz.prog) (k := .i64) (zs := [0, 3, 2, 6, 2]) gVals gValsT Tryz.underlying76 Tryz.underlying3 (by kernel_rfl) (by kernel_rfl) h
  have c : ∀ i, i < 5 → W.cell? ⟨0, i, none⟩ = some (.int .i64 (il.nth [0, 3, 2, 6, 2] i)) := fun i hi => hT.cell gVals i (by simpa using hi)
  exact ⟨sane.cell_lt (c 0 (by omega)), c⟩
theorem rgs_of_head {W : World} (h : laidMet Tryz.prog [("loop.example/g00619/impl.speedRange", Rows.laid_loop_example_g00619_impl_speedRange), ("loop.example/g00619/impl.heightRange", Rows.laid_loop_example_g00619_impl_heightRange)] W) : Rgs W := by
  obtain ⟨a, b, c⟩ := range_of_head gSr gSrT h
  obtain ⟨d, e, f⟩ := range_of_head gHr gHrT (laidMet.tail h)
  exact ⟨a, b, c, d, e, f⟩
/-- The condition of all seven, in their order. -/
theorem of_all {W : World} {l : List (String × DataW Unit)} (h : laidMet Tryz.prog [("loop.example/g00619/impl.valuesOf", Rows.laid_loop_example_g00619_impl_valuesOf), (sane.nameN, Rows.laid_loop_example_g00619_impl_errNotRight), (sane.nameF, Rows.laid_loop_example_g00619_impl_errTooFar), (sane.nameQ, Rows.laid_loop_example_g00619_impl_errTooFast), ("loop.example/g00619/impl.speedRange", Rows.laid_loop_example_g00619_impl_speedRange), ("loop.example/g00619/impl.heightRange", Rows.laid_loop_example_g00619_impl_heightRange)] W ∧ handlesMet Tryz.prog (("errors.errorType", Rows.laid_errors_errorType) :: l) W) :
    Vals W ∧ Rgs W ∧ sane.ErrT W ∧ ∃ n f q : Addr, sane.ErrB W n f q := by
  obtain ⟨h1, h2⟩ := h
  have h3 := laidMet.tail h1
  obtain ⟨n, f, q, _, _, _, hE⟩ := sane.of_sentinels h3
  exact ⟨vals_of_head h1, rgs_of_head (laidMet.tail (laidMet.tail (laidMet.tail h3))), sane.of_handle h2, n, f, q, hE⟩
/-- A name of a variable whose type can be read again. -/
def OkName (n : String) : Prop := ∃ t, (Tryz.prog.globalNamed n).bind (fun g => (Tryz.prog.globals[g]?).map (·.type)) = some t ∧ Tryz.prog.readableRec t = true ∧ t < Tryz.prog.types.size
theorem laidOut : laidOutB Tryz.prog = true := by kernel_rfl
/-- Named variables read as they did where nothing older has turned. -/
theorem vars_stay {H : Type} {enc : TypeId × Value → H} {W W' : World} (bel : Below W.heap.size W W') : ∀ {ns : List String} {gs : List (DataW H)} {ps : List MemPlace}, DataW.TrodVars enc Tryz.prog W (fun _ => true) ns gs ps → (∀ n, n ∈ ns → OkName n) → DataW.TrodVars enc Tryz.prog W' (fun b => decide (b < W.heap.size)) ns gs ps
  | [], [], _, h, _ => h
  | [], _ :: _, _, h, _ => h.elim
  | _ :: _, [], _, h, _ => h.elim
  | n :: ns, d :: ds, ps, ⟨g, t, cs, fuel, p, q, h1, h2, h3, h4, h5, e⟩, hok => by
    obtain ⟨t', e1, ho⟩ := hok n (List.Mem.head _)
    have hr : ∀ m, m ∈ ns → OkName m := fun m hm => hok m (List.Mem.tail _ hm)
    rw [h1] at e1
    simp only [Option.bind_some, h2, Option.some.injEq] at e1
    subst e1
    have hg : g < W.heap.size := by
      unfold World.var? at h3
      simp only [h1, Option.bind_some] at h3
      by_cases hs : g < W.heap.size
      · exact hs
      · rw [show W.heap[g]? = none from Array.getElem?_eq_none (by omega)] at h3
        cases h3
    obtain ⟨fuel', hd'⟩ := Below.trod laidOut ho.1 ho.2 (v := .agg cs) (⟨fuel, by simpa [Value.cells] using h4⟩ : DataW.Trod enc Tryz.prog W 0 (fun _ => true) true t (.agg cs) d p) bel (DataW.trod_lt fuel _ _ _ h4)
    exact ⟨g, t, cs, fuel', p, q, h1, h2, var?_below bel h1 hg h3, by simpa [Value.cells] using hd', vars_stay bel h5 hr, e⟩
theorem len_of {H : Type} {enc : TypeId × Value → H} {W : World} {sp : Nat → Bool} : ∀ {ns : List String} {gs : List (DataW H)} {ps : List MemPlace}, DataW.TrodVars enc Tryz.prog W sp ns gs ps → gs.length = ns.length
  | [], [], _, _ => rfl
  | [], _ :: _, _, h => h.elim
  | _ :: _, [], _, h => h.elim
  | _ :: _, _ :: _, _, ⟨_, _, _, _, _, _, _, _, _, _, h5, _⟩ => congrArg Nat.succ (len_of h5)
theorem six_of {α : Type} : ∀ {l : List α}, l.length = 6 → ∃ a b c d e f, l = [a, b, c, d, e, f]
  | [a, b, c, d, e, f], _ => ⟨a, b, c, d, e, f, rfl⟩
theorem six_ok : ∀ n, n ∈ ["loop.example/g00619/impl.valuesOf", "loop.example/g00619/impl.speedRange", "loop.example/g00619/impl.heightRange", sane.nameN, sane.nameF, sane.nameQ] → OkName n := by
  intro n hn
  simp only [List.mem_cons, List.not_mem_nil, or_false] at hn
  rcases hn with rfl | rfl | rfl | rfl | rfl | rfl
  · exact ⟨76, by kernel_rfl, by kernel_rfl, of_decide_eq_true (by kernel_rfl)⟩
  · exact ⟨72, by kernel_rfl, by kernel_rfl, of_decide_eq_true (by kernel_rfl)⟩
  · exact ⟨72, by kernel_rfl, by kernel_rfl, of_decide_eq_true (by kernel_rfl)⟩
  · exact ⟨147, by kernel_rfl, by kernel_rfl, of_decide_eq_true (by kernel_rfl)⟩
  · exact ⟨147, by kernel_rfl, by kernel_rfl, of_decide_eq_true (by kernel_rfl)⟩
  · exact ⟨147, by kernel_rfl, by kernel_rfl, of_decide_eq_true (by kernel_rfl)⟩
end Go.Proofs.YtdikhdfpcipdbaaGreatDoor.se

