/- What came in: facts; read, copied into new memory. -/
import Derived.Test.YtkmbfacgigpkmaaMd2
import Derived.ChangeSame
import Derived.Deep.Strs
import Derived.StillTailTactics
namespace Go.Proofs.Ytkmbfacgigpkmaa.md
open Go.ChangeShapes Go.WideShapes Go.ChangeAt Go.RowKit
open Go.Proofs.Ytkmbfacgigpkmaa.nums Go.Proofs.Ytkmbfacgigpkmaa.mem
open Go.Proofs.Ytkmbfacgigpkmaa.tab (Ret quiet_w)
set_option linter.unusedVariables false

section
variable {H : Type} {enc : TypeId × Value → H} {P : Program} {w : World} {base : Nat} {spare : Nat → Bool} {held : Bool}
/-- The eight fields of a struct are read one by one. -/
theorem trod_struct8 {t : TypeId} {f0 f1 f2 f3 f4 f5 f6 f7 : Field} {fuel : Nat} {cs : List Value} {x : DataW H × List MemPlace} (ht : P.underlying t = some (.struct #[f0, f1, f2, f3, f4, f5, f6, f7])) (h : DataW.trod enc P w base spare held fuel t cs = some x) :
    ∃ y0 y1 y2 y3 y4 y5 y6 y7 n, cs.length = P.cellsOf t ∧
      (DataW.trod enc P w base spare held n f0.type ((cs.drop f0.offset).take (P.cellsOf f0.type)) = some y0 ∧ DataW.trod enc P w base spare held n f1.type ((cs.drop f1.offset).take (P.cellsOf f1.type)) = some y1 ∧
      DataW.trod enc P w base spare held n f2.type ((cs.drop f2.offset).take (P.cellsOf f2.type)) = some y2 ∧ DataW.trod enc P w base spare held n f3.type ((cs.drop f3.offset).take (P.cellsOf f3.type)) = some y3) ∧
      (DataW.trod enc P w base spare held n f4.type ((cs.drop f4.offset).take (P.cellsOf f4.type)) = some y4 ∧ DataW.trod enc P w base spare held n f5.type ((cs.drop f5.offset).take (P.cellsOf f5.type)) = some y5 ∧
      DataW.trod enc P w base spare held n f6.type ((cs.drop f6.offset).take (P.cellsOf f6.type)) = some y6 ∧ DataW.trod enc P w base spare held n f7.type ((cs.drop f7.offset).take (P.cellsOf f7.type)) = some y7) := by
  obtain ⟨xs, n, _, rfl, hl, hlen, hf⟩ := DataW.trod_struct ht h
  match xs, hlen with
  | [y0, y1, y2, y3, y4, y5, y6, y7], _ =>
    exact ⟨y0, y1, y2, y3, y4, y5, y6, y7, n, hl, ⟨by simpa using hf 0 f0 rfl, by simpa using hf 1 f1 rfl, by simpa using hf 2 f2 rfl, by simpa using hf 3 f3 rfl⟩, by simpa using hf 4 f4 rfl, by simpa using hf 5 f5 rfl, by simpa using hf 6 f6 rfl, by simpa using hf 7 f7 rfl⟩
end

set_option maxRecDepth 100000 in
theorem open_facts {H : Type} {enc : TypeId × Value → H} {w : World} {r : Reach} {b0 base : Nat} {spare : Nat → Bool} {held : Bool} {v : Value} {d : DataW H} {p : List MemPlace}
    (hval : Value.okWide Try.prog w r b0 37 v) (h : DataW.Trod enc Try.prog w base spare held 37 v d p) : ∃ f : Fx, v = fac f := by
  obtain ⟨cs, rfl, hs⟩ := okWide_struct Try.underlying37 hval
  obtain ⟨fuel, hf⟩ := h
  have h2 : Try.prog.cellsOf 37 = 8 := by kernel_rfl
  rw [h2] at hs
  obtain ⟨y0, y1, y2, y3, y4, y5, y6, y7, n, hl, ⟨t0, t1, t2, t3⟩, t4, t5, t6, t7⟩ := trod_struct8 Try.underlying37 hf
  obtain ⟨z0, e0, _, _⟩ := DataW.trod_int Try.underlying2 t0
  obtain ⟨z1, e1, _⟩ := DataW.trod_bool Try.underlying4 t1
  obtain ⟨z2, e2, _, _⟩ := DataW.trod_int Try.underlying2 t2
  obtain ⟨z3, e3, _⟩ := DataW.trod_bool Try.underlying4 t3
  obtain ⟨z4, e4, _, _⟩ := DataW.trod_int Try.underlying2 t4
  obtain ⟨z5, e5, _⟩ := DataW.trod_bool Try.underlying4 t5
  obtain ⟨z6, e6, _, _⟩ := DataW.trod_int Try.underlying2 t6
  obtain ⟨z7, e7, _, _⟩ := DataW.trod_int Try.underlying2 t7
  have c1 : Try.prog.cellsOf 2 = 1 := by kernel_rfl
  have c2 : Try.prog.cellsOf 4 = 1 := by kernel_rfl
  obtain ⟨l⟩ := cs
  match l, hs with
  | [x0, x1, x2, x3, x4, x5, x6, x7], _ =>
    simp [Value.cells, c1, c2] at e0 e1 e2 e3 e4 e5 e6 e7
    refine ⟨⟨z0, z1, z2, z3, z4, z5, z6, z7⟩, ?_⟩
    rw [e0, e1, e2, e3, e4, e5, e6, e7]

/-- These facts come back. -/
abbrev RetF (f : Fx) (w : World) (e : Ending) (w' : World) : Prop := Ret (fac f) w e w'

set_option maxHeartbeats 1000000 in
theorem toFacts (f : Fx) (w : World) : Calls Try.prog 15 #[fac f] w (RetF f w) := by
  go_enter Try.func15, Try.ntmps15
  go_wp2
  exact bodyPost_ret (v := fac f) (by simp [results, Try.results15, go_sem]) rfl ⟨rfl, gr_alloc (gr_alloc (World.grownBy_alloc _ _ _) _) _⟩
end Go.Proofs.Ytkmbfacgigpkmaa.md
