/- Chapter 9: Watched of the program and of the model. -/
import Derived.Test.YtdikhdfpcipdbaaGreatDoorFa
import Derived.Test.YtdikhdfpcipdbaaGreatDoorQuietTail
namespace Go.Proofs.YtdikhdfpcipdbaaGreatDoor.fan
open Go.ChangeShapes Go.WideShapes Go.ChangeAt Go.RowKit
open Go.Proofs.YtdikhdfpcipdbaaGreatDoor.nums Go.Proofs.YtdikhdfpcipdbaaGreatDoor.mem
open Go.Proofs.YtdikhdfpcipdbaaGreatDoor.rd (R okR fresh three set3 fresh1 okR_iff)
open Go.Proofs.YtdikhdfpcipdbaaGreatDoor.bnc (feel inb_iff inb_no)
open Go.Proofs.YtdikhdfpcipdbaaGreatDoor.tab (Ret quiet_w wpList_make_has)
open Go.Proofs.YtdikhdfpcipdbaaGreatDoor.qt
set_option linter.unusedVariables false

/-- The ways a fan, a wish and a reading can be not right. -/
theorem right_no {N wn : Int} {on out : Bool} {r : R} (h : right (N, on, out) wn r = false) : inb N 0 100 = false ∨ (inb N 0 100 = true ∧ inb wn 0 1000 = false) ∨ (inb N 0 100 = true ∧ inb wn 0 1000 = true ∧ okR r = false) := by
  unfold right okF at h
  cases h1 : inb N 0 100 <;> cases h2 : inb wn 0 1000 <;> cases h3 : okR r <;> simp_all

/-- Three cells, in every world of the class. -/
theorem three_rg {w : World} {g : Nat} {t : TypeId} {a b c : Value} (h : Has w g t #[a, b, c]) : (∀ d os, (Go.Sort.grow (redrawn w d) os).cell? ⟨g, 0, none⟩ = some a) ∧ (∀ d os, (Go.Sort.grow (redrawn w d) os).cell? ⟨g, 1, none⟩ = some b) ∧ (∀ d os, (Go.Sort.grow (redrawn w d) os).cell? ⟨g, 2, none⟩ = some c) :=
  ⟨cell_regrown (three h).1, cell_regrown (three h).2.1, cell_regrown (three h).2.2.1⟩
/-- A callee that returns a fan, met in a world of the class. -/
theorem rg_fan {P : Program} {f : FuncId} {args : Array Value} {w : World} {d : Nat} {os : Array Obj} {x : F}
    (h : Calls P f args (Go.Sort.grow (redrawn w d) os) (RetF x (Go.Sort.grow (redrawn w d) os))) : Calls P f args (Go.Sort.grow (redrawn w d) os) fun e w'' => e = .returned (.agg #[.int .i64 x.1, .bool x.2.1, .bool x.2.2]) ∧ ∃ p : Regrown, w'' = Go.Sort.grow (redrawn w p.d) p.os := rg_ret h

/-- The three boxes that Watched lays at its start. -/
abbrev w3 (w : World) (N : Int) (on out : Bool) (v a : Int) (o : Bool) : World := ((w.alloc (Obj.cells #[.int .i64 N, .bool on, .bool out] 189)).alloc (Obj.cells #[.int .i64 v, .int .i64 a, .bool o] 42)).alloc (Obj.cells #[.int .i64 0, .bool false, .bool false] 189)
theorem w3_has (w : World) (N : Int) (on out : Bool) (v a : Int) (o : Bool) : Has (w3 w N on out v a o) w.heap.size 189 #[.int .i64 N, .bool on, .bool out] ∧ Has (w3 w N on out v a o) (w.heap.size + 1) 42 #[.int .i64 v, .int .i64 a, .bool o] ∧ Has (w3 w N on out v a o) (w.heap.size + 1 + 1) 189 #[.int .i64 0, .bool false, .bool false] ∧ w.grownBy (w3 w N on out v a o) none := by
  refine ⟨((Has.fresh _ _ _).alloc _).alloc _, (fresh1 _ _ _ _).alloc _, ?_, gr_alloc (gr_alloc (World.grownBy_alloc _ _ _) _) _⟩
  have := fresh1 (w.alloc (Obj.cells #[.int .i64 N, .bool on, .bool out] 189)) (Obj.cells #[.int .i64 v, .int .i64 a, .bool o] 42) 189 #[.int .i64 0, .bool false, .bool false]
  simpa using this

end Go.Proofs.YtdikhdfpcipdbaaGreatDoor.fan
