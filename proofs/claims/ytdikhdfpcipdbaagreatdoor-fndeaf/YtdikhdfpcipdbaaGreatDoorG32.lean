/- Chapter 18 on plain worlds; worlds in memory. Slewed of the model. The model's BrainOk at a right brain; IsStill; CaseOf. Brains copied by the model, and its new brain. -/
import Derived.Test.YtdikhdfpcipdbaaGreatDoorG31
import Derived.Deep.AppendLies
import Derived.Deep.RegionHeldLaw
import Derived.Test.YtdikhdfpcipdbaaGreatDoorG19
import Derived.Test.YtdikhdfpcipdbaaGreatDoorG14
import Derived.Test.YtdikhdfpcipdbaaGreatDoorG18
import Derived.Test.YtdikhdfpcipdbaaGreatDoorG30
/- Chapter 18 on plain worlds; worlds in memory. -/
namespace Go.Proofs.YtdikhdfpcipdbaaGreatDoor.wd
open Go.ChangeShapes Go.WideShapes Go.ChangeAt Go.RowKit
open Go.Proofs.YtdikhdfpcipdbaaGreatDoor.nums Go.Proofs.YtdikhdfpcipdbaaGreatDoor.mem
open Go.Proofs.YtdikhdfpcipdbaaGreatDoor.br (B P OkB Arg OwnB str)
set_option linter.unusedVariables false

/-- A world, plain: its brain; the height, the rise and the speed of its body; and so on. -/
structure V where
  br : B
  he : Int
  ri : Int
  sp : Int
  bk : Int
  li : Int
  ly : Int
  wa : Int
  ar : Bool
  sq : Int
  lo : Int
abbrev cs23 (x : V) (p : P) : Array Value := #[.int .i64 x.br.md, .int .i64 x.br.tm, .slice p.fa x.br.fa.length p.fc, .int .i64 x.br.ga.1, .bool x.br.ga.2, .slice p.se.a1 x.br.se.sp.length p.se.c1, .slice p.se.a2 x.br.se.he.length p.se.c2, .slice p.se.a3 x.br.se.fa.length p.se.c3, .int .i64 x.br.se.wn, .bool x.br.se.ar, .slice p.se.a4 x.br.se.sq.length p.se.c4, .slice p.ou x.br.ou.length p.oc, str x.br.ta, .int .i64 x.he, .int .i64 x.ri, .int .i64 x.sp, .int .i64 x.bk, .int .i64 x.li, .int .i64 x.ly, .int .i64 x.wa, .bool x.ar, .int .i64 x.sq, .int .i64 x.lo]
abbrev wv (x : V) (p : P) : Value := .agg #[.int .i64 x.br.md, .int .i64 x.br.tm, .slice p.fa x.br.fa.length p.fc, .int .i64 x.br.ga.1, .bool x.br.ga.2, .slice p.se.a1 x.br.se.sp.length p.se.c1, .slice p.se.a2 x.br.se.he.length p.se.c2, .slice p.se.a3 x.br.se.fa.length p.se.c3, .int .i64 x.br.se.wn, .bool x.br.se.ar, .slice p.se.a4 x.br.se.sq.length p.se.c4, .slice p.ou x.br.ou.length p.oc, str x.br.ta, .int .i64 x.he, .int .i64 x.ri, .int .i64 x.sp, .int .i64 x.bk, .int .i64 x.li, .int .i64 x.ly, .int .i64 x.wa, .bool x.ar, .int .i64 x.sq, .int .i64 x.lo]
abbrev z23 : Array Value := #[.int .i64 0, .int .i64 0, .slice none 0 0, .int .i64 0, .bool false, .slice none 0 0, .slice none 0 0, .slice none 0 0, .int .i64 0, .bool false, .slice none 0 0, .slice none 0 0, .string ⟨#[]⟩, .int .i64 0, .int .i64 0, .int .i64 0, .int .i64 0, .int .i64 0, .int .i64 0, .int .i64 0, .bool false, .int .i64 0, .int .i64 0]
/-- A right world. -/
structure OkW (x : V) : Prop where
  br : OkB x.br
  he : 0 ≤ x.he ∧ x.he ≤ 2000
  ri : -50 ≤ x.ri ∧ x.ri ≤ 50
  sp : 0 ≤ x.sp ∧ x.sp ≤ 400
  bk : 0 ≤ x.bk ∧ x.bk ≤ 63
  li : -1 ≤ x.li ∧ x.li ≤ 2
  ly : -1000000 ≤ x.ly ∧ x.ly ≤ 1000000
  wa : 0 ≤ x.wa ∧ x.wa ≤ 2
  sq : 0 ≤ x.sq ∧ x.sq ≤ 99
  lo : 0 ≤ x.lo ∧ x.lo ≤ 100
/-- A right world comes back that owns its memory. -/
def RetW (w : World) (e : Ending) (w' : World) : Prop := ∃ x p, e = .returned (wv x p) ∧ w.grownBy w' none ∧ OwnB w.heap.size w' x.br p ∧ OkW x
theorem cells {w : World} {g : Nat} {t : TypeId} {x0 x1 x2 x3 x4 x5 x6 x7 x8 x9 x10 x11 x12 x13 x14 x15 x16 x17 x18 x19 x20 x21 x22 : Value} (H : Has w g t #[x0, x1, x2, x3, x4, x5, x6, x7, x8, x9, x10, x11, x12, x13, x14, x15, x16, x17, x18, x19, x20, x21, x22]) :
    w.cell? ⟨g, 0, none⟩ = some x0 ∧ w.cell? ⟨g, 1, none⟩ = some x1 ∧ w.cell? ⟨g, 2, none⟩ = some x2 ∧ w.cell? ⟨g, 3, none⟩ = some x3 ∧ w.cell? ⟨g, 4, none⟩ = some x4 ∧ w.cell? ⟨g, 5, none⟩ = some x5 ∧ w.cell? ⟨g, 6, none⟩ = some x6 ∧ w.cell? ⟨g, 7, none⟩ = some x7 ∧ w.cell? ⟨g, 8, none⟩ = some x8 ∧ w.cell? ⟨g, 9, none⟩ = some x9 ∧ w.cell? ⟨g, 10, none⟩ = some x10 ∧ w.cell? ⟨g, 11, none⟩ = some x11 ∧ w.cell? ⟨g, 12, none⟩ = some x12 ∧ w.cell? ⟨g, 13, none⟩ = some x13 ∧ w.cell? ⟨g, 14, none⟩ = some x14 ∧ w.cell? ⟨g, 15, none⟩ = some x15 ∧ w.cell? ⟨g, 16, none⟩ = some x16 ∧ w.cell? ⟨g, 17, none⟩ = some x17 ∧ w.cell? ⟨g, 18, none⟩ = some x18 ∧ w.cell? ⟨g, 19, none⟩ = some x19 ∧ w.cell? ⟨g, 20, none⟩ = some x20 ∧ w.cell? ⟨g, 21, none⟩ = some x21 ∧ w.cell? ⟨g, 22, none⟩ = some x22 :=
  ⟨H.cell 0, H.cell 1, H.cell 2, H.cell 3, H.cell 4, H.cell 5, H.cell 6, H.cell 7, H.cell 8, H.cell 9, H.cell 10, H.cell 11, H.cell 12, H.cell 13, H.cell 14, H.cell 15, H.cell 16, H.cell 17, H.cell 18, H.cell 19, H.cell 20, H.cell 21, H.cell 22⟩
theorem put0 {w : World} {g : Nat} {t : TypeId} {x0 x1 x2 x3 x4 x5 x6 x7 x8 x9 x10 x11 x12 x13 x14 x15 x16 x17 x18 x19 x20 x21 x22 : Value} (H : Has w g t #[x0, x1, x2, x3, x4, x5, x6, x7, x8, x9, x10, x11, x12, x13, x14, x15, x16, x17, x18, x19, x20, x21, x22]) (u : Value) : Has (w.setCell ⟨g, 0, none⟩ u) g t #[u, x1, x2, x3, x4, x5, x6, x7, x8, x9, x10, x11, x12, x13, x14, x15, x16, x17, x18, x19, x20, x21, x22] := H.put 0 u rfl
theorem put1 {w : World} {g : Nat} {t : TypeId} {x0 x1 x2 x3 x4 x5 x6 x7 x8 x9 x10 x11 x12 x13 x14 x15 x16 x17 x18 x19 x20 x21 x22 : Value} (H : Has w g t #[x0, x1, x2, x3, x4, x5, x6, x7, x8, x9, x10, x11, x12, x13, x14, x15, x16, x17, x18, x19, x20, x21, x22]) (u : Value) : Has (w.setCell ⟨g, 1, none⟩ u) g t #[x0, u, x2, x3, x4, x5, x6, x7, x8, x9, x10, x11, x12, x13, x14, x15, x16, x17, x18, x19, x20, x21, x22] := H.put 1 u rfl
theorem put2 {w : World} {g : Nat} {t : TypeId} {x0 x1 x2 x3 x4 x5 x6 x7 x8 x9 x10 x11 x12 x13 x14 x15 x16 x17 x18 x19 x20 x21 x22 : Value} (H : Has w g t #[x0, x1, x2, x3, x4, x5, x6, x7, x8, x9, x10, x11, x12, x13, x14, x15, x16, x17, x18, x19, x20, x21, x22]) (u : Value) : Has (w.setCell ⟨g, 2, none⟩ u) g t #[x0, x1, u, x3, x4, x5, x6, x7, x8, x9, x10, x11, x12, x13, x14, x15, x16, x17, x18, x19, x20, x21, x22] := H.put 2 u rfl
theorem put3 {w : World} {g : Nat} {t : TypeId} {x0 x1 x2 x3 x4 x5 x6 x7 x8 x9 x10 x11 x12 x13 x14 x15 x16 x17 x18 x19 x20 x21 x22 : Value} (H : Has w g t #[x0, x1, x2, x3, x4, x5, x6, x7, x8, x9, x10, x11, x12, x13, x14, x15, x16, x17, x18, x19, x20, x21, x22]) (u : Value) : Has (w.setCell ⟨g, 3, none⟩ u) g t #[x0, x1, x2, u, x4, x5, x6, x7, x8, x9, x10, x11, x12, x13, x14, x15, x16, x17, x18, x19, x20, x21, x22] := H.put 3 u rfl
theorem put4 {w : World} {g : Nat} {t : TypeId} {x0 x1 x2 x3 x4 x5 x6 x7 x8 x9 x10 x11 x12 x13 x14 x15 x16 x17 x18 x19 x20 x21 x22 : Value} (H : Has w g t #[x0, x1, x2, x3, x4, x5, x6, x7, x8, x9, x10, x11, x12, x13, x14, x15, x16, x17, x18, x19, x20, x21, x22]) (u : Value) : Has (w.setCell ⟨g, 4, none⟩ u) g t #[x0, x1, x2, x3, u, x5, x6, x7, x8, x9, x10, x11, x12, x13, x14, x15, x16, x17, x18, x19, x20, x21, x22] := H.put 4 u rfl
theorem put5 {w : World} {g : Nat} {t : TypeId} {x0 x1 x2 x3 x4 x5 x6 x7 x8 x9 x10 x11 x12 x13 x14 x15 x16 x17 x18 x19 x20 x21 x22 : Value} (H : Has w g t #[x0, x1, x2, x3, x4, x5, x6, x7, x8, x9, x10, x11, x12, x13, x14, x15, x16, x17, x18, x19, x20, x21, x22]) (u : Value) : Has (w.setCell ⟨g, 5, none⟩ u) g t #[x0, x1, x2, x3, x4, u, x6, x7, x8, x9, x10, x11, x12, x13, x14, x15, x16, x17, x18, x19, x20, x21, x22] := H.put 5 u rfl
theorem put6 {w : World} {g : Nat} {t : TypeId} {x0 x1 x2 x3 x4 x5 x6 x7 x8 x9 x10 x11 x12 x13 x14 x15 x16 x17 x18 x19 x20 x21 x22 : Value} (H : Has w g t #[x0, x1, x2, x3, x4, x5, x6, x7, x8, x9, x10, x11, x12, x13, x14, x15, x16, x17, x18, x19, x20, x21, x22]) (u : Value) : Has (w.setCell ⟨g, 6, none⟩ u) g t #[x0, x1, x2, x3, x4, x5, u, x7, x8, x9, x10, x11, x12, x13, x14, x15, x16, x17, x18, x19, x20, x21, x22] := H.put 6 u rfl
theorem put7 {w : World} {g : Nat} {t : TypeId} {x0 x1 x2 x3 x4 x5 x6 x7 x8 x9 x10 x11 x12 x13 x14 x15 x16 x17 x18 x19 x20 x21 x22 : Value} (H : Has w g t #[x0, x1, x2, x3, x4, x5, x6, x7, x8, x9, x10, x11, x12, x13, x14, x15, x16, x17, x18, x19, x20, x21, x22]) (u : Value) : Has (w.setCell ⟨g, 7, none⟩ u) g t #[x0, x1, x2, x3, x4, x5, x6, u, x8, x9, x10, x11, x12, x13, x14, x15, x16, x17, x18, x19, x20, x21, x22] := H.put 7 u rfl
theorem put8 {w : World} {g : Nat} {t : TypeId} {x0 x1 x2 x3 x4 x5 x6 x7 x8 x9 x10 x11 x12 x13 x14 x15 x16 x17 x18 x19 x20 x21 x22 : Value} (H : Has w g t #[x0, x1, x2, x3, x4, x5, x6, x7, x8, x9, x10, x11, x12, x13, x14, x15, x16, x17, x18, x19, x20, x21, x22]) (u : Value) : Has (w.setCell ⟨g, 8, none⟩ u) g t #[x0, x1, x2, x3, x4, x5, x6, x7, u, x9, x10, x11, x12, x13, x14, x15, x16, x17, x18, x19, x20, x21, x22] := H.put 8 u rfl
theorem put9 {w : World} {g : Nat} {t : TypeId} {x0 x1 x2 x3 x4 x5 x6 x7 x8 x9 x10 x11 x12 x13 x14 x15 x16 x17 x18 x19 x20 x21 x22 : Value} (H : Has w g t #[x0, x1, x2, x3, x4, x5, x6, x7, x8, x9, x10, x11, x12, x13, x14, x15, x16, x17, x18, x19, x20, x21, x22]) (u : Value) : Has (w.setCell ⟨g, 9, none⟩ u) g t #[x0, x1, x2, x3, x4, x5, x6, x7, x8, u, x10, x11, x12, x13, x14, x15, x16, x17, x18, x19, x20, x21, x22] := H.put 9 u rfl
theorem put10 {w : World} {g : Nat} {t : TypeId} {x0 x1 x2 x3 x4 x5 x6 x7 x8 x9 x10 x11 x12 x13 x14 x15 x16 x17 x18 x19 x20 x21 x22 : Value} (H : Has w g t #[x0, x1, x2, x3, x4, x5, x6, x7, x8, x9, x10, x11, x12, x13, x14, x15, x16, x17, x18, x19, x20, x21, x22]) (u : Value) : Has (w.setCell ⟨g, 10, none⟩ u) g t #[x0, x1, x2, x3, x4, x5, x6, x7, x8, x9, u, x11, x12, x13, x14, x15, x16, x17, x18, x19, x20, x21, x22] := H.put 10 u rfl
theorem put11 {w : World} {g : Nat} {t : TypeId} {x0 x1 x2 x3 x4 x5 x6 x7 x8 x9 x10 x11 x12 x13 x14 x15 x16 x17 x18 x19 x20 x21 x22 : Value} (H : Has w g t #[x0, x1, x2, x3, x4, x5, x6, x7, x8, x9, x10, x11, x12, x13, x14, x15, x16, x17, x18, x19, x20, x21, x22]) (u : Value) : Has (w.setCell ⟨g, 11, none⟩ u) g t #[x0, x1, x2, x3, x4, x5, x6, x7, x8, x9, x10, u, x12, x13, x14, x15, x16, x17, x18, x19, x20, x21, x22] := H.put 11 u rfl
theorem put12 {w : World} {g : Nat} {t : TypeId} {x0 x1 x2 x3 x4 x5 x6 x7 x8 x9 x10 x11 x12 x13 x14 x15 x16 x17 x18 x19 x20 x21 x22 : Value} (H : Has w g t #[x0, x1, x2, x3, x4, x5, x6, x7, x8, x9, x10, x11, x12, x13, x14, x15, x16, x17, x18, x19, x20, x21, x22]) (u : Value) : Has (w.setCell ⟨g, 12, none⟩ u) g t #[x0, x1, x2, x3, x4, x5, x6, x7, x8, x9, x10, x11, u, x13, x14, x15, x16, x17, x18, x19, x20, x21, x22] := H.put 12 u rfl
theorem put13 {w : World} {g : Nat} {t : TypeId} {x0 x1 x2 x3 x4 x5 x6 x7 x8 x9 x10 x11 x12 x13 x14 x15 x16 x17 x18 x19 x20 x21 x22 : Value} (H : Has w g t #[x0, x1, x2, x3, x4, x5, x6, x7, x8, x9, x10, x11, x12, x13, x14, x15, x16, x17, x18, x19, x20, x21, x22]) (u : Value) : Has (w.setCell ⟨g, 13, none⟩ u) g t #[x0, x1, x2, x3, x4, x5, x6, x7, x8, x9, x10, x11, x12, u, x14, x15, x16, x17, x18, x19, x20, x21, x22] := H.put 13 u rfl
theorem put14 {w : World} {g : Nat} {t : TypeId} {x0 x1 x2 x3 x4 x5 x6 x7 x8 x9 x10 x11 x12 x13 x14 x15 x16 x17 x18 x19 x20 x21 x22 : Value} (H : Has w g t #[x0, x1, x2, x3, x4, x5, x6, x7, x8, x9, x10, x11, x12, x13, x14, x15, x16, x17, x18, x19, x20, x21, x22]) (u : Value) : Has (w.setCell ⟨g, 14, none⟩ u) g t #[x0, x1, x2, x3, x4, x5, x6, x7, x8, x9, x10, x11, x12, x13, u, x15, x16, x17, x18, x19, x20, x21, x22] := H.put 14 u rfl
theorem put15 {w : World} {g : Nat} {t : TypeId} {x0 x1 x2 x3 x4 x5 x6 x7 x8 x9 x10 x11 x12 x13 x14 x15 x16 x17 x18 x19 x20 x21 x22 : Value} (H : Has w g t #[x0, x1, x2, x3, x4, x5, x6, x7, x8, x9, x10, x11, x12, x13, x14, x15, x16, x17, x18, x19, x20, x21, x22]) (u : Value) : Has (w.setCell ⟨g, 15, none⟩ u) g t #[x0, x1, x2, x3, x4, x5, x6, x7, x8, x9, x10, x11, x12, x13, x14, u, x16, x17, x18, x19, x20, x21, x22] := H.put 15 u rfl
theorem put16 {w : World} {g : Nat} {t : TypeId} {x0 x1 x2 x3 x4 x5 x6 x7 x8 x9 x10 x11 x12 x13 x14 x15 x16 x17 x18 x19 x20 x21 x22 : Value} (H : Has w g t #[x0, x1, x2, x3, x4, x5, x6, x7, x8, x9, x10, x11, x12, x13, x14, x15, x16, x17, x18, x19, x20, x21, x22]) (u : Value) : Has (w.setCell ⟨g, 16, none⟩ u) g t #[x0, x1, x2, x3, x4, x5, x6, x7, x8, x9, x10, x11, x12, x13, x14, x15, u, x17, x18, x19, x20, x21, x22] := H.put 16 u rfl
theorem put17 {w : World} {g : Nat} {t : TypeId} {x0 x1 x2 x3 x4 x5 x6 x7 x8 x9 x10 x11 x12 x13 x14 x15 x16 x17 x18 x19 x20 x21 x22 : Value} (H : Has w g t #[x0, x1, x2, x3, x4, x5, x6, x7, x8, x9, x10, x11, x12, x13, x14, x15, x16, x17, x18, x19, x20, x21, x22]) (u : Value) : Has (w.setCell ⟨g, 17, none⟩ u) g t #[x0, x1, x2, x3, x4, x5, x6, x7, x8, x9, x10, x11, x12, x13, x14, x15, x16, u, x18, x19, x20, x21, x22] := H.put 17 u rfl
theorem put18 {w : World} {g : Nat} {t : TypeId} {x0 x1 x2 x3 x4 x5 x6 x7 x8 x9 x10 x11 x12 x13 x14 x15 x16 x17 x18 x19 x20 x21 x22 : Value} (H : Has w g t #[x0, x1, x2, x3, x4, x5, x6, x7, x8, x9, x10, x11, x12, x13, x14, x15, x16, x17, x18, x19, x20, x21, x22]) (u : Value) : Has (w.setCell ⟨g, 18, none⟩ u) g t #[x0, x1, x2, x3, x4, x5, x6, x7, x8, x9, x10, x11, x12, x13, x14, x15, x16, x17, u, x19, x20, x21, x22] := H.put 18 u rfl
theorem put19 {w : World} {g : Nat} {t : TypeId} {x0 x1 x2 x3 x4 x5 x6 x7 x8 x9 x10 x11 x12 x13 x14 x15 x16 x17 x18 x19 x20 x21 x22 : Value} (H : Has w g t #[x0, x1, x2, x3, x4, x5, x6, x7, x8, x9, x10, x11, x12, x13, x14, x15, x16, x17, x18, x19, x20, x21, x22]) (u : Value) : Has (w.setCell ⟨g, 19, none⟩ u) g t #[x0, x1, x2, x3, x4, x5, x6, x7, x8, x9, x10, x11, x12, x13, x14, x15, x16, x17, x18, u, x20, x21, x22] := H.put 19 u rfl
theorem put20 {w : World} {g : Nat} {t : TypeId} {x0 x1 x2 x3 x4 x5 x6 x7 x8 x9 x10 x11 x12 x13 x14 x15 x16 x17 x18 x19 x20 x21 x22 : Value} (H : Has w g t #[x0, x1, x2, x3, x4, x5, x6, x7, x8, x9, x10, x11, x12, x13, x14, x15, x16, x17, x18, x19, x20, x21, x22]) (u : Value) : Has (w.setCell ⟨g, 20, none⟩ u) g t #[x0, x1, x2, x3, x4, x5, x6, x7, x8, x9, x10, x11, x12, x13, x14, x15, x16, x17, x18, x19, u, x21, x22] := H.put 20 u rfl
theorem put21 {w : World} {g : Nat} {t : TypeId} {x0 x1 x2 x3 x4 x5 x6 x7 x8 x9 x10 x11 x12 x13 x14 x15 x16 x17 x18 x19 x20 x21 x22 : Value} (H : Has w g t #[x0, x1, x2, x3, x4, x5, x6, x7, x8, x9, x10, x11, x12, x13, x14, x15, x16, x17, x18, x19, x20, x21, x22]) (u : Value) : Has (w.setCell ⟨g, 21, none⟩ u) g t #[x0, x1, x2, x3, x4, x5, x6, x7, x8, x9, x10, x11, x12, x13, x14, x15, x16, x17, x18, x19, x20, u, x22] := H.put 21 u rfl
theorem put22 {w : World} {g : Nat} {t : TypeId} {x0 x1 x2 x3 x4 x5 x6 x7 x8 x9 x10 x11 x12 x13 x14 x15 x16 x17 x18 x19 x20 x21 x22 : Value} (H : Has w g t #[x0, x1, x2, x3, x4, x5, x6, x7, x8, x9, x10, x11, x12, x13, x14, x15, x16, x17, x18, x19, x20, x21, x22]) (u : Value) : Has (w.setCell ⟨g, 22, none⟩ u) g t #[x0, x1, x2, x3, x4, x5, x6, x7, x8, x9, x10, x11, x12, x13, x14, x15, x16, x17, x18, x19, x20, x21, u] := H.put 22 u rfl
/-- The world behind a whole store into a box. -/
abbrev lay23 (w : World) (g : Nat) (u0 u1 u2 u3 u4 u5 u6 u7 u8 u9 u10 u11 u12 u13 u14 u15 u16 u17 u18 u19 u20 u21 u22 : Value) : World := ((((((((((((((((((((((w.setCell ⟨g, 0, none⟩ u0).setCell ⟨g, 1, none⟩ u1).setCell ⟨g, 2, none⟩ u2).setCell ⟨g, 3, none⟩ u3).setCell ⟨g, 4, none⟩ u4).setCell ⟨g, 5, none⟩ u5).setCell ⟨g, 6, none⟩ u6).setCell ⟨g, 7, none⟩ u7).setCell ⟨g, 8, none⟩ u8).setCell ⟨g, 9, none⟩ u9).setCell ⟨g, 10, none⟩ u10).setCell ⟨g, 11, none⟩ u11).setCell ⟨g, 12, none⟩ u12).setCell ⟨g, 13, none⟩ u13).setCell ⟨g, 14, none⟩ u14).setCell ⟨g, 15, none⟩ u15).setCell ⟨g, 16, none⟩ u16).setCell ⟨g, 17, none⟩ u17).setCell ⟨g, 18, none⟩ u18).setCell ⟨g, 19, none⟩ u19).setCell ⟨g, 20, none⟩ u20).setCell ⟨g, 21, none⟩ u21).setCell ⟨g, 22, none⟩ u22
theorem set_lay {w : World} {g : Nat} {t : TypeId} {x0 x1 x2 x3 x4 x5 x6 x7 x8 x9 x10 x11 x12 x13 x14 x15 x16 x17 x18 x19 x20 x21 x22 : Value} (H : Has w g t #[x0, x1, x2, x3, x4, x5, x6, x7, x8, x9, x10, x11, x12, x13, x14, x15, x16, x17, x18, x19, x20, x21, x22]) (u0 u1 u2 u3 u4 u5 u6 u7 u8 u9 u10 u11 u12 u13 u14 u15 u16 u17 u18 u19 u20 u21 u22 : Value) :
    Has (lay23 w g u0 u1 u2 u3 u4 u5 u6 u7 u8 u9 u10 u11 u12 u13 u14 u15 u16 u17 u18 u19 u20 u21 u22) g t #[u0, u1, u2, u3, u4, u5, u6, u7, u8, u9, u10, u11, u12, u13, u14, u15, u16, u17, u18, u19, u20, u21, u22] :=
  put22 (put21 (put20 (put19 (put18 (put17 (put16 (put15 (put14 (put13 (put12 (put11 (put10 (put9 (put8 (put7 (put6 (put5 (put4 (put3 (put2 (put1 (put0 H u0) u1) u2) u3) u4) u5) u6) u7) u8) u9) u10) u11) u12) u13) u14) u15) u16) u17) u18) u19) u20) u21) u22
theorem gr_lay {a w : World} {g : Nat} (h : a.grownBy w none) (hg : a.heap.size ≤ g) (u0 u1 u2 u3 u4 u5 u6 u7 u8 u9 u10 u11 u12 u13 u14 u15 u16 u17 u18 u19 u20 u21 u22 : Value) : a.grownBy (lay23 w g u0 u1 u2 u3 u4 u5 u6 u7 u8 u9 u10 u11 u12 u13 u14 u15 u16 u17 u18 u19 u20 u21 u22) none :=
  gr_new (gr_new (gr_new (gr_new (gr_new (gr_new (gr_new (gr_new (gr_new (gr_new (gr_new (gr_new (gr_new (gr_new (gr_new (gr_new (gr_new (gr_new (gr_new (gr_new (gr_new (gr_new (gr_new h hg _ _) hg _ _) hg _ _) hg _ _) hg _ _) hg _ _) hg _ _) hg _ _) hg _ _) hg _ _) hg _ _) hg _ _) hg _ _) hg _ _) hg _ _) hg _ _) hg _ _) hg _ _) hg _ _) hg _ _) hg _ _) hg _ _) hg _ _
theorem chg_lay (w : World) (g : Nat) (u0 u1 u2 u3 u4 u5 u6 u7 u8 u9 u10 u11 u12 u13 u14 u15 u16 u17 u18 u19 u20 u21 u22 : Value) : w.grownBy (lay23 w g u0 u1 u2 u3 u4 u5 u6 u7 u8 u9 u10 u11 u12 u13 u14 u15 u16 u17 u18 u19 u20 u21 u22) (some g) :=
  gr_set (gr_set (gr_set (gr_set (gr_set (gr_set (gr_set (gr_set (gr_set (gr_set (gr_set (gr_set (gr_set (gr_set (gr_set (gr_set (gr_set (gr_set (gr_set (gr_set (gr_set (gr_set (gr_set (gr_refl w (some g)) _ _) _ _) _ _) _ _) _ _) _ _) _ _) _ _) _ _) _ _) _ _) _ _) _ _) _ _) _ _) _ _) _ _) _ _) _ _) _ _) _ _) _ _) _ _
theorem other_lay {w : World} {g b : Nat} {t : TypeId} {cs : Array Value} (H : Has w b t cs) (hn : b ≠ g) (u0 u1 u2 u3 u4 u5 u6 u7 u8 u9 u10 u11 u12 u13 u14 u15 u16 u17 u18 u19 u20 u21 u22 : Value) : Has (lay23 w g u0 u1 u2 u3 u4 u5 u6 u7 u8 u9 u10 u11 u12 u13 u14 u15 u16 u17 u18 u19 u20 u21 u22) b t cs := H.grown (chg_lay w g u0 u1 u2 u3 u4 u5 u6 u7 u8 u9 u10 u11 u12 u13 u14 u15 u16 u17 u18 u19 u20 u21 u22) (by simpa using hn)
theorem set_brain {w : World} {g : Nat} {t : TypeId} {x0 x1 x2 x3 x4 x5 x6 x7 x8 x9 x10 x11 x12 x13 x14 x15 x16 x17 x18 x19 x20 x21 x22 : Value} (H : Has w g t #[x0, x1, x2, x3, x4, x5, x6, x7, x8, x9, x10, x11, x12, x13, x14, x15, x16, x17, x18, x19, x20, x21, x22]) (u0 u1 u2 u3 u4 u5 u6 u7 u8 u9 u10 u11 u12 : Value) :
    Has (br.lay13 w g u0 u1 u2 u3 u4 u5 u6 u7 u8 u9 u10 u11 u12) g t #[u0, u1, u2, u3, u4, u5, u6, u7, u8, u9, u10, u11, u12, x13, x14, x15, x16, x17, x18, x19, x20, x21, x22] :=
  put12 (put11 (put10 (put9 (put8 (put7 (put6 (put5 (put4 (put3 (put2 (put1 (put0 H u0) u1) u2) u3) u4) u5) u6) u7) u8) u9) u10) u11) u12
end Go.Proofs.YtdikhdfpcipdbaaGreatDoor.wd

/- Slewed of the model. -/
namespace Go.Proofs.YtdikhdfpcipdbaaGreatDoor.bl
open Go.ChangeShapes Go.WideShapes Go.ChangeAt Go.RowKit
open Go.Proofs.YtdikhdfpcipdbaaGreatDoor.nums Go.Proofs.YtdikhdfpcipdbaaGreatDoor.mem
open Go.Proofs.YtdikhdfpcipdbaaGreatDoor.qt (region_below_tail rg_ret rg_same gr_rg)
open Go.Proofs.YtdikhdfpcipdbaaGreatDoor.il (nth Ints vals vals_snoc RetI IRow blk blk_some blk_nil infoInt gr_own row_base)
set_option linter.unusedVariables false

set_option maxHeartbeats 1000000 in
theorem specAll (a : Option Addr) (cap : Nat) (l : List Int) (n : Int) (w : World) (h : Ints w a l) (hl : l.length ≤ maxLen) :
    Calls Tryz.prog 53 #[.slice a l.length cap, .int .i64 n, .int .i64 0, .int .i64 1000] w fun e w' => e = .returned (.bool (decide ((l.length : Int) = n) && l.all okO)) ∧ w = w' := by
  have hm : l.length ≤ 9223372036854775807 := by unfold maxLen at hl; exact hl
  clear hl
  go_enter Tryz.func53, Tryz.ntmps53
  go_wp2_with fail
  go_loopw [9] (fun i wr => wr = w ∧ ∃ k : Nat, k ≤ l.length ∧ i = .int .i64 k ∧ Hid (∀ j, j < k → okO (nth l j) = true)) (fun i _ => l.length - (intOf i).toNat)
  case atStart => exact ⟨rfl, 0, Nat.zero_le _, rfl, Lib.hid (fun j hj => by omega)⟩
  case round =>
    obtain ⟨rfl, k, hk, rfl, hs⟩ := hrel
    by_cases hlt : k < l.length
    · obtain ⟨x, rfl, hb, cx⟩ := h k hlt
      cases hz : okO (nth l k)
      · have hz' : inb (nth l k) 0 1000 = false := hz
        go_wp2_with fail
        refine (fix.specIn _ _ _ _).mono ?_
        rintro e w' ⟨rfl, rfl⟩
        go_wp2_with fail
        go_ret
        exact ⟨by rw [all_not l k hlt hz]; simp, rfl⟩
      · have hz' : inb (nth l k) 0 1000 = true := hz
        go_wp2_with fail
        refine (fix.specIn _ _ _ _).mono ?_
        rintro e w' ⟨rfl, rfl⟩
        go_wp2_with fail
        go_roundw
        case rel => exact ⟨trivial, k + 1, by omega, by go_num, Lib.hid (fun j hj => by
          by_cases e : j = k
          · subst e; exact hz
          · exact hs.out j (by omega))⟩
        case measure => simp [intOf]; omega
    · obtain rfl : k = l.length := by omega
      go_wp2_with fail
      go_ret
      refine ⟨?_, rfl⟩
      rw [all_of hs.out, Bool.and_true]
      first | rfl | simp

set_option maxRecDepth 100000 in
set_option maxHeartbeats 4000000 in
theorem specSlewed (a b : Option Addr) (c d : Nat) (x y : List Int) (s : Int) (w : World) (hx : Ints w a x) (hy : Ints w b y) (hl : x.length ≤ maxLen) (hm : y.length ≤ maxLen) (hs1 : -9223372036854775808 ≤ s) (hs2 : s ≤ 9223372036854775807) :
    Calls Tryz.prog 164 #[.slice a x.length c, .slice b y.length d, .int .i64 s] w (RetI (slew x y s) w) := by
  obtain ⟨i0, hi, hz0, hz1, hz2⟩ := info_parts infoInt
  have hl' : x.length ≤ 9223372036854775807 := by unfold maxLen at hl; exact hl
  have hm' : y.length ≤ 9223372036854775807 := by unfold maxLen at hm; exact hm
  have hno := fun h => slew_no (x := x) (y := y) h s
  have hyes := fun h => slew_yes (x := x) (y := y) h s
  have g0 : w.grownBy (w.alloc (Obj.cells #[] 2)) none := World.grownBy_alloc _ _ _
  have o0 := World.ownsRow_made (base := w.heap.size) (e := 2) (size := 1) w #[] 0 (Nat.le_refl _) (Nat.zero_le _) rfl
  by_cases h7 : x.length ≤ 7
  · have hd7 : decide (7 < (x.length : Int)) = false := by simp; omega
    have cX := specAll a c x (x.length : Int)
    have cY := specAll b d y (x.length : Int)
    rw [decide_eq_true rfl, Bool.true_and] at cX
    cases h1 : x.all okO
    · rw [h1] at cX
      rw [hno (by unfold okAB okA; rw [h1]; simp)]
      clear hno hyes h1 cY
      go_enter Tryz.func164, Tryz.ntmps164
      go_wp2_with fail
      refine (cX _ (hx.kept g0) hl).mono ?_
      rintro e w' ⟨rfl, rfl⟩
      go_wp2_with fail
      go_ret
      exact ⟨_, 0, rfl, g0, Or.inl rfl, fun b e => by rw [blk_nil] at e; cases e⟩
    · rw [h1] at cX
      cases h2 : (decide ((y.length : Int) = (x.length : Int)) && y.all okO)
      · rw [h2] at cY
        have hab : okAB x y = false := by
          unfold okAB okA
          rw [h1]
          cases h3 : y.all okO
          · simp
          · rw [h3, Bool.and_true, decide_eq_false_iff_not] at h2
            have : decide (x.length = y.length) = false := by simp; omega
            rw [this]; rfl
        rw [hno hab]
        clear hno hyes h1 h2 hab
        go_enter Tryz.func164, Tryz.ntmps164
        go_wp2_with fail
        refine (cX _ (hx.kept g0) hl).mono ?_
        rintro e w' ⟨rfl, rfl⟩
        go_wp2_with fail
        refine (cY _ (hy.kept g0) hm).mono ?_
        rintro e w' ⟨rfl, rfl⟩
        go_wp2_with fail
        go_ret
        exact ⟨_, 0, rfl, g0, Or.inl rfl, fun b e => by rw [blk_nil] at e; cases e⟩
      · rw [h2] at cY
        have hxy : x.length = y.length := by simp only [Bool.and_eq_true, decide_eq_true_eq] at h2; omega
        have h3 : y.all okO = true := by simp only [Bool.and_eq_true] at h2; exact h2.2
        have HY := Lib.hid (hyes (by unfold okAB okA; rw [h1, h3]; simp [hxy]; omega))
        have HXY := Lib.hid hxy
        clear hno hyes h1 h2 h3 hxy
        go_enter Tryz.func164, Tryz.ntmps164
        go_wp2_with fail
        refine (cX _ (hx.kept g0) hl).mono ?_
        rintro e w' ⟨rfl, rfl⟩
        go_wp2_with fail
        refine (cY _ (hy.kept g0) hm).mono ?_
        rintro e w' ⟨rfl, rfl⟩
        go_wp2_with fail
        clear cX cY hd7
        go_loopw [7, 9] (fun t i wr => ∃ (k cp : Nat) (g : Option Addr) (L : List Int), k ≤ x.length ∧ i = .int .i64 k ∧ t = .slice g L.length cp ∧ Hid (L = slewTo x y s k) ∧ L.length ≤ 7 ∧ IRow wr w.heap.size (.slice g L.length cp) L ∧ w.grownBy wr none) (fun _ i _ => x.length - (intOf i).toNat)
        case atStart => exact ⟨0, _, _, [], Nat.zero_le _, rfl, rfl, Lib.hid rfl, by simp, o0, g0⟩
        case round =>
          clear o0 g0
          obtain ⟨k, cp, g, L, hk, rfl, rfl, hL, hL7, hown, hg⟩ := hrel
          by_cases hlt : k < x.length
          · have hky : k < y.length := by have := HXY.out; omega
            obtain ⟨z, rfl, hb, cz⟩ := (hy.kept hg) k hky
            have hL6 : L.length ≤ 6 := by rw [hL.out, to_len]; omega
            have hsz := hg.size
            have hbase := row_base hown
            have hto := to_succ x y s k
            by_cases h0 : nth y k = 0
            · rw [h0, one_zero] at hto
              rw [h0] at cz
              have HT := Lib.hid hto
              clear hto h0
              go_wp2_with (at_builtin; refine wpList_append_lies _ rfl _ _ _ rfl w.heap.size 2 i0 _ 1 8 Tryz.underlying25 hi hz0 hz1 hz2 rfl (by omega) (.slice g L.length cp) L.length _ rfl (hown.alloc _) ⟨wr.heap.size, 0, none⟩ 1 1 [.int .i64 0] rfl rfl (World.news_of_block (cs := #[.int .i64 0]) (t := 2) (fr := (0, 0)) (heap_alloc_new wr _)) (by simp [Value.oneCell']) (by omega) (by unfold maxLen; omega) (by omega) (by simp; omega) (wr.heap.size + 1) (by simp) ?_; intro gg cap1 w4 hown3 hgrow hat hlt3)
              have hg03 : w.grownBy w4 none := gr_own (gr_alloc hg _) hgrow hbase
              clear hgrow hat hlt3
              go_wp2_with fail
              go_roundw
              case rel => exact ⟨k + 1, cap1, some ⟨gg, 0, none⟩, L ++ [0], by omega, by go_num, by simp, Lib.hid (by rw [HT.out, hL.out]), by simp; omega, by unfold IRow; rw [vals_snoc]; simpa using hown3, hg03⟩
              case measure => simp [intOf]; omega
            · rw [one_else _ _ h0] at hto
              have he : (nth y k == 0) = false := by simpa using h0
              obtain ⟨z2, rfl, hb2, cz2⟩ := (hx.kept hg) k hlt
              have cT := fun W => fix.specToward (nth x k) (nth y k) s W hs1 hs2
              obtain ⟨v, hv⟩ : ∃ v, kToward (nth x k) (nth y k) s = v := ⟨_, rfl⟩
              rw [hv] at hto cT
              have HT := Lib.hid hto
              clear hto h0 hv
              go_upto_region 10 with fail
              have HA := hown.alloc (Obj.cells #[.int .i64 v] 2)
              have gA := gr_alloc hg (Obj.cells #[.int .i64 v] 2)
              have hbw : z.block < w.heap.size := by obtain ⟨z', e, h', _⟩ := hy k hky; injection e with e; subst e; exact h'
              have hbw2 : z2.block < w.heap.size := by obtain ⟨z', e, h', _⟩ := hx k hlt; injection e with e; subst e; exact h'
              have cA : (wr.alloc (Obj.cells #[.int .i64 v] 2)).cell? (z.add k) = some (.int .i64 (nth y k)) := (World.cell?_of_block (Below.heap_alloc wr _ _ (by rw [block_add]; exact hb))).trans cz
              have cB : (wr.alloc (Obj.cells #[.int .i64 v] 2)).cell? (z2.add k) = some (.int .i64 (nth x k)) := (World.cell?_of_block (Below.heap_alloc wr _ _ (by rw [block_add]; exact hb2))).trans cz2
              go_region_held_law (fun W => W.cell? (z.add k) = some (.int .i64 (nth y k)) ∧ W.cell? (z2.add k) = some (.int .i64 (nth x k)))
                (first | with_reducible exact ⟨cE, cF⟩ | exact ⟨cz, cz2⟩ | exact ⟨cA, cB⟩)
                (first
                  | (refine step_append_lies _ (by rfl) _ _ _ (by rfl) w.heap.size 2 i0 _ 1 8 Tryz.underlying25 hi hz0 hz1 hz2 rfl (by omega) (.slice g L.length cp) L.length (vals L) (by rfl) HA ⟨wr.heap.size, 0, none⟩ 1 1 [.int .i64 v] (by rfl) (by rfl) (World.news_of_block (cs := #[.int .i64 v]) (t := 2) (fr := (0, 0)) (heap_alloc_new wr _)) (by simp [Value.oneCell']) (by omega) (by unfold maxLen; omega) (by omega) (by simp; omega) (wr.heap.size + 1) (by simp) ?_; intro gg cap1 w4 hown3 hgrow hat hlt3; have cE := (hgrow.cell_far (z.add k) (by rw [block_add]; simp; omega) (fun e => by have := hbase _ e.symm; rw [block_add] at this; omega)).trans cA; have cF := (hgrow.cell_far (z2.add k) (by rw [block_add]; simp; omega) (fun e => by have := hbase _ e.symm; rw [block_add] at this; omega)).trans cB)
                  | (go_at_call 170; refine (cT _).mono ?_; rintro e w' ⟨rfl, rfl⟩))
              all_goals have hg03 : w.grownBy w4 none := gr_own (gr_drewN gA 1) hgrow hbase
              all_goals clear hgrow hat hlt3 cE cF cA cB gA HA cz cz2 cT he hown hg
              all_goals go_wp2_with fail
              all_goals go_roundw
              case rel => exact ⟨k + 1, cap1, some ⟨gg, 0, none⟩, L ++ [v], by omega, by go_num, by simp, Lib.hid (by rw [HT.out, hL.out]), by simp; omega, by unfold IRow; rw [vals_snoc]; simpa using hown3, hg03⟩
              case measure => simp [intOf]; omega
          · obtain rfl : k = x.length := by omega
            go_wp2_with fail
            go_ret
            rw [HY.out, ← hL.out]
            exact ⟨g, cp, rfl, hg, il.IRow.own hown, fun u e => il.IRow.above hown e⟩
  · have hd7 : decide (7 < (x.length : Int)) = true := by simp; omega
    rw [hno (by unfold okAB okA; simp [h7])]
    clear hno hyes
    go_enter Tryz.func164, Tryz.ntmps164
    go_wp2_with fail
    go_ret
    exact ⟨_, 0, rfl, g0, Or.inl rfl, fun b e => by rw [blk_nil] at e; cases e⟩
end Go.Proofs.YtdikhdfpcipdbaaGreatDoor.bl

/- The model's BrainOk at a right brain; IsStill; CaseOf. -/
namespace Go.Proofs.YtdikhdfpcipdbaaGreatDoor.br
open Go.ChangeShapes Go.WideShapes Go.ChangeAt Go.RowKit
open Go.Proofs.YtdikhdfpcipdbaaGreatDoor.nums Go.Proofs.YtdikhdfpcipdbaaGreatDoor.mem
open Go.Proofs.YtdikhdfpcipdbaaGreatDoor.tab (Ret)
open Go.Proofs.YtdikhdfpcipdbaaGreatDoor.fan (F okF zF fN fO fT)
open Go.Proofs.YtdikhdfpcipdbaaGreatDoor.gt (G)
open Go.Proofs.YtdikhdfpcipdbaaGreatDoor.il (nth Ints Own)
set_option linter.unusedVariables false

theorem fan_ok {l : List F} (h : l.all okF = true) {k : Nat} (hk : k < l.length) : inb (fN l k) 0 100 = true := by
  have := List.all_eq_true.1 h l[k] (List.getElem_mem hk)
  have e : l.getD k zF = l[k] := by simp [List.getD, hk]
  show inb (l.getD k zF).1 0 100 = true
  rw [e]; exact this
theorem bd_ok {s : se.S} (h : se.Ok s) : se.Bd s 1048576 := ⟨by rw [h.sp3]; omega, by rw [h.he2]; omega, by rw [h.fa6]; omega, by rw [h.sq4]; omega⟩

set_option maxRecDepth 100000 in
set_option maxHeartbeats 4000000 in
theorem specBrainOk (b : B) (p : P) (w : World) (h : Arg w b p) (ho : OkB b) : Calls Tryz.prog 120 #[bv b p] w (Ret (.bool true) w) := by
  have K := Has.fresh w 88 (cs13 b p)
  have g0 := World.grownBy_alloc w (Obj.cells (cs13 b p) 88) none
  have q1 := fun W => md.specMode b.md W
  rw [show md.modeOk b.md = true from ho.md] at q1
  have q2 := fun W => fix.specIn b.tm 0 1000 W
  rw [ho.tm] at q2
  have q3 := fun W => gt.specGateOk b.ga W
  rw [show gt.gateOk b.ga.1 = true from ho.ga] at q3
  have q4 := fun W k => se.specSensesOk b.se p.se W k (bd_ok ho.se)
  rw [se.ok_iff.2 ho.se] at q4
  have q5 := fun W k => bl.specAll p.ou p.oc b.ou 7 W k (by rw [ho.ou7]; unfold maxLen; omega)
  have hall := Lib.hid ho
  have d6 : ((b.fa.length : Int) == 6) = true := by rw [ho.fa6]; rfl
  have d6' : decide ((b.fa.length : Int) = 6) = true := by rw [ho.fa6]; rfl
  have d60 : decide ((b.ta.length : Int) ≤ 60) = true := by have := ho.ta; simp; omega
  clear ho
  obtain ⟨⟨⟨c0, c1, c2⟩, c3, c4⟩, ⟨⟨c5, c6, c7⟩, c8, c9, c10⟩, c11, c12⟩ := thirteen K
  go_enter Tryz.func120, Tryz.ntmps120
  go_wp2_with fail
  go_loopw [3] (fun i wr => ∃ k : Nat, k ≤ b.fa.length ∧ i = .int .i64 k ∧ Has wr w.heap.size 88 (cs13 b p) ∧ w.grownBy wr none) (fun i _ => b.fa.length - (intOf i).toNat)
  case atStart => exact ⟨0, by omega, rfl, K, g0⟩
  case round =>
    clear K g0 c0 c1 c2 c3 c4 c5 c6 c7 c8 c9 c10 c11 c12
    obtain ⟨k, hk, rfl, K, hg⟩ := hrel
    obtain ⟨⟨⟨c0, c1, c2⟩, c3, c4⟩, ⟨⟨c5, c6, c7⟩, c8, c9, c10⟩, c11, c12⟩ := thirteen K
    have hk6 : b.fa.length = 6 := hall.out.fa6
    have hk' : k ≤ 6 := by omega
    clear hk6
    by_cases hlt : k < b.fa.length
    · obtain ⟨x, ex, hb, cx, cy, cz⟩ := (h.fa.kept hg) k hlt
      rw [ex] at c2
      have cF := fun W => fan.specFanOk (fN b.fa k) (fO b.fa k) (fT b.fa k) W
      rw [fan_ok hall.out.fa hlt] at cF
      go_wp2_with fail
      refine (cF _).mono ?_
      rintro e w1 ⟨rfl, r⟩
      go_wp2_with fail
      go_roundw
      case rel => exact ⟨k + 1, by omega, by go_num, K.grown r (by simp), gr_trans hg r⟩
      case measure => simp [intOf]; omega
    · obtain rfl : k = b.fa.length := by omega
      go_wp2_with fail
      refine (q1 _).mono ?_
      rintro e w1 ⟨rfl, rfl⟩
      go_wp2_with fail
      refine (q2 _).mono ?_
      rintro e w1 ⟨rfl, rfl⟩
      go_wp2_with fail
      refine (q3 _).mono ?_
      rintro e w1 ⟨rfl, r⟩
      replace K := K.grown r (by simp)
      replace hg := gr_trans hg r
      clear c0 c1 c2 c3 c4 c5 c6 c7 c8 c9 c10 c11 c12 r
      obtain ⟨⟨⟨c0, c1, c2⟩, c3, c4⟩, ⟨⟨c5, c6, c7⟩, c8, c9, c10⟩, c11, c12⟩ := thirteen K
      go_wp2_with fail
      refine (q4 _ (h.se.kept hg)).mono ?_
      rintro e w1 ⟨rfl, r⟩
      replace K := K.grown r (by simp)
      replace hg := gr_trans hg r
      clear c0 c1 c2 c3 c4 c5 c6 c7 c8 c9 c10 c11 c12 r
      obtain ⟨⟨⟨c0, c1, c2⟩, c3, c4⟩, ⟨⟨c5, c6, c7⟩, c8, c9, c10⟩, c11, c12⟩ := thirteen K
      have e5 : (decide ((b.ou.length : Int) = 7) && b.ou.all bl.okO) = true := by rw [hall.out.ou, hall.out.ou7]; rfl
      rw [e5] at q5
      go_wp2_with fail
      refine (q5 _ (h.ou.kept hg)).mono ?_
      rintro e w1 ⟨rfl, rfl⟩
      go_wp2_with fail
      go_ret
      exact ⟨rfl, hg⟩

end Go.Proofs.YtdikhdfpcipdbaaGreatDoor.br

/- Brains copied by the model, and its new brain. -/
namespace Go.Proofs.YtdikhdfpcipdbaaGreatDoor.br
open Go.ChangeShapes Go.WideShapes Go.ChangeAt Go.RowKit
open Go.Proofs.YtdikhdfpcipdbaaGreatDoor.nums Go.Proofs.YtdikhdfpcipdbaaGreatDoor.mem
open Go.Proofs.YtdikhdfpcipdbaaGreatDoor.tab (Ret add_off)
open Go.Proofs.YtdikhdfpcipdbaaGreatDoor.fan (F okF zF fN fO fT rowF rowF_at)
open Go.Proofs.YtdikhdfpcipdbaaGreatDoor.gt (G)
open Go.Proofs.YtdikhdfpcipdbaaGreatDoor.il (nth Ints Own)
set_option linter.unusedVariables false

theorem rowF_one : ∀ (l : List F), ∀ u ∈ rowF l, u.oneCell' = true := by
  intro l
  induction l with
  | nil => intro u h; cases h
  | cons x l ih =>
    intro u h
    simp only [rowF, List.mem_cons] at h
    rcases h with rfl | rfl | rfl | h
    · rfl
    · rfl
    · rfl
    · exact ih u h
theorem rowF_len : ∀ (l : List F), (rowF l).length = l.length * 3 := by
  intro l
  induction l with
  | nil => rfl
  | cons x l ih => simp only [rowF, List.length_cons, ih]; omega
theorem news_of_argF {w : World} {x : Addr} {l : List F} (h : fan.Arg w (some x) l) : ∀ j u, (rowF l)[j]? = some u → w.cell? (x.add j) = some u := by
  intro j u hu
  have hj : j < l.length * 3 := by rw [← rowF_len]; exact (List.getElem?_eq_some_iff.1 hu).1
  obtain ⟨k, r, hr, rfl⟩ : ∃ k r, r < 3 ∧ j = k * 3 + r := ⟨j / 3, j % 3, by omega, by omega⟩
  have hk : k < l.length := by omega
  obtain ⟨y, e, _, c0, c1, c2⟩ := h k hk
  injection e with e
  subst e
  obtain ⟨r0, r1, r2⟩ := rowF_at l k hk
  rcases (show r = 0 ∨ r = 1 ∨ r = 2 by omega) with rfl | rfl | rfl
  · rw [Nat.add_zero] at hu ⊢; rw [r0] at hu; injection hu with hu; subst hu; exact c0
  · rw [r1] at hu; injection hu with hu; subst hu; rw [show k * 3 + 1 = k * 3 + (0 + 1) by omega, add_off]; exact c1
  · rw [r2] at hu; injection hu with hu; subst hu; rw [show k * 3 + 2 = k * 3 + (1 + 1) by omega, add_off]; exact c2
theorem own_of_rowF {w : World} {base cap g : Nat} {l : List F} (h : w.ownsRow base 189 3 (.slice (some ⟨g, 0, none⟩) l.length cap) l.length (rowF l)) : fan.OwnF w (some ⟨g, 0, none⟩) l := by
  rcases h.2 with ⟨h0, _⟩ | ⟨g', cap', cur, hv, _, hc, _⟩
  · cases h0
  · injection hv with hv1 hv2 hv3
    injection hv1 with hv1
    injection hv1 with hv1 _ _
    subst hv1
    refine Or.inr ⟨g, cur, rfl, hc, fun k hk => ?_⟩
    obtain ⟨x, e, _, c0, c1, c2⟩ := fan.arg_of_row h k hk
    injection e with e
    subst e
    rw [rd.add0] at c0 c1 c2
    exact ⟨(Has.cell hc _).symm.trans c0, (Has.cell hc _).symm.trans c1, (Has.cell hc _).symm.trans c2⟩
/-- A list laid behind an empty one in a new block. -/
theorem app_copyF {ops : Array Oper} {rest : List Oper} {o : Oper} {a : Act} {Q : Exit → Act → World → Prop} (hgd : o.guard = none) (s x : Operand)
    (ho : o.op = .call { callee := .builtin .append, args := #[s, x], argTypes := #[84, 84] }) (w0 : World) (g : Nat) (hg : w0.heap.size = g) (hs : a.eval s = .slice (some ⟨g, 0, none⟩) 0 0)
    (b : Option Addr) (cap : Nat) (l : List F) (hx : a.eval x = .slice b l.length cap) (h : fan.Arg w0 b l) (h0 : 0 < l.length) (hl : l.length ≤ 1048576)
    (H : ∀ g' cap' w', w0.grownBy w' none → fan.OwnF w' (some ⟨g', 0, none⟩) l → w0.heap.size ≤ g' → g' < w'.heap.size → wpList Tryz.prog ops Q rest (a.put o.dst (.slice (some ⟨g', 0, none⟩) l.length cap')) w') :
    wpList Tryz.prog ops Q (o :: rest) a (w0.alloc (Obj.cells #[] 189)) := by
  subst hg
  obtain ⟨i0, hi, hz0, hz1, hz2⟩ := info_parts fan.infoFan
  obtain ⟨ad, e, _⟩ := h 0 h0
  subst e
  have g0 : w0.grownBy (w0.alloc (Obj.cells #[] 189)) none := World.grownBy_alloc _ _ _
  have o0 := World.ownsRow_made (base := w0.heap.size) (e := 189) (size := 3) w0 #[] 0 (Nat.le_refl _) (Nat.zero_le _) rfl
  refine wpList_append_lies _ hgd s x _ ho w0.heap.size 189 i0 _ 3 24 Tryz.underlying84 hi hz0 hz1 hz2 rfl (by omega) _ 0 [] hs o0 ad l.length cap (rowF l) hx (rowF_len l) (news_of_argF (h.kept g0)) (rowF_one l) h0 (by unfold maxLen; omega) (by omega) (by simp) (w0.heap.size + 1) (by simp) ?_
  intro gg cap1 w1 hown hgrow hat hlt
  simp only [Nat.zero_add, List.nil_append] at hown ⊢
  exact H gg cap1 w1 (gr_past g0 hgrow (Nat.le_refl _)) (own_of_rowF hown) (by
    rcases hat with hat | hat
    · simp [Value.ownBlock] at hat; omega
    · omega) hlt

theorem OwnB.below {z c : Nat} {w : World} {b : B} {p : P} (h : OwnB z w b p) (hc : c ≤ z) : OwnB c w b p := ⟨h.fa, h.se.below hc, h.ou, fun x e => Nat.le_trans hc (h.zf x e), fun x e => Nat.le_trans hc (h.zo x e)⟩
theorem _root_.Go.Proofs.YtdikhdfpcipdbaaGreatDoor.se.OwnS.box1b {z : Nat} {w : World} {c : se.S} {p : se.P} (O : se.OwnS z w c p) {g : Nat} {t : TypeId} {cs : Array Value} (k : Has w g t cs) (h1 : t ≠ 42) (h2 : t ≠ 2) (i : Nat) (u : Value) : se.OwnS z (w.setCell ⟨g, i, none⟩ u) c p := O.set g i u (O.nbox k h1 h2)

set_option maxRecDepth 100000 in
set_option maxHeartbeats 4000000 in
theorem specCopyB (b : B) (p : P) (w : World) (h : Arg w b p) (ho : OkB b) : Calls Tryz.prog 122 #[bv b p] w (RetO b w) := by
  have K : Has ((w.alloc (Obj.cells (cs13 b p) 88)).alloc (Obj.cells z13 88)) w.heap.size 88 (cs13 b p) := (Has.fresh w _ _).alloc _
  have R := Has.fresh (w.alloc (Obj.cells (cs13 b p) 88)) 88 z13
  have G := gr_alloc (World.grownBy_alloc w (Obj.cells (cs13 b p) 88) none) (Obj.cells z13 88)
  simp only [World.size_alloc] at R
  have nz' : w.heap.size + 1 ≠ w.heap.size := by omega
  have p1 : 0 < b.fa.length := by rw [ho.fa6]; omega
  have n1 : b.fa.length ≤ 1048576 := by rw [ho.fa6]; omega
  have z7 : b.ou ≠ [] := fun e => by have := ho.ou7; rw [e] at this; simp at this
  have n7 : b.ou.length ≤ 100 := by rw [ho.ou7]; omega
  have cS := fun W k => se.specCopyS b.se p.se W k ho.se
  clear ho
  go_enter Tryz.func122, Tryz.ntmps122
  go_upto_region 1 with fail
  have hsW : w.heap.size + 1 < ((w.alloc (Obj.cells (cs13 b p) 88)).alloc (Obj.cells z13 88)).heap.size := by simp
  generalize (w.alloc (Obj.cells (cs13 b p) 88)).alloc (Obj.cells z13 88) = v0 at *
  obtain ⟨⟨⟨x0, x1, x2⟩, x3, x4⟩, ⟨⟨x5, x6, x7⟩, x8, x9, x10⟩, x11, x12⟩ := thirteen (K.alloc (Obj.cells #[] 189))
  go_upto_region 2 with (at_builtin; refine app_copyF rfl _ _ rfl v0 _ rfl rfl p.fa p.fc b.fa rfl (h.fa.kept G) p1 n1 ?_; intro g1 k1 u1 r1 o1 b1 l1; clear x0 x1 x2 x3 x4 x5 x6 x7 x8 x9 x10 x11 x12; replace K := K.grown r1 (by simp); obtain ⟨⟨⟨x0, x1, x2⟩, x3, x4⟩, ⟨⟨x5, x6, x7⟩, x8, x9, x10⟩, x11, x12⟩ := thirteen K; obtain ⟨⟨⟨f0, f1, f2⟩, f3, f4⟩, ⟨⟨f5, f6, f7⟩, f8, f9, f10⟩, f11, f12⟩ := free13 K)
  have t1 := gr_set (gr_refl u1 (some w.heap.size)) 2 (.slice (some ⟨g1, 0, none⟩) b.fa.length k1)
  replace G := gr_new (gr_trans G r1) (Nat.le_refl w.heap.size) 2 (.slice (some ⟨g1, 0, none⟩) b.fa.length k1)
  replace K := put2 K (.slice (some ⟨g1, 0, none⟩) b.fa.length k1)
  replace R := (R.grown r1 (by simp)).set_other nz' 2 (.slice (some ⟨g1, 0, none⟩) b.fa.length k1)
  replace o1 := o1.grown t1 (fun x e => by cases e; simp; omega)
  have s1 : v0.heap.size ≤ (u1.setCell ⟨w.heap.size, 2, none⟩ (.slice (some ⟨g1, 0, none⟩) b.fa.length k1)).heap.size := by simpa using r1.size
  replace l1 : g1 < (u1.setCell ⟨w.heap.size, 2, none⟩ (.slice (some ⟨g1, 0, none⟩) b.fa.length k1)).heap.size := by simpa using l1
  clear x0 x1 x2 x3 x4 x5 x6 x7 x8 x9 x10 x11 x12
  clear f0 f1 f2 f3 f4 f5 f6 f7 f8 f9 f10 f11 f12
  clear t1 r1
  generalize u1.setCell ⟨w.heap.size, 2, none⟩ (.slice (some ⟨g1, 0, none⟩) b.fa.length k1) = v1 at *
  obtain ⟨⟨⟨x0, x1, x2⟩, x3, x4⟩, ⟨⟨x5, x6, x7⟩, x8, x9, x10⟩, x11, x12⟩ := thirteen K
  obtain ⟨⟨⟨f0, f1, f2⟩, f3, f4⟩, ⟨⟨f5, f6, f7⟩, f8, f9, f10⟩, f11, f12⟩ := free13 K
  go_wp2_with fail
  refine (cS _ (h.se.kept G)).mono ?_
  rintro e w2 ⟨ps, rfl, r, O⟩
  replace G := gr_trans G r
  replace K := K.grown r (by simp)
  replace R := R.grown r (by simp)
  replace o1 := o1.kept r
  clear x0 x1 x2 x3 x4 x5 x6 x7 x8 x9 x10 x11 x12
  clear f0 f1 f2 f3 f4 f5 f6 f7 f8 f9 f10 f11 f12
  have s2 := r.size
  clear r
  obtain ⟨⟨⟨x0, x1, x2⟩, x3, x4⟩, ⟨⟨x5, x6, x7⟩, x8, x9, x10⟩, x11, x12⟩ := thirteen K
  obtain ⟨⟨⟨f0, f1, f2⟩, f3, f4⟩, ⟨⟨f5, f6, f7⟩, f8, f9, f10⟩, f11, f12⟩ := free13 K
  go_upto_region 3 with fail
  replace G := gr_new G (Nat.le_refl w.heap.size) 5 (.slice ps.a1 b.se.sp.length ps.c1)
  replace o1 := o1.grown (gr_set (gr_refl _ (some w.heap.size)) 5 (.slice ps.a1 b.se.sp.length ps.c1)) (fun x e => by cases e; simp; omega)
  replace O := O.box1b K (by decide) (by decide) 5 (.slice ps.a1 b.se.sp.length ps.c1)
  replace K := put5 K (.slice ps.a1 b.se.sp.length ps.c1)
  replace R := R.set_other nz' 5 (.slice ps.a1 b.se.sp.length ps.c1)
  replace G := gr_new G (Nat.le_refl w.heap.size) 6 (.slice ps.a2 b.se.he.length ps.c2)
  replace o1 := o1.grown (gr_set (gr_refl _ (some w.heap.size)) 6 (.slice ps.a2 b.se.he.length ps.c2)) (fun x e => by cases e; simp; omega)
  replace O := O.box1b K (by decide) (by decide) 6 (.slice ps.a2 b.se.he.length ps.c2)
  replace K := put6 K (.slice ps.a2 b.se.he.length ps.c2)
  replace R := R.set_other nz' 6 (.slice ps.a2 b.se.he.length ps.c2)
  replace G := gr_new G (Nat.le_refl w.heap.size) 7 (.slice ps.a3 b.se.fa.length ps.c3)
  replace o1 := o1.grown (gr_set (gr_refl _ (some w.heap.size)) 7 (.slice ps.a3 b.se.fa.length ps.c3)) (fun x e => by cases e; simp; omega)
  replace O := O.box1b K (by decide) (by decide) 7 (.slice ps.a3 b.se.fa.length ps.c3)
  replace K := put7 K (.slice ps.a3 b.se.fa.length ps.c3)
  replace R := R.set_other nz' 7 (.slice ps.a3 b.se.fa.length ps.c3)
  replace G := gr_new G (Nat.le_refl w.heap.size) 8 (.int .i64 b.se.wn)
  replace o1 := o1.grown (gr_set (gr_refl _ (some w.heap.size)) 8 (.int .i64 b.se.wn)) (fun x e => by cases e; simp; omega)
  replace O := O.box1b K (by decide) (by decide) 8 (.int .i64 b.se.wn)
  replace K := put8 K (.int .i64 b.se.wn)
  replace R := R.set_other nz' 8 (.int .i64 b.se.wn)
  replace G := gr_new G (Nat.le_refl w.heap.size) 9 (.bool b.se.ar)
  replace o1 := o1.grown (gr_set (gr_refl _ (some w.heap.size)) 9 (.bool b.se.ar)) (fun x e => by cases e; simp; omega)
  replace O := O.box1b K (by decide) (by decide) 9 (.bool b.se.ar)
  replace K := put9 K (.bool b.se.ar)
  replace R := R.set_other nz' 9 (.bool b.se.ar)
  replace G := gr_new G (Nat.le_refl w.heap.size) 10 (.slice ps.a4 b.se.sq.length ps.c4)
  replace o1 := o1.grown (gr_set (gr_refl _ (some w.heap.size)) 10 (.slice ps.a4 b.se.sq.length ps.c4)) (fun x e => by cases e; simp; omega)
  replace O := O.box1b K (by decide) (by decide) 10 (.slice ps.a4 b.se.sq.length ps.c4)
  replace K := put10 K (.slice ps.a4 b.se.sq.length ps.c4)
  replace R := R.set_other nz' 10 (.slice ps.a4 b.se.sq.length ps.c4)
  replace s2 : v1.heap.size ≤ ((((((w2.setCell ⟨w.heap.size, 5, none⟩ (.slice ps.a1 b.se.sp.length ps.c1)).setCell ⟨w.heap.size, 6, none⟩ (.slice ps.a2 b.se.he.length ps.c2)).setCell ⟨w.heap.size, 7, none⟩ (.slice ps.a3 b.se.fa.length ps.c3)).setCell ⟨w.heap.size, 8, none⟩ (.int .i64 b.se.wn)).setCell ⟨w.heap.size, 9, none⟩ (.bool b.se.ar)).setCell ⟨w.heap.size, 10, none⟩ (.slice ps.a4 b.se.sq.length ps.c4)).heap.size := by simpa using s2
  clear x0 x1 x2 x3 x4 x5 x6 x7 x8 x9 x10 x11 x12
  clear f0 f1 f2 f3 f4 f5 f6 f7 f8 f9 f10 f11 f12
  generalize ((((((w2.setCell ⟨w.heap.size, 5, none⟩ (.slice ps.a1 b.se.sp.length ps.c1)).setCell ⟨w.heap.size, 6, none⟩ (.slice ps.a2 b.se.he.length ps.c2)).setCell ⟨w.heap.size, 7, none⟩ (.slice ps.a3 b.se.fa.length ps.c3)).setCell ⟨w.heap.size, 8, none⟩ (.int .i64 b.se.wn)).setCell ⟨w.heap.size, 9, none⟩ (.bool b.se.ar)).setCell ⟨w.heap.size, 10, none⟩ (.slice ps.a4 b.se.sq.length ps.c4)) = v2 at *
  obtain ⟨⟨⟨x0, x1, x2⟩, x3, x4⟩, ⟨⟨x5, x6, x7⟩, x8, x9, x10⟩, x11, x12⟩ := thirteen K
  obtain ⟨⟨⟨f0, f1, f2⟩, f3, f4⟩, ⟨⟨f5, f6, f7⟩, f8, f9, f10⟩, f11, f12⟩ := free13 K
  go_wp2_with fail
  refine (stm.specCopy p.ou p.oc b.ou _ (h.ou.kept G) z7 n7).mono ?_
  rintro e w3 ⟨a5, k5, rfl, r, q4'⟩
  obtain ⟨q4, b4⟩ := se.own_of_frm q4' z7
  replace G := gr_trans G r
  replace K := K.grown r (by simp)
  replace R := R.grown r (by simp)
  replace o1 := o1.kept r
  replace O := O.kept r
  clear x0 x1 x2 x3 x4 x5 x6 x7 x8 x9 x10 x11 x12
  clear f0 f1 f2 f3 f4 f5 f6 f7 f8 f9 f10 f11 f12
  have s3 := r.size
  clear r
  obtain ⟨⟨⟨x0, x1, x2⟩, x3, x4⟩, ⟨⟨x5, x6, x7⟩, x8, x9, x10⟩, x11, x12⟩ := thirteen K
  obtain ⟨⟨⟨f0, f1, f2⟩, f3, f4⟩, ⟨⟨f5, f6, f7⟩, f8, f9, f10⟩, f11, f12⟩ := free13 K
  go_upto_region 4 with fail
  replace G := gr_new G (Nat.le_refl w.heap.size) 11 (.slice a5 b.ou.length k5)
  replace o1 := o1.grown (gr_set (gr_refl _ (some w.heap.size)) 11 (.slice a5 b.ou.length k5)) (fun x e => by cases e; simp; omega)
  replace O := O.box1b K (by decide) (by decide) 11 (.slice a5 b.ou.length k5)
  replace q4 := q4.grown (gr_set (gr_refl w3 (some w.heap.size)) 11 (.slice a5 b.ou.length k5)) (fun x e => by have := b4 x e; simp; omega)
  replace K := put11 K (.slice a5 b.ou.length k5)
  replace R := R.set_other nz' 11 (.slice a5 b.ou.length k5)
  replace s3 : v2.heap.size ≤ (w3.setCell ⟨w.heap.size, 11, none⟩ (.slice a5 b.ou.length k5)).heap.size := by simpa using s3
  clear x0 x1 x2 x3 x4 x5 x6 x7 x8 x9 x10 x11 x12
  clear f0 f1 f2 f3 f4 f5 f6 f7 f8 f9 f10 f11 f12
  generalize w3.setCell ⟨w.heap.size, 11, none⟩ (.slice a5 b.ou.length k5) = v3 at *
  obtain ⟨⟨⟨x0, x1, x2⟩, x3, x4⟩, ⟨⟨x5, x6, x7⟩, x8, x9, x10⟩, x11, x12⟩ := thirteen K
  obtain ⟨⟨⟨d0, d1, d2⟩, d3, d4⟩, ⟨⟨d5, d6, d7⟩, d8, d9, d10⟩, d11, d12⟩ := thirteen R
  obtain ⟨⟨⟨f0, f1, f2⟩, f3, f4⟩, ⟨⟨f5, f6, f7⟩, f8, f9, f10⟩, f11, f12⟩ := free13 R
  go_wp2_with fail
  have O9 : OwnB v0.heap.size v3 b ⟨some ⟨g1, 0, none⟩, k1, ps, a5, k5⟩ := ⟨o1, O.below (by omega), q4, fun x e => by cases e; exact b1, fun x e => by have := b4 x e; omega⟩
  have GG := gr_lay G (show w.heap.size ≤ w.heap.size + 1 by omega) (.int .i64 b.md) (.int .i64 b.tm) (.slice (some ⟨g1, 0, none⟩) b.fa.length k1) (.int .i64 b.ga.1) (.bool b.ga.2) (.slice ps.a1 b.se.sp.length ps.c1) (.slice ps.a2 b.se.he.length ps.c2) (.slice ps.a3 b.se.fa.length ps.c3) (.int .i64 b.se.wn) (.bool b.se.ar) (.slice ps.a4 b.se.sq.length ps.c4) (.slice a5 b.ou.length k5) (str b.ta)
  have R9 := set_lay R (.int .i64 b.md) (.int .i64 b.tm) (.slice (some ⟨g1, 0, none⟩) b.fa.length k1) (.int .i64 b.ga.1) (.bool b.ga.2) (.slice ps.a1 b.se.sp.length ps.c1) (.slice ps.a2 b.se.he.length ps.c2) (.slice ps.a3 b.se.fa.length ps.c3) (.int .i64 b.se.wn) (.bool b.se.ar) (.slice ps.a4 b.se.sq.length ps.c4) (.slice a5 b.ou.length k5) (str b.ta)
  have Q := O9.far R (by decide) (by decide) (by decide) (chg_lay v3 (w.heap.size + 1) (.int .i64 b.md) (.int .i64 b.tm) (.slice (some ⟨g1, 0, none⟩) b.fa.length k1) (.int .i64 b.ga.1) (.bool b.ga.2) (.slice ps.a1 b.se.sp.length ps.c1) (.slice ps.a2 b.se.he.length ps.c2) (.slice ps.a3 b.se.fa.length ps.c3) (.int .i64 b.se.wn) (.bool b.se.ar) (.slice ps.a4 b.se.sq.length ps.c4) (.slice a5 b.ou.length k5) (str b.ta))
  obtain ⟨⟨⟨t0, t1, t2⟩, t3, t4⟩, ⟨⟨t5, t6, t7⟩, t8, t9, t10⟩, t11, t12⟩ := thirteen R9
  exact bodyPost_ret (v := bv b ⟨some ⟨g1, 0, none⟩, k1, ps, a5, k5⟩) (by simp [results, Tryz.results122, go_sem, t0, t1, t2, t3, t4, t5, t6, t7, t8, t9, t10, t11, t12]) rfl ⟨_, rfl, GG, Q.below (by omega)⟩
end Go.Proofs.YtdikhdfpcipdbaaGreatDoor.br

