/- Chapter 14 on plain numbers; the small functions of the program: a gate behind its face. -/
import Derived.Test.YtdikhdfpcipdbaaGreatDoorMd2
import Derived.Stop.Asserts
import Derived.RowKitTokens
namespace Go.Proofs.YtdikhdfpcipdbaaGreatDoor.gt
open Go.ChangeShapes Go.WideShapes Go.ChangeAt Go.RowKit
open Go.Extern.Stop Go.Stop Go.Extern
open Go.Proofs.YtdikhdfpcipdbaaGreatDoor.nums Go.Proofs.YtdikhdfpcipdbaaGreatDoor.mem
open Go.Proofs.YtdikhdfpcipdbaaGreatDoor.fix (ret_int ret_bool)
open Go.Proofs.YtdikhdfpcipdbaaGreatDoor.tab (Ret quiet_w)
open Go.Proofs.YtdikhdfpcipdbaaGreatDoor.md (Fx cs8 fac factsOk eight)
set_option linter.unusedVariables false

/-- A gate: how long all stood still, and whether it is fired. -/
abbrev G := Int × Bool
abbrev cs2 (g : G) : Array Value := #[.int .i64 g.1, .bool g.2]
abbrev gv (g : G) : Value := .agg #[.int .i64 g.1, .bool g.2]
def gateOk (s : Int) : Bool := inb s 0 100
def tooLow (f : Fx) : Bool := f.ho && decide (f.h < 30)
def ticked (g : G) (stop low : Bool) : G :=
  if g.2 = true then g else if stop = false then (0, false) else (min (g.1 + 1) 100, decide (4 ≤ min (g.1 + 1) 100) && !low)
def gated (g : G) (ch st : Bool) (f : Fx) : G := if (gateOk g.1 && factsOk f) = true then ticked g (ch && st) (tooLow f) else (0, false)

theorem gated_no {g : G} {ch st : Bool} {f : Fx} (h : (gateOk g.1 && factsOk f) = false) : gated g ch st f = (0, false) := by unfold gated; rw [h]; rfl
theorem gated_yes {g : G} {ch st : Bool} {f : Fx} (h1 : gateOk g.1 = true) (h2 : factsOk f = true) : gated g ch st f = ticked g (ch && st) (tooLow f) := by unfold gated; rw [h1, h2]; rfl

theorem two {w : World} {g : Nat} {t : TypeId} {a b : Value} (k : Has w g t #[a, b]) :
    w.cell? ⟨g, 0, none⟩ = some a ∧ w.cell? ⟨g, 1, none⟩ = some b ∧ w.frozen? ⟨g, 0, none⟩ = false ∧ w.frozen? ⟨g, 1, none⟩ = false :=
  ⟨k.cell 0, k.cell 1, k.frozen 0, k.frozen 1⟩
theorem set2 {w : World} {g : Nat} {t : TypeId} {a b : Value} (k : Has w g t #[a, b]) (a' b' : Value) :
    Has ((w.setCell ⟨g, 0, none⟩ a').setCell ⟨g, 1, none⟩ b') g t #[a', b'] := (k.put 0 a' (cs' := #[a', b]) rfl).put 1 b' rfl

theorem specGateOk (g : G) (w : World) : Calls Tryz.prog 145 #[gv g] w (Ret (.bool (gateOk g.1)) w) := by
  go_enter Tryz.func145, Tryz.ntmps145
  go_wp2_with fail
  refine (fix.specIn g.1 0 100 _).mono ?_
  rintro e w' ⟨rfl, rfl⟩
  go_wp2_with fail
  go_ret
  exact ⟨rfl, World.grownBy_alloc _ _ _⟩
/-! ### behind the face -/
theorem specMin (a b : Int) (w : World) : Calls Tryz.prog 79 #[.int .i64 a, .int .i64 b] w fun e w' => e = .returned (.int .i64 (min a b)) ∧ w = w' := by
  go_enter Tryz.func79, Tryz.ntmps79
  go_wp2
  all_goals go_ret
  all_goals exact ⟨ret_int (by omega), rfl⟩
end Go.Proofs.YtdikhdfpcipdbaaGreatDoor.gt
