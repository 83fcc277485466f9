/- Chapter 14 on plain numbers; the small functions of the program: a gate behind its face. -/
import Derived.Test.YtkmbfacgigpkmaaMd2
import Derived.Stop.Asserts
import Derived.RowKitTokens
namespace Go.Proofs.Ytkmbfacgigpkmaa.gt
open Go.ChangeShapes Go.WideShapes Go.ChangeAt Go.RowKit
open Go.Extern.Stop Go.Stop Go.Extern
open Go.Proofs.Ytkmbfacgigpkmaa.nums Go.Proofs.Ytkmbfacgigpkmaa.mem
open Go.Proofs.Ytkmbfacgigpkmaa.fix (ret_int ret_bool)
open Go.Proofs.Ytkmbfacgigpkmaa.tab (Ret quiet_w)
open Go.Proofs.Ytkmbfacgigpkmaa.md (Fx cs8 fac factsOk eight)
set_option linter.unusedVariables false

/-- A gate: how long all stood still, and whether it is fired. -/
abbrev G := Int × Bool
abbrev cs2 (g : G) : Array Value := #[.int .i64 g.1, .bool g.2]
abbrev gv (g : G) : Value := .agg #[.int .i64 g.1, .bool g.2]
def gateOk (s : Int) : Bool := inb s 0 100
def tooLow (f : Fx) : Bool := f.ho && decide (f.h < 30)
def ticked (g : G) (stop low : Bool) : G :=
  if g.2 = true then g else if stop = false then (0, false) else (min (g.1 + 1) 100, decide (4 ≤ min (g.1 + 1) 100) && !low)
def gated (g : G) (ch st : Bool) (f : Fx) : G := if (gateOk g.1 && factsOk f) = true then ticked g (ch && st) (tooLow f) else (0, false)

theorem gated_no {g : G} {ch st : Bool} {f : Fx} (h : (gateOk g.1 && factsOk f) = false) : gated g ch st f = (0, false) := by unfold gated; rw [h]; rfl
theorem gated_yes {g : G} {ch st : Bool} {f : Fx} (h1 : gateOk g.1 = true) (h2 : factsOk f = true) : gated g ch st f = ticked g (ch && st) (tooLow f) := by unfold gated; rw [h1, h2]; rfl

theorem two {w : World} {g : Nat} {t : TypeId} {a b : Value} (k : Has w g t #[a, b]) :
    w.cell? ⟨g, 0, none⟩ = some a ∧ w.cell? ⟨g, 1, none⟩ = some b ∧ w.frozen? ⟨g, 0, none⟩ = false ∧ w.frozen? ⟨g, 1, none⟩ = false :=
  ⟨k.cell 0, k.cell 1, k.frozen 0, k.frozen 1⟩
theorem set2 {w : World} {g : Nat} {t : TypeId} {a b : Value} (k : Has w g t #[a, b]) (a' b' : Value) :
    Has ((w.setCell ⟨g, 0, none⟩ a').setCell ⟨g, 1, none⟩ b') g t #[a', b'] := (k.put 0 a' (cs' := #[a', b]) rfl).put 1 b' rfl

theorem implGateOk (g : G) (w : World) : Calls Try.prog 10 #[gv g] w (Ret (.bool (gateOk g.1)) w) := by
  go_enter Try.func10, Try.ntmps10
  go_wp2
  all_goals go_ret
  all_goals exact ⟨ret_bool (by unfold gateOk inb; simp <;> omega), World.grownBy_alloc _ _ _⟩
theorem specGateOk (g : G) (w : World) : Calls Try.prog 11 #[gv g] w (Ret (.bool (gateOk g.1)) w) := by
  go_enter Try.func11, Try.ntmps11
  go_wp2_with fail
  refine (fix.specIn g.1 0 100 _).mono ?_
  rintro e w' ⟨rfl, rfl⟩
  go_wp2_with fail
  go_ret
  exact ⟨rfl, World.grownBy_alloc _ _ _⟩
theorem implTooLow (f : Fx) (w : World) : Calls Try.prog 24 #[fac f] w (Ret (.bool (tooLow f)) w) := by
  go_enter Try.func24, Try.ntmps24
  go_wp2
  all_goals go_ret
  all_goals exact ⟨ret_bool (by unfold tooLow; simp [*]), World.grownBy_alloc _ _ _⟩

/-! ### behind the face -/
abbrev isF (s : Int) : Value := .iface 65 (.int .i64 s)
abbrev isW (s : Int) : Value := .iface 66 (.int .i64 s)
def face (g : G) : Value := match g.2 with | true => isF g.1 | false => isW g.1

theorem hasF (v : Value) (xT : TypeId) (w : World) : (Instr.typeAssert (.iface 65 v) xT 62 true).run Try.prog w = .ok (.tuple #[.iface 65 v, .bool true]) w := run_typeAssert_hasB Try.underlying62 (by kernel_rfl) v xT w
theorem hasW (v : Value) (xT : TypeId) (w : World) : (Instr.typeAssert (.iface 66 v) xT 62 true).run Try.prog w = .ok (.tuple #[.nilIface, .bool false]) w := run_typeAssert_lacksB Try.underlying62 (by kernel_rfl) (by kernel_rfl) v xT w
theorem stillF (v : Value) (w : World) : (Go.method 185 65 v "loop.example/g00619/impl.still").run Try.prog w = .ok (55, v) w := by kernel_rfl
theorem stillW (v : Value) (w : World) : (Go.method 185 66 v "loop.example/g00619/impl.still").run Try.prog w = .ok (57, v) w := by kernel_rfl
theorem tickF (v : Value) (w : World) : (Go.method 185 65 v "loop.example/g00619/impl.ticked").run Try.prog w = .ok (56, v) w := by kernel_rfl
theorem tickW (v : Value) (w : World) : (Go.method 185 66 v "loop.example/g00619/impl.ticked").run Try.prog w = .ok (58, v) w := by kernel_rfl
theorem aheadF (s : Int) (w : World) : (nilAhead 185 65 (.int .i64 s) "loop.example/g00619/impl.ticked").run Try.prog w = .ok (some false) w := by kernel_rfl
theorem aheadW (s : Int) (w : World) : (nilAhead 185 66 (.int .i64 s) "loop.example/g00619/impl.ticked").run Try.prog w = .ok (some false) w := by kernel_rfl

theorem implBehind (g : G) (w : World) : Calls Try.prog 23 #[gv g] w (Ret (face g) w) := by
  obtain ⟨s, x⟩ := g
  cases x
  all_goals
    go_enter Try.func23, Try.ntmps23
    go_wp2
    go_ret
    exact ⟨rfl, World.grownBy_alloc _ _ _⟩

theorem implStillF (s : Int) (w : World) : Calls Try.prog 55 #[.int .i64 s] w fun e w' => e = .returned (.int .i64 s) ∧ w = w' := by
  go_enter Try.func55, Try.ntmps55
  go_wp2
  go_ret
  exact ⟨rfl, rfl⟩
theorem implStillW (s : Int) (w : World) : Calls Try.prog 57 #[.int .i64 s] w fun e w' => e = .returned (.int .i64 s) ∧ w = w' := by
  go_enter Try.func57, Try.ntmps57
  go_wp2
  go_ret
  exact ⟨rfl, rfl⟩
theorem implTickF (s : Int) (a b : Bool) (w : World) : Calls Try.prog 56 #[.int .i64 s, .bool a, .bool b] w fun e w' => e = .returned (face (ticked (s, true) a b)) ∧ w = w' := by
  go_enter Try.func56, Try.ntmps56
  go_wp2
  go_ret
  exact ⟨rfl, rfl⟩

theorem implFace (g : G) (w : World) : Calls Try.prog 22 #[face g] w (Ret (gv g) w) := by
  obtain ⟨s, x⟩ := g
  have e1 := hasF
  have e2 := hasW
  have e3 := stillF
  have e4 := stillW
  have cF := implStillF s
  have cW := implStillW s
  cases x
  all_goals
    unfold face
    go_enter Try.func22, Try.ntmps22
    go_wp2_with fail
    first | refine (cF _).mono ?_ | refine (cW _).mono ?_
    rintro e w' ⟨rfl, rfl⟩
    go_wp2_with fail
  · exact bodyPost_ret (v := gv (s, false)) (by simp [results, Try.results22, go_sem]) rfl ⟨rfl, World.grownBy_alloc _ _ _⟩
  · exact bodyPost_ret (v := gv (s, true)) (by simp [results, Try.results22, go_sem]) rfl ⟨rfl, World.grownBy_alloc _ _ _⟩

theorem implTickW (s : Int) (a b : Bool) (h0 : 0 ≤ s) (h1 : s ≤ 100) (w : World) : Calls Try.prog 58 #[.int .i64 s, .bool a, .bool b] w fun e w' => e = .returned (face (ticked (s, false) a b)) ∧ w = w' := by
  cases a
  · go_enter Try.func58, Try.ntmps58
    go_wp2
    go_ret
    exact ⟨rfl, rfl⟩
  · have e : ticked (s, false) true b = (min (s + 1) 100, decide (4 ≤ min (s + 1) 100) && !b) := rfl
    rw [e]
    clear e
    have hw : IntKind.i64.wrap (s + 1) = s + 1 := IntWalk.i64_in _ (by omega)
    go_enter Try.func58, Try.ntmps58
    go_wp2_with fail
    all_goals go_ret
    all_goals refine ⟨?_, rfl⟩
    all_goals first | (rw [show min (s + 1) 100 = s + 1 by omega, show decide (4 ≤ s + 1) = false by rw [decide_eq_false_iff_not]; omega]; rfl) | (rw [show min (s + 1) 100 = 100 by omega]; simp_all [face]; done) | (rw [show min (s + 1) 100 = s + 1 by omega]; simp_all [face]; done)

theorem specMin (a b : Int) (w : World) : Calls Try.prog 25 #[.int .i64 a, .int .i64 b] w fun e w' => e = .returned (.int .i64 (min a b)) ∧ w = w' := by
  go_enter Try.func25, Try.ntmps25
  go_wp2
  all_goals go_ret
  all_goals exact ⟨ret_int (by omega), rfl⟩
end Go.Proofs.Ytkmbfacgigpkmaa.gt
