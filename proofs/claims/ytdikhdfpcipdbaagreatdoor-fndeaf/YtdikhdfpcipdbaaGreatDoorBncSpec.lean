/- Chapter 3: the model's small functions. -/
import Derived.Test.YtdikhdfpcipdbaaGreatDoorBnc
import Derived.Test.YtdikhdfpcipdbaaGreatDoorTabMem
import Derived.StillTailTactics
namespace Go.Proofs.YtdikhdfpcipdbaaGreatDoor.bnc
open Go.ChangeShapes Go.WideShapes Go.ChangeAt Go.RowKit
open Go.Proofs.YtdikhdfpcipdbaaGreatDoor.nums Go.Proofs.YtdikhdfpcipdbaaGreatDoor.mem
open Go.Proofs.YtdikhdfpcipdbaaGreatDoor.tab (Ret quiet_w)
set_option linter.unusedVariables false

/-- It returns this bounce; of what was there nothing is another. -/
def RetB (b : B) (w : World) (e : Ending) (w' : World) : Prop := e = .returned (.agg #[.int .i64 b.1, .bool b.2]) ∧ w.grownBy w' none
theorem two {w : World} {g : Nat} {t : TypeId} {a b : Value} (h : Has w g t #[a, b]) : w.cell? ⟨g, 0, none⟩ = some a ∧ w.cell? ⟨g, 1, none⟩ = some b ∧ w.frozen? ⟨g, 0, none⟩ = false ∧ w.frozen? ⟨g, 1, none⟩ = false :=
  ⟨h.cell 0, h.cell 1, h.frozen 0, h.frozen 1⟩
theorem fresh1 (w : World) (o : Obj) (t : TypeId) (cs : Array Value) : Has ((w.alloc o).alloc (.cells cs t)) (w.heap.size + 1) t cs := by
  have := Has.fresh (w.alloc o) t cs
  simpa using this
theorem set2 {w : World} {g : Nat} {t : TypeId} {a b : Value} (h : Has w g t #[a, b]) (a' b' : Value) : Has ((w.setCell ⟨g, 0, none⟩ a').setCell ⟨g, 1, none⟩ b') g t #[a', b'] := (h.put 0 a' rfl).put 1 b' rfl
/-- One sign, or nothing where something is out of range. -/
def one (u d : Int) (b : B) (s : Bool) : B := if right b u d = true then feel u d b s else (0, false)
/-- Many signs, or nothing. -/
def many (u d : Int) (b : B) (l : List Bool) : B := if right b u d = true ∧ l.length ≤ 200 then felt u d b l else (0, false)
/-- The signs l lie in block g, from its start on. -/
def Bs (w : World) (g : Nat) (l : List Bool) : Prop := g < w.heap.size ∧ ∀ k, k < l.length → w.cell? ⟨g, k, none⟩ = some (.bool (l.getD k false))
theorem Bs.grown {w w' : World} {g : Nat} {l : List Bool} {row : Option Nat} (h : Bs w g l) (hb : w.grownBy w' row) (hn : some g ≠ row) : Bs w' g l :=
  ⟨Nat.lt_of_lt_of_le h.1 hb.size, fun k hk => (World.cell?_of_block (hb.block g h.1 hn)).trans (h.2 k hk)⟩
theorem Bs.kept {w w' : World} {g : Nat} {l : List Bool} (h : Bs w g l) (hb : w.grownBy w' none) : Bs w' g l := h.grown hb (by simp)

theorem specBounceOk (N : Int) (on : Bool) (w : World) : Calls Tryz.prog 158 #[.agg #[.int .i64 N, .bool on]] w (Ret (.bool (inb N 0 100)) w) := by
  go_enter Tryz.func158, Tryz.ntmps158
  go_wp2_with fail
  refine (fix.specIn _ _ _ _).mono ?_
  rintro e w' ⟨rfl, rfl⟩
  go_wp2_with fail
  go_ret
  exact ⟨rfl, World.grownBy_alloc _ _ _⟩

set_option maxHeartbeats 1000000 in
theorem specFeel (N : Int) (on s : Bool) (u d : Int) (w : World) (h0 : 0 ≤ N) (h1 : N ≤ 100) : Calls Tryz.prog 173 #[.agg #[.int .i64 N, .bool on], .bool s, .int .i64 u, .int .i64 d] w (RetB (feel u d (N, on) s) w) := by
  cases s
  · go_enter Tryz.func173, Tryz.ntmps173
    go_wp2_with fail
    refine (fix.specMax _ _ _).mono ?_
    rintro e w' ⟨rfl, rfl⟩
    go_wp2_with fail
    refine (fix.specMin _ _ _).mono ?_
    rintro e w' ⟨rfl, rfl⟩
    cases on
    all_goals go_wp2_with fail
    all_goals exact bodyPost_ret (by simp [results, Tryz.results173, go_sem]; rfl) rfl ⟨by simp [feel], gr_alloc (World.grownBy_alloc _ _ _) _⟩
  · go_enter Tryz.func173, Tryz.ntmps173
    go_wp2_with fail
    refine (fix.specMin _ _ _).mono ?_
    rintro e w' ⟨rfl, rfl⟩
    cases on
    all_goals go_wp2_with fail
    all_goals exact bodyPost_ret (by simp [results, Tryz.results173, go_sem]; rfl) rfl ⟨by simp [feel], gr_alloc (World.grownBy_alloc _ _ _) _⟩

theorem decide_len {l : List Bool} (h : l.length ≤ 200) : decide (200 < (l.length : Int)) = false := by simp; omega

end Go.Proofs.YtdikhdfpcipdbaaGreatDoor.bnc
