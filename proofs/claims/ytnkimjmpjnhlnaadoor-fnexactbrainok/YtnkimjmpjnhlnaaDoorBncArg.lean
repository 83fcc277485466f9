/- What came in: a bounce, a list of signs; read, copied into new memory, compared. -/
import Derived.Test.YtnkimjmpjnhlnaaDoorBncImpl
import Derived.Test.YtnkimjmpjnhlnaaDoorTabArg
import Derived.ChangeSame
import Derived.Deep.Grids
namespace Go.Proofs.YtnkimjmpjnhlnaaDoor.bnc
open Go.ChangeShapes Go.WideShapes Go.ChangeAt Go.RowKit
open Go.Proofs.YtnkimjmpjnhlnaaDoor.nums Go.Proofs.YtnkimjmpjnhlnaaDoor.mem
open Go.Proofs.YtnkimjmpjnhlnaaDoor.tab (Ret quiet_w wpList_make_has)
set_option linter.unusedVariables false

/-- The slice that came in holds these signs, each in a cell, in a block of the world. -/
def Arg (w : World) (a : Option Addr) (l : List Bool) : Prop :=
  ∀ k, k < l.length → ∃ x : Addr, a = some x ∧ x.block < w.heap.size ∧ w.cell? (x.add k) = some (.bool (l.getD k false))
theorem Arg.kept {w w' : World} {a : Option Addr} {l : List Bool} (h : Arg w a l) (hg : w.grownBy w' none) : Arg w' a l := by
  intro k hk
  obtain ⟨x, e, hb, h1⟩ := h k hk
  refine ⟨x, e, Nat.lt_of_lt_of_le hb hg.size, ?_⟩
  rw [← h1]; exact World.cell?_of_block (hg.block _ (by rw [block_add]; omega) (by simp))

set_option maxRecDepth 100000 in
theorem open_bounce {H : Type} {enc : TypeId × Value → H} {w : World} {r : Reach} {b0 base : Nat} {spare : Nat → Bool} {held : Bool} {v : Value} {d : DataW H} {p : List MemPlace}
    (hval : Value.okWide Tryd.prog w r b0 75 v) (h : DataW.Trod enc Tryd.prog w base spare held 75 v d p) : ∃ (N : Int) (on : Bool), v = .agg #[.int .i64 N, .bool on] ∧ (Lit.int .i64 N).wf = true := by
  obtain ⟨cs, rfl, hs⟩ := okWide_struct Tryd.underlying75 hval
  obtain ⟨fuel, hf⟩ := h
  have h2 : Tryd.prog.cellsOf 75 = 2 := by kernel_rfl
  rw [h2] at hs
  obtain ⟨y0, y1, n, _, hl, t0, t1⟩ := trod_struct2 Tryd.underlying75 hf
  obtain ⟨z, e0, _, hw⟩ := DataW.trod_int Tryd.underlying2 t0
  obtain ⟨o, e1, _⟩ := DataW.trod_bool Tryd.underlying4 t1
  have c1 : Tryd.prog.cellsOf 2 = 1 := by kernel_rfl
  have c2 : Tryd.prog.cellsOf 4 = 1 := by kernel_rfl
  obtain ⟨l⟩ := cs
  match l, hs with
  | [x, y], _ =>
    simp [Value.cells, c1, c2] at e0 e1
    refine ⟨z, o, ?_, hw⟩
    rw [e0, e1]

set_option maxHeartbeats 1000000 in
theorem toBounce (N : Int) (on : Bool) (w : World) : Calls Tryd.prog 62 #[.agg #[.int .i64 N, .bool on]] w (RetB (N, on) w) := by
  go_enter Tryd.func62, Tryd.ntmps62
  go_wp2
  exact bodyPost_ret (v := .agg #[.int .i64 N, .bool on]) (by simp [results, Tryd.results62, go_sem]) rfl ⟨rfl, gr_alloc (gr_alloc (World.grownBy_alloc _ _ _) _) _⟩

theorem eqBounce (N : Int) (on : Bool) (w : World) : Calls Tryd.prog 69 #[.agg #[.int .i64 N, .bool on], .agg #[.int .i64 N, .bool on]] w (Ret (.bool true) w) := by
  go_enter Tryd.func69, Tryd.ntmps69
  go_wp2
  go_ret
  exact ⟨rfl, gr_alloc (World.grownBy_alloc _ _ _) _⟩

theorem infoBool : (Tryd.prog.info? 4).map (fun i => (i.zero, i.size, i.bytes)) = some (some (.bool false), 1, 1) := by kernel_rfl

/-- A copy: a new block that holds the signs; of what was there nothing is another. -/
def Copied (l : List Bool) (w : World) (e : Ending) (w' : World) : Prop := ∃ g, e = .returned (.slice (some ⟨g, 0, none⟩) l.length l.length) ∧ w.heap.size ≤ g ∧ w.grownBy w' none ∧ Bs w' g l

end Go.Proofs.YtnkimjmpjnhlnaaDoor.bnc
