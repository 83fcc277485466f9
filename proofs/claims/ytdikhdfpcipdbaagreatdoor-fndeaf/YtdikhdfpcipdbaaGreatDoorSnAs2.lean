/- Chapter 8: errors.As of a refusal, into a variable of that type: it is set; true. -/
import Derived.Test.YtdikhdfpcipdbaaGreatDoorSnAs
namespace Go.Proofs.YtdikhdfpcipdbaaGreatDoor.sane
open Go.ChangeShapes Go.WideShapes Go.ChangeAt Go.RowKit
open Go.Extern.Stop Go.Stop Go.Extern
open Go.Proofs.YtdikhdfpcipdbaaGreatDoor.nums Go.Proofs.YtdikhdfpcipdbaaGreatDoor.mem
open Go.Proofs.YtdikhdfpcipdbaaGreatDoor.tab (Ret)
set_option linter.unusedVariables false

/-- The block of a refusal's variable is set to these cells; of what was there nothing else is another. -/
def SetTo (g : Nat) (t : TypeId) (cs : Array Value) (w : World) (e : Ending) (w' : World) : Prop := e = .returned (.bool true) ∧ w.grownBy w' (some g) ∧ Has w' g t cs
/-- Go's variable errors.errorType holds the type 'error'. -/
def ErrT (w : World) : Prop := w.cell? ⟨6, 0, none⟩ = some (ty 147)
theorem gr_row {a w : World} {g : Nat} (h : a.grownBy w (some g)) (cs : Array Value) : a.grownBy (w.setRow g cs) (some g) :=
  ⟨h.os, h.tape, h.output, by rw [setRow_size]; exact h.size, fun k hk hn => (setRow_other w g k cs (by intro e; exact hn (by rw [e]))).trans (h.block k hk hn)⟩
theorem cell_lt {w : World} {a : Addr} {v : Value} (h : w.cell? a = some v) : a.block < w.heap.size := by
  rcases Nat.lt_or_ge a.block w.heap.size with h1 | h1
  · exact h1
  · simp [World.cell?, Array.getElem?_eq_none h1] at h

set_option maxHeartbeats 4000000 in
theorem as_hit (v a : Int) (o : Bool) (y : Addr) (g : Nat) (y0 y1 y2 y3 : Value) (t : TypeId) (w : World) (he : ErrT w) (hg : Has w g t #[y0, y1, y2, y3]) :
    Calls Tryz.prog 117 #[refE v a o y, .iface 153 (.pointer (some ⟨g, 0, none⟩))] w (SetTo g t #[.int .i64 v, .int .i64 a, .bool o, .iface 253 (.pointer (some y))] w) := by
  unfold refE
  obtain ⟨gT, fT, pT⟩ := asType
  obtain ⟨gK, fK, pK, pK'⟩ := asKind
  obtain ⟨gL, fL, pL⟩ := asElem
  obtain ⟨gM, fM, pM⟩ := asImplements
  obtain ⟨gA, fA, pA⟩ := asAssignable
  have hV := @run_callFunc_extern Tryz.prog 128 _ (fun args => ReflectliteValue.unpack (args.getD 0 (.tuple #[]))) Tryz.func128 (by kernel_rfl) (by kernel_rfl) (by kernel_rfl) (by kernel_rfl)
  have hI := @run_callFunc_extern Tryz.prog 130 _ (ReflectliteValue.method (ReflectliteValue.valueError "reflectlite.Value.IsNil" 0) ReflectliteValue.isNil) Tryz.func130 (by kernel_rfl) (by kernel_rfl) (by kernel_rfl) (by kernel_rfl)
  have hO := @run_callFunc_extern Tryz.prog 126 _ Extern.ReflectliteType.typeOf Tryz.func126 (by kernel_rfl) (by kernel_rfl) (by kernel_rfl) (by kernel_rfl)
  have hE := @run_callFunc_extern Tryz.prog 150 _ (ReflectliteValue.method (ReflectliteValue.valueError "reflectlite.Value.Elem" 0) ReflectliteValue.elem) Tryz.func150 (by kernel_rfl) (by kernel_rfl) (by kernel_rfl) (by kernel_rfl)
  have hS := @run_callFunc_extern Tryz.prog 151 _ ReflectliteValue.set Tryz.func151 (by kernel_rfl) (by kernel_rfl) (by kernel_rfl) (by kernel_rfl)
  have hT := @run_callFunc_extern Tryz.prog 129 _ gT Tryz.func129 (by kernel_rfl) (by kernel_rfl) (by kernel_rfl) fT
  have hK := @run_callFunc_extern Tryz.prog 211 _ gK Tryz.func211 (by kernel_rfl) (by kernel_rfl) (by kernel_rfl) fK
  have hL := @run_callFunc_extern Tryz.prog 226 _ gL Tryz.func226 (by kernel_rfl) (by kernel_rfl) (by kernel_rfl) fL
  have hM := @run_callFunc_extern Tryz.prog 227 _ gM Tryz.func227 (by kernel_rfl) (by kernel_rfl) (by kernel_rfl) fM
  have hA := @run_callFunc_extern Tryz.prog 224 _ gA Tryz.func224 (by kernel_rfl) (by kernel_rfl) (by kernel_rfl) fA
  have pO := asTypeOf
  have mA := asMethodAssignable
  have mK := asMethodKind
  have mE := asMethodElem
  have mI := asMethodImplements
  have pV := asValueOfP
  have pR := asValueOfR
  have W2 : ∃ w2, w2 = (w.alloc (.cells #[.pointer (some ⟨g, 0, none⟩)] 153)).alloc (.cells #[hd 153, .pointer (some ⟨w.heap.size, 0, none⟩), .int .u64 150] 168) := ⟨_, rfl⟩
  obtain ⟨w2, e2⟩ := W2
  have W3 : ∃ w3, w3 = w2.alloc (.cells #[hd 153, .pointer (some ⟨w.heap.size, 0, none⟩), .int .u64 150] 168) := ⟨_, rfl⟩
  obtain ⟨w3, e3⟩ := W3
  have W4 : ∃ w4, w4 = w3.alloc (.cells #[.int .i64 v, .int .i64 a, .bool o, .iface 253 (.pointer (some y))] 150) := ⟨_, rfl⟩
  obtain ⟨w4, e4⟩ := W4
  have s2 : w2.heap.size = w.heap.size + 2 := by rw [e2]; simp
  have s3 : w3.heap.size = w.heap.size + 3 := by rw [e3]; simp [s2]
  have q2 : Has w2 w.heap.size 153 #[.pointer (some ⟨g, 0, none⟩)] := by rw [e2]; exact (Has.fresh w _ _).alloc _
  have q3 : Has w3 w.heap.size 153 #[.pointer (some ⟨g, 0, none⟩)] := by rw [e3]; exact q2.alloc _
  have g4 : Has w4 g t #[y0, y1, y2, y3] := by rw [e4, e3, e2]; exact (((hg.alloc _).alloc _).alloc _).alloc _
  have r4 : Has w4 (w.heap.size + 3) 150 #[.int .i64 v, .int .i64 a, .bool o, .iface 253 (.pointer (some y))] := by rw [e4, ← s3]; exact Has.fresh w3 _ _
  have gr4 : w.grownBy w4 (some g) := by rw [e4, e3, e2]; exact gr_alloc (gr_alloc (gr_alloc (World.grownBy_alloc _ _ _) _) _) _
  have he2 : w2.cell? ⟨6, 0, none⟩ = some (ty 147) := by
    rw [e2, World.cell?_alloc_lt _ _ _ (by have := cell_lt he; simp at this ⊢; omega), World.cell?_alloc_lt _ _ _ (cell_lt he)]; exact he
  have pN := asIsNil ⟨w.heap.size, 0, none⟩ ⟨g, 0, none⟩ w2 (q2.cell 0)
  have pE := asElemV ⟨w.heap.size, 0, none⟩ ⟨g, 0, none⟩ w3 (q3.cell 0)
  have pS := asSet g (w.heap.size + 3) t 150 y0 y1 y2 y3 (.int .i64 v) (.int .i64 a) (.bool o) (.iface 253 (.pointer (some y))) w4 r4 g4 (by intro x hx; simp at hx; rcases hx with rfl | rfl | rfl | rfl <;> rfl)
  have fin : SetTo g t #[.int .i64 v, .int .i64 a, .bool o, .iface 253 (.pointer (some y))] w (.returned (.bool true)) (w4.setRow g #[.int .i64 v, .int .i64 a, .bool o, .iface 253 (.pointer (some y))]) := ⟨rfl, gr_row gr4 _, setRow_heap w4 g _ _ t (0, 0) g4⟩
  clear q2 q3 g4 r4 gr4 s2
  rw [e4] at pS fin
  clear e4 w4
  rw [e3] at pE pS fin
  clear e3 s3 w3
  rw [e2] at pN he2 pE pS fin
  clear e2 w2
  simp only [vp, ve, vr, ty, hd] at pV pR pT pK pK' pL pM pA pO pN pE pS he2 fin
  go_enter Tryz.func117, Tryz.ntmps117
  go_wp2
  refine wp_loop_rounds 1 ?_
  rw [rounds_succ]
  go_wp2
  go_ret
  exact fin
end Go.Proofs.YtdikhdfpcipdbaaGreatDoor.sane
