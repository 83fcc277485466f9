/- Chapter 8: errors.As of a refusal, into a variable of that type: it is set; true. Chapter 8 of the program: IsSane and Taken. -/
import Derived.Test.YtjbgcgblamijdaaGreatDoorG22
/- Chapter 8: errors.As of a refusal, into a variable of that type: it is set; true. -/
namespace Go.Proofs.YtjbgcgblamijdaaGreatDoor.sane
open Go.ChangeShapes Go.WideShapes Go.ChangeAt Go.RowKit
open Go.Extern.Stop Go.Stop Go.Extern
open Go.Proofs.YtjbgcgblamijdaaGreatDoor.nums Go.Proofs.YtjbgcgblamijdaaGreatDoor.mem
open Go.Proofs.YtjbgcgblamijdaaGreatDoor.tab (Ret)
set_option linter.unusedVariables false

/-- The block of a refusal's variable is set to these cells; of what was there nothing else is another. -/
def SetTo (g : Nat) (t : TypeId) (cs : Array Value) (w : World) (e : Ending) (w' : World) : Prop := e = .returned (.bool true) ∧ w.grownBy w' (some g) ∧ Has w' g t cs
/-- Go's variable errors.errorType holds the type 'error'. -/
def ErrT (w : World) : Prop := w.cell? ⟨6, 0, none⟩ = some (ty 170)
theorem gr_row {a w : World} {g : Nat} (h : a.grownBy w (some g)) (cs : Array Value) : a.grownBy (w.setRow g cs) (some g) :=
  ⟨h.os, h.tape, h.output, by rw [setRow_size]; exact h.size, fun k hk hn => (setRow_other w g k cs (by intro e; exact hn (by rw [e]))).trans (h.block k hk hn)⟩
theorem cell_lt {w : World} {a : Addr} {v : Value} (h : w.cell? a = some v) : a.block < w.heap.size := by
  rcases Nat.lt_or_ge a.block w.heap.size with h1 | h1
  · exact h1
  · simp [World.cell?, Array.getElem?_eq_none h1] at h

set_option maxHeartbeats 4000000 in
theorem as_hit (v a : Int) (o : Bool) (y : Addr) (g : Nat) (y0 y1 y2 y3 : Value) (t : TypeId) (w : World) (he : ErrT w) (hg : Has w g t #[y0, y1, y2, y3]) :
    Calls Tryz.prog 142 #[refE v a o y, .iface 176 (.pointer (some ⟨g, 0, none⟩))] w (SetTo g t #[.int .i64 v, .int .i64 a, .bool o, .iface 276 (.pointer (some y))] w) := by
  unfold refE
  obtain ⟨gT, fT, pT⟩ := asType
  obtain ⟨gK, fK, pK, pK'⟩ := asKind
  obtain ⟨gL, fL, pL⟩ := asElem
  obtain ⟨gM, fM, pM⟩ := asImplements
  obtain ⟨gA, fA, pA⟩ := asAssignable
  have hV := @run_callFunc_extern Tryz.prog 153 _ (fun args => ReflectliteValue.unpack (args.getD 0 (.tuple #[]))) Tryz.func153 (by kernel_rfl) (by kernel_rfl) (by kernel_rfl) (by kernel_rfl)
  have hI := @run_callFunc_extern Tryz.prog 155 _ (ReflectliteValue.method (ReflectliteValue.valueError "reflectlite.Value.IsNil" 0) ReflectliteValue.isNil) Tryz.func155 (by kernel_rfl) (by kernel_rfl) (by kernel_rfl) (by kernel_rfl)
  have hO := @run_callFunc_extern Tryz.prog 151 _ Extern.ReflectliteType.typeOf Tryz.func151 (by kernel_rfl) (by kernel_rfl) (by kernel_rfl) (by kernel_rfl)
  have hE := @run_callFunc_extern Tryz.prog 175 _ (ReflectliteValue.method (ReflectliteValue.valueError "reflectlite.Value.Elem" 0) ReflectliteValue.elem) Tryz.func175 (by kernel_rfl) (by kernel_rfl) (by kernel_rfl) (by kernel_rfl)
  have hS := @run_callFunc_extern Tryz.prog 176 _ ReflectliteValue.set Tryz.func176 (by kernel_rfl) (by kernel_rfl) (by kernel_rfl) (by kernel_rfl)
  have hT := @run_callFunc_extern Tryz.prog 154 _ gT Tryz.func154 (by kernel_rfl) (by kernel_rfl) (by kernel_rfl) fT
  have hK := @run_callFunc_extern Tryz.prog 236 _ gK Tryz.func236 (by kernel_rfl) (by kernel_rfl) (by kernel_rfl) fK
  have hL := @run_callFunc_extern Tryz.prog 250 _ gL Tryz.func250 (by kernel_rfl) (by kernel_rfl) (by kernel_rfl) fL
  have hM := @run_callFunc_extern Tryz.prog 251 _ gM Tryz.func251 (by kernel_rfl) (by kernel_rfl) (by kernel_rfl) fM
  have hA := @run_callFunc_extern Tryz.prog 248 _ gA Tryz.func248 (by kernel_rfl) (by kernel_rfl) (by kernel_rfl) fA
  have pO := asTypeOf
  have mA := asMethodAssignable
  have mK := asMethodKind
  have mE := asMethodElem
  have mI := asMethodImplements
  have pV := asValueOfP
  have pR := asValueOfR
  have W2 : ∃ w2, w2 = (w.alloc (.cells #[.pointer (some ⟨g, 0, none⟩)] 176)).alloc (.cells #[hd 176, .pointer (some ⟨w.heap.size, 0, none⟩), .int .u64 150] 191) := ⟨_, rfl⟩
  obtain ⟨w2, e2⟩ := W2
  have W3 : ∃ w3, w3 = w2.alloc (.cells #[hd 176, .pointer (some ⟨w.heap.size, 0, none⟩), .int .u64 150] 191) := ⟨_, rfl⟩
  obtain ⟨w3, e3⟩ := W3
  have W4 : ∃ w4, w4 = w3.alloc (.cells #[.int .i64 v, .int .i64 a, .bool o, .iface 276 (.pointer (some y))] 173) := ⟨_, rfl⟩
  obtain ⟨w4, e4⟩ := W4
  have s2 : w2.heap.size = w.heap.size + 2 := by rw [e2]; simp
  have s3 : w3.heap.size = w.heap.size + 3 := by rw [e3]; simp [s2]
  have q2 : Has w2 w.heap.size 176 #[.pointer (some ⟨g, 0, none⟩)] := by rw [e2]; exact (Has.fresh w _ _).alloc _
  have q3 : Has w3 w.heap.size 176 #[.pointer (some ⟨g, 0, none⟩)] := by rw [e3]; exact q2.alloc _
  have g4 : Has w4 g t #[y0, y1, y2, y3] := by rw [e4, e3, e2]; exact (((hg.alloc _).alloc _).alloc _).alloc _
  have r4 : Has w4 (w.heap.size + 3) 173 #[.int .i64 v, .int .i64 a, .bool o, .iface 276 (.pointer (some y))] := by rw [e4, ← s3]; exact Has.fresh w3 _ _
  have gr4 : w.grownBy w4 (some g) := by rw [e4, e3, e2]; exact gr_alloc (gr_alloc (gr_alloc (World.grownBy_alloc _ _ _) _) _) _
  have he2 : w2.cell? ⟨6, 0, none⟩ = some (ty 170) := by
    rw [e2, World.cell?_alloc_lt _ _ _ (by have := cell_lt he; simp at this ⊢; omega), World.cell?_alloc_lt _ _ _ (cell_lt he)]; exact he
  have pN := asIsNil ⟨w.heap.size, 0, none⟩ ⟨g, 0, none⟩ w2 (q2.cell 0)
  have pE := asElemV ⟨w.heap.size, 0, none⟩ ⟨g, 0, none⟩ w3 (q3.cell 0)
  have pS := asSet g (w.heap.size + 3) t 173 y0 y1 y2 y3 (.int .i64 v) (.int .i64 a) (.bool o) (.iface 276 (.pointer (some y))) w4 r4 g4 (by intro x hx; simp at hx; rcases hx with rfl | rfl | rfl | rfl <;> rfl)
  have fin : SetTo g t #[.int .i64 v, .int .i64 a, .bool o, .iface 276 (.pointer (some y))] w (.returned (.bool true)) (w4.setRow g #[.int .i64 v, .int .i64 a, .bool o, .iface 276 (.pointer (some y))]) := ⟨rfl, gr_row gr4 _, setRow_heap w4 g _ _ t (0, 0) g4⟩
  clear q2 q3 g4 r4 gr4 s2
  rw [e4] at pS fin
  clear e4 w4
  rw [e3] at pE pS fin
  clear e3 s3 w3
  rw [e2] at pN he2 pE pS fin
  clear e2 w2
  simp only [vp, ve, vr, ty, hd] at pV pR pT pK pK' pL pM pA pO pN pE pS he2 fin
  go_enter Tryz.func142, Tryz.ntmps142
  go_wp2
  refine wp_loop_rounds 1 ?_
  rw [rounds_succ]
  go_wp2
  go_ret
  exact fin
end Go.Proofs.YtjbgcgblamijdaaGreatDoor.sane

/- Chapter 8 of the program: IsSane and Taken. -/
namespace Go.Proofs.YtjbgcgblamijdaaGreatDoor.sane
open Go.ChangeShapes Go.WideShapes Go.ChangeAt Go.RowKit
open Go.Proofs.YtjbgcgblamijdaaGreatDoor.nums Go.Proofs.YtjbgcgblamijdaaGreatDoor.mem
open Go.Proofs.YtjbgcgblamijdaaGreatDoor.tab (Ret quiet_w)
open Go.Proofs.YtjbgcgblamijdaaGreatDoor.rd (okR okR_iff RetR)
set_option linter.unusedVariables false

theorem whyE_nil {lo hi ra v a x : Int} {o : Bool} {n f q : Addr} (h : saneB lo hi ra v a x o = true) : whyE lo hi ra v a x o n f q = .nilIface := by
  unfold saneB at h
  simp at h
  obtain ⟨h0, h1, h2, h3⟩ := h
  unfold whyE
  rw [if_neg (by rw [h0, h1]; simp), if_neg (by rw [h2]; simp), if_neg (by rcases h3 with h3 | h3 <;> rw [h3] <;> simp)]
theorem whyE_no {lo hi ra v a x : Int} {o : Bool} {n f q : Addr} (h : (okG lo hi ra && okR (v, a, o)) = false) : whyE lo hi ra v a x o n f q = refE v a o n := if_pos h
theorem whyE_ref {lo hi ra v a x : Int} {o : Bool} {n f q : Addr} (h : okG lo hi ra = true) (h' : okR (v, a, o) = true) (hs : saneB lo hi ra v a x o = false) : ∃ y, (y = f ∨ y = q) ∧ whyE lo hi ra v a x o n f q = refE v a o y := by
  unfold whyE
  rw [if_neg (by rw [h, h']; simp)]
  rcases Bool.eq_false_or_eq_true (inb x lo hi) with h2 | h2
  · unfold saneB at hs
    rw [h, h', h2] at hs
    refine ⟨q, .inr rfl, ?_⟩
    rw [if_neg (by rw [h2]; simp), if_pos (by cases o <;> simp at hs ⊢; exact hs)]
  · exact ⟨f, .inl rfl, if_pos h2⟩
theorem whyE_some {lo hi ra v a x : Int} {o : Bool} {n f q : Addr} (hs : saneB lo hi ra v a x o = false) : ∃ y, whyE lo hi ra v a x o n f q = refE v a o y := by
  rcases Bool.eq_false_or_eq_true (okG lo hi ra && okR (v, a, o)) with h | h
  · obtain ⟨h0, h1⟩ := Bool.and_eq_true_iff.1 h
    obtain ⟨y, _, e⟩ := whyE_ref (n := n) (f := f) (q := q) h0 h1 hs
    exact ⟨y, e⟩
  · exact ⟨n, whyE_no h⟩
theorem eql_some_nil (t : TypeId) (v : Value) (w : World) : (binOp .eql 170 (.iface t v) .nilIface).run Tryz.prog w = .ok (.bool false) w := by
  have h : ∀ d : Nat, (Op.equalIn (d + 1) 170 (.iface t v) .nilIface).run Tryz.prog w = .ok false w := fun d => by simp [Op.equalIn, run_underlying Tryz.underlying170]
  simp only [binOp]
  simp [Op.equal, Op.maxDepth, h 9999]
theorem eql_nil_nil (w : World) : (binOp .eql 170 .nilIface .nilIface).run Tryz.prog w = .ok (.bool true) w := by
  have h : ∀ d : Nat, (Op.equalIn (d + 1) 170 .nilIface .nilIface).run Tryz.prog w = .ok true w := fun d => by simp [Op.equalIn, run_underlying Tryz.underlying170]
  simp only [binOp]
  simp [Op.equal, Op.maxDepth, h 9999]

end Go.Proofs.YtjbgcgblamijdaaGreatDoor.sane

