/- Chapter 8: errors.As of a refusal, into a variable of that type: it is set; true. Chapter 8 of the program: IsSane and Taken. Chapter 8 of the program: Taken. What came in: senses; read, their bulk. -/
import Derived.Test.YtdikhdfpcipdbaaGreatDoorG11
import Derived.Test.YtdikhdfpcipdbaaGreatDoorG4
import Derived.ChangeSame
import Derived.Deep.Strs
import Derived.StillTailTactics
/- Chapter 8: errors.As of a refusal, into a variable of that type: it is set; true. -/
namespace Go.Proofs.YtdikhdfpcipdbaaGreatDoor.sane
open Go.ChangeShapes Go.WideShapes Go.ChangeAt Go.RowKit
open Go.Extern.Stop Go.Stop Go.Extern
open Go.Proofs.YtdikhdfpcipdbaaGreatDoor.nums Go.Proofs.YtdikhdfpcipdbaaGreatDoor.mem
open Go.Proofs.YtdikhdfpcipdbaaGreatDoor.tab (Ret)
set_option linter.unusedVariables false

/-- The block of a refusal's variable is set to these cells; of what was there nothing else is another. -/
def SetTo (g : Nat) (t : TypeId) (cs : Array Value) (w : World) (e : Ending) (w' : World) : Prop := e = .returned (.bool true) ∧ w.grownBy w' (some g) ∧ Has w' g t cs
/-- Go's variable errors.errorType holds the type 'error'. -/
def ErrT (w : World) : Prop := w.cell? ⟨6, 0, none⟩ = some (ty 147)
theorem gr_row {a w : World} {g : Nat} (h : a.grownBy w (some g)) (cs : Array Value) : a.grownBy (w.setRow g cs) (some g) :=
  ⟨h.os, h.tape, h.output, by rw [setRow_size]; exact h.size, fun k hk hn => (setRow_other w g k cs (by intro e; exact hn (by rw [e]))).trans (h.block k hk hn)⟩
theorem cell_lt {w : World} {a : Addr} {v : Value} (h : w.cell? a = some v) : a.block < w.heap.size := by
  rcases Nat.lt_or_ge a.block w.heap.size with h1 | h1
  · exact h1
  · simp [World.cell?, Array.getElem?_eq_none h1] at h

set_option maxHeartbeats 4000000 in
theorem as_hit (v a : Int) (o : Bool) (y : Addr) (g : Nat) (y0 y1 y2 y3 : Value) (t : TypeId) (w : World) (he : ErrT w) (hg : Has w g t #[y0, y1, y2, y3]) :
    Calls Tryz.prog 117 #[refE v a o y, .iface 153 (.pointer (some ⟨g, 0, none⟩))] w (SetTo g t #[.int .i64 v, .int .i64 a, .bool o, .iface 253 (.pointer (some y))] w) := by
  unfold refE
  obtain ⟨gT, fT, pT⟩ := asType
  obtain ⟨gK, fK, pK, pK'⟩ := asKind
  obtain ⟨gL, fL, pL⟩ := asElem
  obtain ⟨gM, fM, pM⟩ := asImplements
  obtain ⟨gA, fA, pA⟩ := asAssignable
  have hV := @run_callFunc_extern Tryz.prog 128 _ (fun args => ReflectliteValue.unpack (args.getD 0 (.tuple #[]))) Tryz.func128 (by kernel_rfl) (by kernel_rfl) (by kernel_rfl) (by kernel_rfl)
  have hI := @run_callFunc_extern Tryz.prog 130 _ (ReflectliteValue.method (ReflectliteValue.valueError "reflectlite.Value.IsNil" 0) ReflectliteValue.isNil) Tryz.func130 (by kernel_rfl) (by kernel_rfl) (by kernel_rfl) (by kernel_rfl)
  have hO := @run_callFunc_extern Tryz.prog 126 _ Extern.ReflectliteType.typeOf Tryz.func126 (by kernel_rfl) (by kernel_rfl) (by kernel_rfl) (by kernel_rfl)
  have hE := @run_callFunc_extern Tryz.prog 150 _ (ReflectliteValue.method (ReflectliteValue.valueError "reflectlite.Value.Elem" 0) ReflectliteValue.elem) Tryz.func150 (by kernel_rfl) (by kernel_rfl) (by kernel_rfl) (by kernel_rfl)
  have hS := @run_callFunc_extern Tryz.prog 151 _ ReflectliteValue.set Tryz.func151 (by kernel_rfl) (by kernel_rfl) (by kernel_rfl) (by kernel_rfl)
  have hT := @run_callFunc_extern Tryz.prog 129 _ gT Tryz.func129 (by kernel_rfl) (by kernel_rfl) (by kernel_rfl) fT
  have hK := @run_callFunc_extern Tryz.prog 211 _ gK Tryz.func211 (by kernel_rfl) (by kernel_rfl) (by kernel_rfl) fK
  have hL := @run_callFunc_extern Tryz.prog 226 _ gL Tryz.func226 (by kernel_rfl) (by kernel_rfl) (by kernel_rfl) fL
  have hM := @run_callFunc_extern Tryz.prog 227 _ gM Tryz.func227 (by kernel_rfl) (by kernel_rfl) (by kernel_rfl) fM
  have hA := @run_callFunc_extern Tryz.prog 224 _ gA Tryz.func224 (by kernel_rfl) (by kernel_rfl) (by kernel_rfl) fA
  have pO := asTypeOf
  have mA := asMethodAssignable
  have mK := asMethodKind
  have mE := asMethodElem
  have mI := asMethodImplements
  have pV := asValueOfP
  have pR := asValueOfR
  have W2 : ∃ w2, w2 = (w.alloc (.cells #[.pointer (some ⟨g, 0, none⟩)] 153)).alloc (.cells #[hd 153, .pointer (some ⟨w.heap.size, 0, none⟩), .int .u64 150] 168) := ⟨_, rfl⟩
  obtain ⟨w2, e2⟩ := W2
  have W3 : ∃ w3, w3 = w2.alloc (.cells #[hd 153, .pointer (some ⟨w.heap.size, 0, none⟩), .int .u64 150] 168) := ⟨_, rfl⟩
  obtain ⟨w3, e3⟩ := W3
  have W4 : ∃ w4, w4 = w3.alloc (.cells #[.int .i64 v, .int .i64 a, .bool o, .iface 253 (.pointer (some y))] 150) := ⟨_, rfl⟩
  obtain ⟨w4, e4⟩ := W4
  have s2 : w2.heap.size = w.heap.size + 2 := by rw [e2]; simp
  have s3 : w3.heap.size = w.heap.size + 3 := by rw [e3]; simp [s2]
  have q2 : Has w2 w.heap.size 153 #[.pointer (some ⟨g, 0, none⟩)] := by rw [e2]; exact (Has.fresh w _ _).alloc _
  have q3 : Has w3 w.heap.size 153 #[.pointer (some ⟨g, 0, none⟩)] := by rw [e3]; exact q2.alloc _
  have g4 : Has w4 g t #[y0, y1, y2, y3] := by rw [e4, e3, e2]; exact (((hg.alloc _).alloc _).alloc _).alloc _
  have r4 : Has w4 (w.heap.size + 3) 150 #[.int .i64 v, .int .i64 a, .bool o, .iface 253 (.pointer (some y))] := by rw [e4, ← s3]; exact Has.fresh w3 _ _
  have gr4 : w.grownBy w4 (some g) := by rw [e4, e3, e2]; exact gr_alloc (gr_alloc (gr_alloc (World.grownBy_alloc _ _ _) _) _) _
  have he2 : w2.cell? ⟨6, 0, none⟩ = some (ty 147) := by
    rw [e2, World.cell?_alloc_lt _ _ _ (by have := cell_lt he; simp at this ⊢; omega), World.cell?_alloc_lt _ _ _ (cell_lt he)]; exact he
  have pN := asIsNil ⟨w.heap.size, 0, none⟩ ⟨g, 0, none⟩ w2 (q2.cell 0)
  have pE := asElemV ⟨w.heap.size, 0, none⟩ ⟨g, 0, none⟩ w3 (q3.cell 0)
  have pS := asSet g (w.heap.size + 3) t 150 y0 y1 y2 y3 (.int .i64 v) (.int .i64 a) (.bool o) (.iface 253 (.pointer (some y))) w4 r4 g4 (by intro x hx; simp at hx; rcases hx with rfl | rfl | rfl | rfl <;> rfl)
  have fin : SetTo g t #[.int .i64 v, .int .i64 a, .bool o, .iface 253 (.pointer (some y))] w (.returned (.bool true)) (w4.setRow g #[.int .i64 v, .int .i64 a, .bool o, .iface 253 (.pointer (some y))]) := ⟨rfl, gr_row gr4 _, setRow_heap w4 g _ _ t (0, 0) g4⟩
  clear q2 q3 g4 r4 gr4 s2
  rw [e4] at pS fin
  clear e4 w4
  rw [e3] at pE pS fin
  clear e3 s3 w3
  rw [e2] at pN he2 pE pS fin
  clear e2 w2
  simp only [vp, ve, vr, ty, hd] at pV pR pT pK pK' pL pM pA pO pN pE pS he2 fin
  go_enter Tryz.func117, Tryz.ntmps117
  go_wp2
  refine wp_loop_rounds 1 ?_
  rw [rounds_succ]
  go_wp2
  go_ret
  exact fin
end Go.Proofs.YtdikhdfpcipdbaaGreatDoor.sane

/- Chapter 8 of the program: IsSane and Taken. -/
namespace Go.Proofs.YtdikhdfpcipdbaaGreatDoor.sane
open Go.ChangeShapes Go.WideShapes Go.ChangeAt Go.RowKit
open Go.Proofs.YtdikhdfpcipdbaaGreatDoor.nums Go.Proofs.YtdikhdfpcipdbaaGreatDoor.mem
open Go.Proofs.YtdikhdfpcipdbaaGreatDoor.tab (Ret quiet_w)
open Go.Proofs.YtdikhdfpcipdbaaGreatDoor.rd (okR okR_iff RetR)
set_option linter.unusedVariables false

theorem whyE_nil {lo hi ra v a x : Int} {o : Bool} {n f q : Addr} (h : saneB lo hi ra v a x o = true) : whyE lo hi ra v a x o n f q = .nilIface := by
  unfold saneB at h
  simp at h
  obtain ⟨h0, h1, h2, h3⟩ := h
  unfold whyE
  rw [if_neg (by rw [h0, h1]; simp), if_neg (by rw [h2]; simp), if_neg (by rcases h3 with h3 | h3 <;> rw [h3] <;> simp)]
theorem whyE_no {lo hi ra v a x : Int} {o : Bool} {n f q : Addr} (h : (okG lo hi ra && okR (v, a, o)) = false) : whyE lo hi ra v a x o n f q = refE v a o n := if_pos h
theorem whyE_ref {lo hi ra v a x : Int} {o : Bool} {n f q : Addr} (h : okG lo hi ra = true) (h' : okR (v, a, o) = true) (hs : saneB lo hi ra v a x o = false) : ∃ y, (y = f ∨ y = q) ∧ whyE lo hi ra v a x o n f q = refE v a o y := by
  unfold whyE
  rw [if_neg (by rw [h, h']; simp)]
  rcases Bool.eq_false_or_eq_true (inb x lo hi) with h2 | h2
  · unfold saneB at hs
    rw [h, h', h2] at hs
    refine ⟨q, .inr rfl, ?_⟩
    rw [if_neg (by rw [h2]; simp), if_pos (by cases o <;> simp at hs ⊢; exact hs)]
  · exact ⟨f, .inl rfl, if_pos h2⟩
end Go.Proofs.YtdikhdfpcipdbaaGreatDoor.sane

/- Chapter 8 of the program: Taken. -/
namespace Go.Proofs.YtdikhdfpcipdbaaGreatDoor.sane
open Go.ChangeShapes Go.WideShapes Go.ChangeAt Go.RowKit
open Go.Proofs.YtdikhdfpcipdbaaGreatDoor.nums Go.Proofs.YtdikhdfpcipdbaaGreatDoor.mem
open Go.Proofs.YtdikhdfpcipdbaaGreatDoor.tab (Ret quiet_w)
open Go.Proofs.YtdikhdfpcipdbaaGreatDoor.rd (okR okR_iff RetR)
set_option linter.unusedVariables false

/-- The three errors lie in three blocks; neither of the last two is the first. -/
structure ErrB (w : World) (n f q : Addr) : Prop where
  vars : Errs w n f q
  bn : ∃ t c, Has w n.block t c
  bf : ∃ t c, Has w f.block t c
  bq : ∃ t c, Has w q.block t c
  nf : f ≠ n
  nq : q ≠ n
theorem ErrB.kept {w w' : World} {n f q : Addr} (h : ErrB w n f q) (hg : w.grownBy w' none) : ErrB w' n f q :=
  ⟨h.vars.kept hg, by obtain ⟨t, c, h⟩ := h.bn; exact ⟨t, c, h.grown hg (by simp)⟩, by obtain ⟨t, c, h⟩ := h.bf; exact ⟨t, c, h.grown hg (by simp)⟩, by obtain ⟨t, c, h⟩ := h.bq; exact ⟨t, c, h.grown hg (by simp)⟩, h.nf, h.nq⟩
theorem ErrB.other {w : World} {n f q y : Addr} (h : ErrB w n f q) (hy : y = f ∨ y = q) : y ≠ n ∧ (∃ t c, Has w y.block t c) := by
  rcases hy with rfl | rfl
  · exact ⟨h.nf, h.bf⟩
  · exact ⟨h.nq, h.bq⟩
theorem ErrT.kept {w w' : World} (h : ErrT w) (hg : w.grownBy w' none) : ErrT w' := cell_kept h hg
theorem four {w : World} {g : Nat} {t : TypeId} {a b c d : Value} (h : Has w g t #[a, b, c, d]) : w.cell? ⟨g, 0, none⟩ = some a ∧ w.cell? ⟨g, 1, none⟩ = some b ∧ w.cell? ⟨g, 2, none⟩ = some c ∧ w.cell? ⟨g, 3, none⟩ = some d ∧ w.frozen? ⟨g, 0, none⟩ = false ∧ w.frozen? ⟨g, 1, none⟩ = false ∧ w.frozen? ⟨g, 2, none⟩ = false ∧ w.frozen? ⟨g, 3, none⟩ = false :=
  ⟨h.cell 0, h.cell 1, h.cell 2, h.cell 3, h.frozen 0, h.frozen 1, h.frozen 2, h.frozen 3⟩

set_option maxHeartbeats 1000000 in
theorem implTaken (lo hi ra v a x : Int) (o : Bool) (n f q : Addr) (w : World) (he : ErrB w n f q) (ht : ErrT w) : Calls Tryz.prog 94 #[.agg #[.int .i64 lo, .int .i64 hi, .int .i64 ra], .agg #[.int .i64 v, .int .i64 a, .bool o], .int .i64 x] w (RetR (taken lo hi ra v a x o) w) := by
  have aG := ((Has.fresh w 72 #[.int .i64 lo, .int .i64 hi, .int .i64 ra]).alloc (Obj.cells #[.int .i64 v, .int .i64 a, .bool o] 42)).alloc (Obj.cells #[.int .i64 0, .int .i64 0, .bool false] 42)
  have aR := (rd.fresh1 w (Obj.cells #[.int .i64 lo, .int .i64 hi, .int .i64 ra] 72) 42 #[.int .i64 v, .int .i64 a, .bool o]).alloc (Obj.cells #[.int .i64 0, .int .i64 0, .bool false] 42)
  have aZ := rd.fresh1 (w.alloc (Obj.cells #[.int .i64 lo, .int .i64 hi, .int .i64 ra] 72)) (Obj.cells #[.int .i64 v, .int .i64 a, .bool o] 42) 42 #[.int .i64 0, .int .i64 0, .bool false]
  have g0 : w.grownBy (((w.alloc (Obj.cells #[.int .i64 lo, .int .i64 hi, .int .i64 ra] 72)).alloc (Obj.cells #[.int .i64 v, .int .i64 a, .bool o] 42)).alloc (Obj.cells #[.int .i64 0, .int .i64 0, .bool false] 42)) none := gr_alloc (gr_alloc (World.grownBy_alloc _ _ _) _) _
  simp only [World.size_alloc] at aZ
  have hE := he.kept g0
  have hT := ht.kept g0
  rcases Bool.eq_false_or_eq_true (okG lo hi ra && okR (v, a, o)) with h | h
  rotate_left
  · rw [taken_no h]
    go_enter Tryz.func94, Tryz.ntmps94
    go_wp2_with fail
    refine (implWhyNot lo hi ra v a x o n f q _ hE.vars).mono ?_
    rintro e w1 ⟨rfl, hg⟩
    have s1 := hg.size
    simp only [World.size_alloc] at s1
    replace hg := gr_alloc hg (Obj.cells #[.int .i64 0, .int .i64 0, .bool false, .nilIface] 150)
    have aF := Has.fresh w1 150 #[.int .i64 0, .int .i64 0, .bool false, .nilIface]
    replace aG := aG.grown hg (by simp)
    replace aR := aR.grown hg (by simp)
    replace aZ := aZ.grown hg (by simp)
    replace g0 := gr_trans g0 hg
    replace hE := hE.kept hg
    replace hT := hT.kept hg
    clear hg
    obtain ⟨c0, c1, c2, cf0, cf1, cf2⟩ := rd.three aG
    obtain ⟨d0, d1, d2, df0, df1, df2⟩ := rd.three aR
    obtain ⟨z0, z1, z2, zf0, zf1, zf2⟩ := rd.three aZ
    obtain ⟨f0, f1, f2, f3, ff0, ff1, ff2, ff3⟩ := four aF
    have en := hE.vars.cn
    rw [whyE_no h]
    go_wp2_with fail
    refine (is_same v a o n _).mono ?_
    rintro e w2 ⟨rfl, hg⟩
    have s2 := aF.lt
    replace aG := aG.grown hg (by simp)
    replace aR := aR.grown hg (by simp)
    replace aZ := aZ.grown hg (by simp)
    replace aF := aF.grown hg (by simp)
    replace g0 := gr_trans g0 hg
    replace hE := hE.kept hg
    replace hT := hT.kept hg
    clear hg
    clear c0 c1 c2 cf0 cf1 cf2 d0 d1 d2 df0 df1 df2 z0 z1 z2 zf0 zf1 zf2 f0 f1 f2 f3 ff0 ff1 ff2 ff3 en
    obtain ⟨c0, c1, c2, cf0, cf1, cf2⟩ := rd.three aG
    obtain ⟨d0, d1, d2, df0, df1, df2⟩ := rd.three aR
    obtain ⟨z0, z1, z2, zf0, zf1, zf2⟩ := rd.three aZ
    obtain ⟨f0, f1, f2, f3, ff0, ff1, ff2, ff3⟩ := four aF
    have en := hE.vars.cn
    go_wp2_with fail
    obtain ⟨k0, k1, k2, _, _, _⟩ := rd.three (rd.set3 aZ (.int .i64 (0)) (.int .i64 (0)) (.bool false))
    exact bodyPost_ret (v := .agg #[.int .i64 (0), .int .i64 (0), .bool false]) (by simp [results, Tryz.results94, go_sem, k0, k1, k2]) rfl ⟨rfl, gr_new (gr_new (gr_new g0 (by omega) _ _) (by omega) _ _) (by omega) _ _⟩
  obtain ⟨h0, h1⟩ := Bool.and_eq_true_iff.1 h
  rcases Bool.eq_false_or_eq_true (saneB lo hi ra v a x o) with h2 | h2
  · rw [taken_got h0 h1 h2]
    go_enter Tryz.func94, Tryz.ntmps94
    go_wp2_with fail
    refine (implWhyNot lo hi ra v a x o n f q _ hE.vars).mono ?_
    rintro e w1 ⟨rfl, hg⟩
    have s1 := hg.size
    simp only [World.size_alloc] at s1
    replace hg := gr_alloc hg (Obj.cells #[.int .i64 0, .int .i64 0, .bool false, .nilIface] 150)
    have aF := Has.fresh w1 150 #[.int .i64 0, .int .i64 0, .bool false, .nilIface]
    replace aG := aG.grown hg (by simp)
    replace aR := aR.grown hg (by simp)
    replace aZ := aZ.grown hg (by simp)
    replace g0 := gr_trans g0 hg
    replace hE := hE.kept hg
    replace hT := hT.kept hg
    clear hg
    obtain ⟨c0, c1, c2, cf0, cf1, cf2⟩ := rd.three aG
    obtain ⟨d0, d1, d2, df0, df1, df2⟩ := rd.three aR
    obtain ⟨z0, z1, z2, zf0, zf1, zf2⟩ := rd.three aZ
    obtain ⟨f0, f1, f2, f3, ff0, ff1, ff2, ff3⟩ := four aF
    have en := hE.vars.cn
    rw [whyE_nil h2]
    go_wp2_with fail
    refine (is_nil n _).mono ?_
    rintro e w2 ⟨rfl, hg⟩
    have s2 := aF.lt
    replace aG := aG.grown hg (by simp)
    replace aR := aR.grown hg (by simp)
    replace aZ := aZ.grown hg (by simp)
    replace aF := aF.grown hg (by simp)
    replace g0 := gr_trans g0 hg
    replace hE := hE.kept hg
    replace hT := hT.kept hg
    clear hg
    clear c0 c1 c2 cf0 cf1 cf2 d0 d1 d2 df0 df1 df2 z0 z1 z2 zf0 zf1 zf2 f0 f1 f2 f3 ff0 ff1 ff2 ff3 en
    obtain ⟨c0, c1, c2, cf0, cf1, cf2⟩ := rd.three aG
    obtain ⟨d0, d1, d2, df0, df1, df2⟩ := rd.three aR
    obtain ⟨z0, z1, z2, zf0, zf1, zf2⟩ := rd.three aZ
    obtain ⟨f0, f1, f2, f3, ff0, ff1, ff2, ff3⟩ := four aF
    have en := hE.vars.cn
    go_wp2_with fail
    refine (as_nil _ _).mono ?_
    rintro e w3 ⟨rfl, hg⟩
    have s3 := aF.lt
    replace aG := aG.grown hg (by simp)
    replace aR := aR.grown hg (by simp)
    replace aZ := aZ.grown hg (by simp)
    replace aF := aF.grown hg (by simp)
    replace g0 := gr_trans g0 hg
    replace hE := hE.kept hg
    replace hT := hT.kept hg
    clear hg
    clear c0 c1 c2 cf0 cf1 cf2 d0 d1 d2 df0 df1 df2 z0 z1 z2 zf0 zf1 zf2 f0 f1 f2 f3 ff0 ff1 ff2 ff3 en
    obtain ⟨c0, c1, c2, cf0, cf1, cf2⟩ := rd.three aG
    obtain ⟨d0, d1, d2, df0, df1, df2⟩ := rd.three aR
    obtain ⟨z0, z1, z2, zf0, zf1, zf2⟩ := rd.three aZ
    obtain ⟨f0, f1, f2, f3, ff0, ff1, ff2, ff3⟩ := four aF
    have en := hE.vars.cn
    go_wp2_with fail
    refine (rd.implGot _ _ _ _ _).mono ?_
    rw [got_in h0 h1 h2]
    rintro e w4 ⟨rfl, hg⟩
    have s4 := aF.lt
    replace aG := aG.grown hg (by simp)
    replace aR := aR.grown hg (by simp)
    replace aZ := aZ.grown hg (by simp)
    replace aF := aF.grown hg (by simp)
    replace g0 := gr_trans g0 hg
    replace hE := hE.kept hg
    replace hT := hT.kept hg
    clear hg
    clear c0 c1 c2 cf0 cf1 cf2 d0 d1 d2 df0 df1 df2 z0 z1 z2 zf0 zf1 zf2 f0 f1 f2 f3 ff0 ff1 ff2 ff3 en
    obtain ⟨c0, c1, c2, cf0, cf1, cf2⟩ := rd.three aG
    obtain ⟨d0, d1, d2, df0, df1, df2⟩ := rd.three aR
    obtain ⟨z0, z1, z2, zf0, zf1, zf2⟩ := rd.three aZ
    obtain ⟨f0, f1, f2, f3, ff0, ff1, ff2, ff3⟩ := four aF
    have en := hE.vars.cn
    go_wp2_with fail
    obtain ⟨k0, k1, k2, _, _, _⟩ := rd.three (rd.set3 aZ (.int .i64 (x)) (.int .i64 (0)) (.bool true))
    exact bodyPost_ret (v := .agg #[.int .i64 (x), .int .i64 (0), .bool true]) (by simp [results, Tryz.results94, go_sem, k0, k1, k2]) rfl ⟨rfl, gr_new (gr_new (gr_new g0 (by omega) _ _) (by omega) _ _) (by omega) _ _⟩
  · rw [taken_old h0 h1 h2]
    obtain ⟨y, hy, hyE⟩ := whyE_ref (n := n) (f := f) (q := q) h0 h1 h2
    go_enter Tryz.func94, Tryz.ntmps94
    go_wp2_with fail
    refine (implWhyNot lo hi ra v a x o n f q _ hE.vars).mono ?_
    rintro e w1 ⟨rfl, hg⟩
    have s1 := hg.size
    simp only [World.size_alloc] at s1
    replace hg := gr_alloc hg (Obj.cells #[.int .i64 0, .int .i64 0, .bool false, .nilIface] 150)
    have aF := Has.fresh w1 150 #[.int .i64 0, .int .i64 0, .bool false, .nilIface]
    replace aG := aG.grown hg (by simp)
    replace aR := aR.grown hg (by simp)
    replace aZ := aZ.grown hg (by simp)
    replace g0 := gr_trans g0 hg
    replace hE := hE.kept hg
    replace hT := hT.kept hg
    clear hg
    obtain ⟨c0, c1, c2, cf0, cf1, cf2⟩ := rd.three aG
    obtain ⟨d0, d1, d2, df0, df1, df2⟩ := rd.three aR
    obtain ⟨z0, z1, z2, zf0, zf1, zf2⟩ := rd.three aZ
    obtain ⟨f0, f1, f2, f3, ff0, ff1, ff2, ff3⟩ := four aF
    have en := hE.vars.cn
    rw [hyE]
    go_wp2_with fail
    obtain ⟨tn, cn, bn⟩ := hE.bn
    obtain ⟨hny, ty, cy, by1⟩ := hE.other hy
    refine (is_other v a o y n cy cn ty tn _ hny by1 bn).mono ?_
    rintro e w2 ⟨rfl, hg⟩
    have s2 := aF.lt
    replace aG := aG.grown hg (by simp)
    replace aR := aR.grown hg (by simp)
    replace aZ := aZ.grown hg (by simp)
    replace aF := aF.grown hg (by simp)
    replace g0 := gr_trans g0 hg
    replace hE := hE.kept hg
    replace hT := hT.kept hg
    clear hg
    clear c0 c1 c2 cf0 cf1 cf2 d0 d1 d2 df0 df1 df2 z0 z1 z2 zf0 zf1 zf2 f0 f1 f2 f3 ff0 ff1 ff2 ff3 en
    obtain ⟨c0, c1, c2, cf0, cf1, cf2⟩ := rd.three aG
    obtain ⟨d0, d1, d2, df0, df1, df2⟩ := rd.three aR
    obtain ⟨z0, z1, z2, zf0, zf1, zf2⟩ := rd.three aZ
    obtain ⟨f0, f1, f2, f3, ff0, ff1, ff2, ff3⟩ := four aF
    have en := hE.vars.cn
    go_wp2_with fail
    refine (as_hit v a o y _ _ _ _ _ _ _ hT aF).mono ?_
    rintro e w3 ⟨rfl, hg, aF'⟩
    replace aZ := aZ.grown hg (by simp; omega)
    replace g0 := gr_past g0 hg (by omega)
    clear hg
    clear c0 c1 c2 cf0 cf1 cf2 d0 d1 d2 df0 df1 df2 z0 z1 z2 zf0 zf1 zf2 f0 f1 f2 f3 ff0 ff1 ff2 ff3 en aG aR aF hE hT
    obtain ⟨z0, z1, z2, zf0, zf1, zf2⟩ := rd.three aZ
    obtain ⟨f0, f1, f2, f3, ff0, ff1, ff2, ff3⟩ := four aF'
    go_wp2_with fail
    refine (rd.implAged _ _ _ _).mono ?_
    rw [rd.aged_ok h1]
    rintro e w4 ⟨rfl, hg⟩
    replace aZ := aZ.grown hg (by simp)
    replace g0 := gr_trans g0 hg
    clear hg z0 z1 z2 zf0 zf1 zf2 f0 f1 f2 f3 ff0 ff1 ff2 ff3
    obtain ⟨z0, z1, z2, zf0, zf1, zf2⟩ := rd.three aZ
    go_wp2_with fail
    obtain ⟨k0, k1, k2, _, _, _⟩ := rd.three (rd.set3 aZ (.int .i64 (v)) (.int .i64 (min 1000 (a + 1))) (.bool o))
    exact bodyPost_ret (v := .agg #[.int .i64 (v), .int .i64 (min 1000 (a + 1)), .bool o]) (by simp [results, Tryz.results94, go_sem, k0, k1, k2]) rfl ⟨rfl, gr_new (gr_new (gr_new g0 (by omega) _ _) (by omega) _ _) (by omega) _ _⟩
end Go.Proofs.YtdikhdfpcipdbaaGreatDoor.sane

/- What came in: senses; read, their bulk. -/
namespace Go.Proofs.YtdikhdfpcipdbaaGreatDoor.se
open Go.ChangeShapes Go.WideShapes Go.ChangeAt Go.RowKit
open Go.Proofs.YtdikhdfpcipdbaaGreatDoor.nums Go.Proofs.YtdikhdfpcipdbaaGreatDoor.mem
open Go.Proofs.YtdikhdfpcipdbaaGreatDoor.tab (Ret)
open Go.Proofs.YtdikhdfpcipdbaaGreatDoor.rd (R okR zR OwnR)
open Go.Proofs.YtdikhdfpcipdbaaGreatDoor.il (nth Ints Own)
set_option linter.unusedVariables false

section
variable {H : Type} {enc : TypeId × Value → H} {P : Program} {w : World} {base : Nat} {spare : Nat → Bool} {held : Bool}
end

theorem ints_of_trod {H : Type} {enc : TypeId × Value → H} {w : World} {base : Nat} {held : Bool} {fuel : Nat} {cs : List Value} {y : DataW H × List MemPlace}
    (hf : DataW.trod enc Tryz.prog w base (fun _ => true) held fuel 25 cs = some y) : ∃ (a : Option Addr) (cap : Nat) (l : List Int), cs = [.slice a l.length cap] ∧ l.length ≤ maxLen ∧ Ints w a l := by
  have hs : ∃ a len cap, cs = [Value.slice a len cap] := by
    rcases open_ints Tryz.underlying25 Tryz.underlying2 (by kernel_rfl) hf with ⟨hcs, _⟩ | ⟨x, len, cap, zs, hcs, _⟩
    · exact ⟨_, _, _, hcs⟩
    · exact ⟨_, _, _, hcs⟩
  obtain ⟨a, len, cap, rfl⟩ := hs
  obtain ⟨d, p⟩ := y
  obtain ⟨l, e, hl, hA, _⟩ := il.open_ints' (a := a) (len := len) (cap := cap) (d := d) (p := p) ⟨fuel, hf⟩
  subst e
  exact ⟨a, cap, l, rfl, hl, hA⟩

/-- How many there are in all. -/
def bulk (s : S) : Nat := s.sp.length + s.he.length + s.fa.length + s.sq.length
/-- No list is longer than any can be. -/
structure Lim (s : S) : Prop where
  sp : s.sp.length ≤ maxLen
  he : s.he.length ≤ maxLen
  fa : s.fa.length ≤ maxLen
  sq : s.sq.length ≤ maxLen
end Go.Proofs.YtdikhdfpcipdbaaGreatDoor.se

