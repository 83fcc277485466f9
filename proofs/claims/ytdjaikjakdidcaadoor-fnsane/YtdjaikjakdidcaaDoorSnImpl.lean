/- Chapter 8 of the program: IsSane and Taken. -/
import Derived.Test.YtdjaikjakdidcaaDoorSnWhy
import Derived.Test.YtdjaikjakdidcaaDoorSnAs2
namespace Go.Proofs.YtdjaikjakdidcaaDoor.sane
open Go.ChangeShapes Go.WideShapes Go.ChangeAt Go.RowKit
open Go.Proofs.YtdjaikjakdidcaaDoor.nums Go.Proofs.YtdjaikjakdidcaaDoor.mem
open Go.Proofs.YtdjaikjakdidcaaDoor.tab (Ret quiet_w)
open Go.Proofs.YtdjaikjakdidcaaDoor.rd (okR okR_iff RetR)
set_option linter.unusedVariables false

theorem whyE_nil {lo hi ra v a x : Int} {o : Bool} {n f q : Addr} (h : saneB lo hi ra v a x o = true) : whyE lo hi ra v a x o n f q = .nilIface := by
  unfold saneB at h
  simp at h
  obtain ⟨h0, h1, h2, h3⟩ := h
  unfold whyE
  rw [if_neg (by rw [h0, h1]; simp), if_neg (by rw [h2]; simp), if_neg (by rcases h3 with h3 | h3 <;> rw [h3] <;> simp)]
theorem whyE_no {lo hi ra v a x : Int} {o : Bool} {n f q : Addr} (h : (okG lo hi ra && okR (v, a, o)) = false) : whyE lo hi ra v a x o n f q = refE v a o n := if_pos h
theorem whyE_ref {lo hi ra v a x : Int} {o : Bool} {n f q : Addr} (h : okG lo hi ra = true) (h' : okR (v, a, o) = true) (hs : saneB lo hi ra v a x o = false) : ∃ y, (y = f ∨ y = q) ∧ whyE lo hi ra v a x o n f q = refE v a o y := by
  unfold whyE
  rw [if_neg (by rw [h, h']; simp)]
  rcases Bool.eq_false_or_eq_true (inb x lo hi) with h2 | h2
  · unfold saneB at hs
    rw [h, h', h2] at hs
    refine ⟨q, .inr rfl, ?_⟩
    rw [if_neg (by rw [h2]; simp), if_pos (by cases o <;> simp at hs ⊢; exact hs)]
  · exact ⟨f, .inl rfl, if_pos h2⟩
theorem whyE_some {lo hi ra v a x : Int} {o : Bool} {n f q : Addr} (hs : saneB lo hi ra v a x o = false) : ∃ y, whyE lo hi ra v a x o n f q = refE v a o y := by
  rcases Bool.eq_false_or_eq_true (okG lo hi ra && okR (v, a, o)) with h | h
  · obtain ⟨h0, h1⟩ := Bool.and_eq_true_iff.1 h
    obtain ⟨y, _, e⟩ := whyE_ref (n := n) (f := f) (q := q) h0 h1 hs
    exact ⟨y, e⟩
  · exact ⟨n, whyE_no h⟩
theorem eql_some_nil (t : TypeId) (v : Value) (w : World) : (binOp .eql 43 (.iface t v) .nilIface).run Tryd.prog w = .ok (.bool false) w := by
  have h : ∀ d : Nat, (Op.equalIn (d + 1) 43 (.iface t v) .nilIface).run Tryd.prog w = .ok false w := fun d => by simp [Op.equalIn, run_underlying Tryd.underlying43]
  simp only [binOp]
  simp [Op.equal, Op.maxDepth, h 9999]
theorem eql_nil_nil (w : World) : (binOp .eql 43 .nilIface .nilIface).run Tryd.prog w = .ok (.bool true) w := by
  have h : ∀ d : Nat, (Op.equalIn (d + 1) 43 .nilIface .nilIface).run Tryd.prog w = .ok true w := fun d => by simp [Op.equalIn, run_underlying Tryd.underlying43]
  simp only [binOp]
  simp [Op.equal, Op.maxDepth, h 9999]

set_option maxHeartbeats 1000000 in
theorem implIsSane (lo hi ra v a x : Int) (o : Bool) (n f q : Addr) (w : World) (he : Errs w n f q) : Calls Tryd.prog 9 #[.agg #[.int .i64 lo, .int .i64 hi, .int .i64 ra], .agg #[.int .i64 v, .int .i64 a, .bool o], .int .i64 x] w (Ret (.bool (saneB lo hi ra v a x o)) w) := by
  have aG := (Has.fresh w 25 #[.int .i64 lo, .int .i64 hi, .int .i64 ra]).alloc (Obj.cells #[.int .i64 v, .int .i64 a, .bool o] 27)
  have aR := rd.fresh1 w (Obj.cells #[.int .i64 lo, .int .i64 hi, .int .i64 ra] 25) 27 #[.int .i64 v, .int .i64 a, .bool o]
  have g0 : w.grownBy ((w.alloc (Obj.cells #[.int .i64 lo, .int .i64 hi, .int .i64 ra] 25)).alloc (Obj.cells #[.int .i64 v, .int .i64 a, .bool o] 27)) none := gr_alloc (World.grownBy_alloc _ _ _) _
  have hE := he.kept g0
  have q1 := eql_some_nil
  have q2 := eql_nil_nil
  rcases Bool.eq_false_or_eq_true (saneB lo hi ra v a x o) with h | h
  · go_enter Tryd.func9, Tryd.ntmps9
    go_wp2_with fail
    refine (implWhyNot lo hi ra v a x o n f q _ hE).mono ?_
    rintro e w1 ⟨rfl, hg⟩
    rw [whyE_nil h]
    go_wp2_with fail
    go_ret
    exact ⟨fix.ret_bool (by rw [h]), gr_trans g0 hg⟩
  · obtain ⟨y, hy⟩ := whyE_some (n := n) (f := f) (q := q) h
    go_enter Tryd.func9, Tryd.ntmps9
    go_wp2_with fail
    refine (implWhyNot lo hi ra v a x o n f q _ hE).mono ?_
    rintro e w1 ⟨rfl, hg⟩
    rw [hy]
    unfold refE
    go_wp2_with fail
    go_ret
    exact ⟨fix.ret_bool (by rw [h]), gr_trans g0 hg⟩
end Go.Proofs.YtdjaikjakdidcaaDoor.sane
