/- Chapter 8 of the program: IsSane and Taken. -/
import Derived.Test.YtdikhdfpcipdbaaGreatDoorSnWhy
import Derived.Test.YtdikhdfpcipdbaaGreatDoorSnAs2
namespace Go.Proofs.YtdikhdfpcipdbaaGreatDoor.sane
open Go.ChangeShapes Go.WideShapes Go.ChangeAt Go.RowKit
open Go.Proofs.YtdikhdfpcipdbaaGreatDoor.nums Go.Proofs.YtdikhdfpcipdbaaGreatDoor.mem
open Go.Proofs.YtdikhdfpcipdbaaGreatDoor.tab (Ret quiet_w)
open Go.Proofs.YtdikhdfpcipdbaaGreatDoor.rd (okR okR_iff RetR)
set_option linter.unusedVariables false

theorem whyE_nil {lo hi ra v a x : Int} {o : Bool} {n f q : Addr} (h : saneB lo hi ra v a x o = true) : whyE lo hi ra v a x o n f q = .nilIface := by
  unfold saneB at h
  simp at h
  obtain ⟨h0, h1, h2, h3⟩ := h
  unfold whyE
  rw [if_neg (by rw [h0, h1]; simp), if_neg (by rw [h2]; simp), if_neg (by rcases h3 with h3 | h3 <;> rw [h3] <;> simp)]
theorem whyE_no {lo hi ra v a x : Int} {o : Bool} {n f q : Addr} (h : (okG lo hi ra && okR (v, a, o)) = false) : whyE lo hi ra v a x o n f q = refE v a o n := if_pos h
theorem whyE_ref {lo hi ra v a x : Int} {o : Bool} {n f q : Addr} (h : okG lo hi ra = true) (h' : okR (v, a, o) = true) (hs : saneB lo hi ra v a x o = false) : ∃ y, (y = f ∨ y = q) ∧ whyE lo hi ra v a x o n f q = refE v a o y := by
  unfold whyE
  rw [if_neg (by rw [h, h']; simp)]
  rcases Bool.eq_false_or_eq_true (inb x lo hi) with h2 | h2
  · unfold saneB at hs
    rw [h, h', h2] at hs
    refine ⟨q, .inr rfl, ?_⟩
    rw [if_neg (by rw [h2]; simp), if_pos (by cases o <;> simp at hs ⊢; exact hs)]
  · exact ⟨f, .inl rfl, if_pos h2⟩
theorem whyE_some {lo hi ra v a x : Int} {o : Bool} {n f q : Addr} (hs : saneB lo hi ra v a x o = false) : ∃ y, whyE lo hi ra v a x o n f q = refE v a o y := by
  rcases Bool.eq_false_or_eq_true (okG lo hi ra && okR (v, a, o)) with h | h
  · obtain ⟨h0, h1⟩ := Bool.and_eq_true_iff.1 h
    obtain ⟨y, _, e⟩ := whyE_ref (n := n) (f := f) (q := q) h0 h1 hs
    exact ⟨y, e⟩
  · exact ⟨n, whyE_no h⟩
theorem eql_some_nil (t : TypeId) (v : Value) (w : World) : (binOp .eql 147 (.iface t v) .nilIface).run Tryz.prog w = .ok (.bool false) w := by
  have h : ∀ d : Nat, (Op.equalIn (d + 1) 147 (.iface t v) .nilIface).run Tryz.prog w = .ok false w := fun d => by simp [Op.equalIn, run_underlying Tryz.underlying147]
  simp only [binOp]
  simp [Op.equal, Op.maxDepth, h 9999]
theorem eql_nil_nil (w : World) : (binOp .eql 147 .nilIface .nilIface).run Tryz.prog w = .ok (.bool true) w := by
  have h : ∀ d : Nat, (Op.equalIn (d + 1) 147 .nilIface .nilIface).run Tryz.prog w = .ok true w := fun d => by simp [Op.equalIn, run_underlying Tryz.underlying147]
  simp only [binOp]
  simp [Op.equal, Op.maxDepth, h 9999]

end Go.Proofs.YtdikhdfpcipdbaaGreatDoor.sane
