/- The face behind which what gave up is not seen; BrainOk of the program. -/
import Derived.Test.YtnkimjmpjnhlnaaDoorBrMustBe
import Derived.Defers
import Derived.Recover
import Derived.Laws.Pointers
import Derived.StillTailTactics
import Derived.WalkSmall
namespace Go.Proofs.YtnkimjmpjnhlnaaDoor.br
open Go.ChangeShapes Go.WideShapes Go.ChangeAt Go.RowKit
open Go.Proofs.YtnkimjmpjnhlnaaDoor.nums Go.Proofs.YtnkimjmpjnhlnaaDoor.mem
open Go.Proofs.YtnkimjmpjnhlnaaDoor.tab (Ret)
open Go.Proofs.YtnkimjmpjnhlnaaDoor.il (nth Ints Own)
set_option linter.unusedVariables false

theorem catch_panicking (pa : Addr) (x : Bool) (u : TypeId) (pv : Value) (older : List PanicEntry) (w : World) (hc : w.cell? pa = some (.bool x)) (hz : w.frozen? pa = false) :
    CallsD Tryd.prog 48 #[.pointer (some pa)] (.panicking ({ v := .iface u pv, recovered := false } :: older)) w fun e u' w' =>
      e = .returned (.tuple #[]) ∧ u' = .panicking ({ v := .iface u pv, recovered := true } :: older) ∧ w' = w.setCell pa (.bool false) := by
  refine callsD_of_wpS Tryd.func48 rfl fun c₀ cs hu => ?_
  apply wpS_seq
  apply wpS_region
  simp [wpOpsS, go_sem, recoverD, hu, Tryd.ntmps48, Exit.thenS]
  refine wpS_cond (t := true) (by simp [Act.eval, Array.replicate]) ?_
  simp only [if_true]
  refine wpS_of_wp ?_
  go_wp2_with fail
  simp [bodyPostS, results, Tryd.results48]
theorem catch_idle (pa : Addr) (w : World) :
    CallsD Tryd.prog 48 #[.pointer (some pa)] .returning w fun e u' w' => e = .returned (.tuple #[]) ∧ u' = .returning ∧ w' = w := by
  refine callsD_of_wpS Tryd.func48 rfl fun c₀ cs hu => ?_
  apply wpS_seq
  apply wpS_region
  simp [wpOpsS, go_sem, recoverD, hu, Tryd.ntmps48, Exit.thenS]
  refine wpS_cond (t := false) (by simp [Act.eval, Array.replicate]) ?_
  simp only [Bool.false_eq_true, if_false]
  refine wpS_of_wp (wp_skip ?_)
  cases c₀
  simp_all [bodyPostS, results, Tryd.results48]

theorem must_t {u : TypeId} {pv : Value} {w w' : World} {e : Ending} (h : MustE u pv true w e w') : e = .returned (.tuple #[]) ∧ w.grownBy w' none := h
theorem must_f {u : TypeId} {pv : Value} {w w' : World} {e : Ending} (h : MustE u pv false w e w') : e = .panicked [{ v := .iface u pv, recovered := false }] ∧ w.grownBy w' none := h

/-- What is asked behind the face: a right brain. -/
theorem ask_yes (b : B) (p : P) (g : Nat) (w : World) (K : Has w g 39 (cs13 b p)) (h : Arg w b p) (hb : BdB b) (hv : se.Vals w) (u : TypeId) (pv : Value) (he : Err w u pv) (hk : okB b = true) :
    Calls Tryd.prog 28 #[.pointer (some ⟨g, 0, none⟩)] w (Ret (.bool true) w) := by
  have cM := implMustBe b p w h hb hv u pv he
  rw [hk] at cM
  obtain ⟨⟨⟨c0, c1, c2⟩, c3, c4⟩, ⟨⟨c5, c6, c7⟩, c8, c9, c10⟩, c11, c12⟩ := thirteen K
  clear hk
  go_enter Tryd.func28, Tryd.ntmps28
  go_wp2_with fail
  refine cM.mono ?_
  intro e w1 hm
  obtain ⟨rfl, r⟩ := must_t hm
  go_wp2_with fail
  go_ret
  exact ⟨rfl, r⟩
theorem ask_no (b : B) (p : P) (g : Nat) (w : World) (K : Has w g 39 (cs13 b p)) (h : Arg w b p) (hb : BdB b) (hv : se.Vals w) (u : TypeId) (pv : Value) (he : Err w u pv) (hk : okB b = false) :
    Calls Tryd.prog 28 #[.pointer (some ⟨g, 0, none⟩)] w fun e w' => e = .panicked [{ v := .iface u pv, recovered := false }] ∧ w.grownBy w' none := by
  have cM := implMustBe b p w h hb hv u pv he
  rw [hk] at cM
  obtain ⟨⟨⟨c0, c1, c2⟩, c3, c4⟩, ⟨⟨c5, c6, c7⟩, c8, c9, c10⟩, c11, c12⟩ := thirteen K
  clear hk
  go_enter Tryd.func28, Tryd.ntmps28
  go_wp2_with fail
  refine cM.mono ?_
  intro e w1 hm
  obtain ⟨rfl, r⟩ := must_f hm
  go_wp2_with fail
  exact ⟨rfl, rfl, r⟩

/-- The face: what comes back comes through. -/
theorem face_yes (g : Nat) (w : World) (hA : ∀ W, w.grownBy W none → Calls Tryd.prog 28 #[.pointer (some ⟨g, 0, none⟩)] W (Ret (.bool true) W)) :
    Calls Tryd.prog 27 #[.func (.func 28) #[] #[.pointer (some ⟨g, 0, none⟩)]] w (Ret (.bool true) w) := by
  have hmf : ∀ (fn : Fn) (first cap : Array Value) (w : World), (Instr.makeFunc fn first cap).run Tryd.prog w = .ok (.func fn first cap) w := fun _ _ _ _ => rfl
  have K := Has.fresh w 4 #[.bool false]
  have cA := hA _ (World.grownBy_alloc w (Obj.cells #[.bool false] 4) none)
  go_enter_defers Tryd.func27, Tryd.ntmps27
  go_wp2_with fail
  refine cA.mono ?_
  rintro e w1 ⟨rfl, r⟩
  replace K := K.grown r (by simp)
  have g0 := gr_trans (World.grownBy_alloc w (Obj.cells #[.bool false] 4) none) r
  have c0 : w1.cell? ⟨w.heap.size, 0, none⟩ = some (.bool false) := K.cell 0
  have f0 : w1.frozen? ⟨w.heap.size, 0, none⟩ = false := K.frozen 0
  go_wp2_with fail
  have K2 : Has (w1.setCell ⟨w.heap.size, 0, none⟩ (.bool true)) w.heap.size 4 #[.bool true] := K.put 0 _ rfl
  have g2 : w.grownBy (w1.setCell ⟨w.heap.size, 0, none⟩ (.bool true)) none := gr_new g0 (Nat.le_refl _) _ _
  refine leaves_cons (f := 48) (args := #[.pointer (some ⟨w.heap.size, 0, none⟩)]) (by simp) (by simp [go_sem]) ?_
  refine (catch_idle ⟨w.heap.size, 0, none⟩ _).mono ?_
  rintro e u' w2 ⟨rfl, rfl, rfl⟩
  have d0 : (w1.setCell ⟨w.heap.size, 0, none⟩ (.bool true)).cell? ⟨w.heap.size, 0, none⟩ = some (.bool true) := K2.cell 0
  generalize w1.setCell ⟨w.heap.size, 0, none⟩ (.bool true) = w3 at *
  simp [Leaves, settle, results, Tryd.results27, go_sem, d0]
  exact ⟨rfl, g2⟩
/-- The face: what gives up is not seen. -/
theorem face_no (g : Nat) (u : TypeId) (pv : Value) (w : World) (hA : ∀ W, w.grownBy W none → Calls Tryd.prog 28 #[.pointer (some ⟨g, 0, none⟩)] W fun e w' => e = .panicked [{ v := .iface u pv, recovered := false }] ∧ W.grownBy w' none) :
    Calls Tryd.prog 27 #[.func (.func 28) #[] #[.pointer (some ⟨g, 0, none⟩)]] w (Ret (.bool false) w) := by
  have hmf : ∀ (fn : Fn) (first cap : Array Value) (w : World), (Instr.makeFunc fn first cap).run Tryd.prog w = .ok (.func fn first cap) w := fun _ _ _ _ => rfl
  have K := Has.fresh w 4 #[.bool false]
  have cA := hA _ (World.grownBy_alloc w (Obj.cells #[.bool false] 4) none)
  go_enter_defers Tryd.func27, Tryd.ntmps27
  go_wp2_with fail
  refine cA.mono ?_
  rintro e w1 ⟨rfl, r⟩
  replace K := K.grown r (by simp)
  have g0 := gr_trans (World.grownBy_alloc w (Obj.cells #[.bool false] 4) none) r
  have c0 : w1.cell? ⟨w.heap.size, 0, none⟩ = some (.bool false) := K.cell 0
  have f0 : w1.frozen? ⟨w.heap.size, 0, none⟩ = false := K.frozen 0
  have K2 : Has (w1.setCell ⟨w.heap.size, 0, none⟩ (.bool false)) w.heap.size 4 #[.bool false] := K.put 0 _ rfl
  have g2 : w.grownBy (w1.setCell ⟨w.heap.size, 0, none⟩ (.bool false)) none := gr_new g0 (Nat.le_refl _) _ _
  refine leaves_cons (f := 48) (args := #[.pointer (some ⟨w.heap.size, 0, none⟩)]) (by simp) (by simp [go_sem]) ?_
  refine (catch_panicking ⟨w.heap.size, 0, none⟩ false u pv [] _ c0 f0).mono ?_
  rintro e u' w2 ⟨rfl, rfl, rfl⟩
  have d0 : (w1.setCell ⟨w.heap.size, 0, none⟩ (.bool false)).cell? ⟨w.heap.size, 0, none⟩ = some (.bool false) := K2.cell 0
  generalize w1.setCell ⟨w.heap.size, 0, none⟩ (.bool false) = w3 at *
  simp [Leaves, settle, results, Tryd.results27, go_sem, d0]
  exact ⟨rfl, g2⟩

set_option maxHeartbeats 1000000 in
theorem implBrainOk (b : B) (p : P) (w : World) (h : Arg w b p) (hb : BdB b) (hv : se.Vals w) (u : TypeId) (pv : Value) (he : Err w u pv) : Calls Tryd.prog 8 #[bv b p] w (Ret (.bool (okB b)) w) := by
  have hmf : ∀ (fn : Fn) (first cap : Array Value) (w : World), (Instr.makeFunc fn first cap).run Tryd.prog w = .ok (.func fn first cap) w := fun _ _ _ _ => rfl
  have K := Has.fresh w 39 (cs13 b p)
  have g0 := World.grownBy_alloc w (Obj.cells (cs13 b p) 39) none
  have cF : Calls Tryd.prog 27 #[.func (.func 28) #[] #[.pointer (some ⟨w.heap.size, 0, none⟩)]] (w.alloc (Obj.cells (cs13 b p) 39)) (Ret (.bool (okB b)) (w.alloc (Obj.cells (cs13 b p) 39))) := by
    cases hk : okB b
    · exact face_no _ u pv _ (fun W hg => ask_no b p _ W (K.grown hg (by simp)) (h.kept (gr_trans g0 hg)) hb (hv.kept (gr_trans g0 hg)) u pv (he.kept (gr_trans g0 hg)) hk)
    · exact face_yes _ _ (fun W hg => ask_yes b p _ W (K.grown hg (by simp)) (h.kept (gr_trans g0 hg)) hb (hv.kept (gr_trans g0 hg)) u pv (he.kept (gr_trans g0 hg)) hk)
  clear K
  go_enter Tryd.func8, Tryd.ntmps8
  go_wp2_with fail
  refine cF.mono ?_
  rintro e w1 ⟨rfl, r⟩
  go_wp2_with fail
  go_ret
  exact ⟨rfl, gr_trans g0 r⟩
end Go.Proofs.YtnkimjmpjnhlnaaDoor.br
