/- Blended of both sides. -/
import Derived.Test.YtdikhdfpcipdbaaGreatDoorBlLift
import Derived.Test.YtdikhdfpcipdbaaGreatDoorShLaid
import Derived.Test.YtdikhdfpcipdbaaGreatDoorQuietTail
import Derived.Deep.DeepCutAuto
namespace Go.Proofs.YtdikhdfpcipdbaaGreatDoor.bl
open Go.ChangeShapes Go.WideShapes Go.ChangeAt Go.RowKit
open Go.Proofs.YtdikhdfpcipdbaaGreatDoor.nums Go.Proofs.YtdikhdfpcipdbaaGreatDoor.mem
open Go.Proofs.YtdikhdfpcipdbaaGreatDoor.sh (dem three set3 okD RetD)
open Go.Proofs.YtdikhdfpcipdbaaGreatDoor.tab (Ret quiet_w)
open Go.Proofs.YtdikhdfpcipdbaaGreatDoor.qt (region_below_tail rg_ret rg_same gr_rg)
set_option linter.unusedVariables false

/-- The demand and the speed are sizes. -/
def okS (l r p s : Int) : Bool := okD l r p && inb s (-1000000) 1000000
/-- What is left of v. -/
def bl (l r p s v : Int) : Int := if okS l r p s = true then cutBy s v else 0
theorem bl_no {l r p s : Int} (h : okS l r p s = false) (v : Int) : bl l r p s v = 0 := by unfold bl; rw [h]; rfl
theorem bl_yes {l r p s : Int} (h : okS l r p s = true) (v : Int) : bl l r p s v = cutBy s v := if_pos h
/-- What is blended comes back. -/
def RetB (l r p s : Int) (w : World) (e : Ending) (w' : World) : Prop := RetD (bl l r p s l) (bl l r p s r) (bl l r p s p) w e w'

set_option maxHeartbeats 4000000 in
theorem specBlended (l r p s : Int) (w : World) : Calls Tryz.prog 178 #[dem l r p, .int .i64 s] w (RetB l r p s w) := by
  have A0 := (Has.fresh w 234 #[.int .i64 l, .int .i64 r, .int .i64 p]).alloc (Obj.cells #[.int .i64 0, .int .i64 0, .int .i64 0] 234)
  have R0 := Has.fresh (w.alloc (Obj.cells #[.int .i64 l, .int .i64 r, .int .i64 p] 234)) 234 #[.int .i64 0, .int .i64 0, .int .i64 0]
  have g0 := gr_alloc (World.grownBy_alloc w (Obj.cells #[.int .i64 l, .int .i64 r, .int .i64 p] 234) none) (Obj.cells #[.int .i64 0, .int .i64 0, .int .i64 0] 234)
  have cD := sh.specSizes l r p
  have cZ := fix.specSizeOk s
  have hn := bl_no (l := l) (r := r) (p := p) (s := s)
  have hy := bl_yes (l := l) (r := r) (p := p) (s := s)
  simp only [World.size_alloc] at R0
  unfold okS at hn hy
  cases h1 : okD l r p
  · rw [h1] at cD hn
    unfold RetB
    rw [hn rfl, hn rfl, hn rfl]
    clear hn hy cZ h1
    go_enter Tryz.func178, Tryz.ntmps178
    go_wp2_with fail
    refine (cD _).mono ?_
    rintro e w1 ⟨rfl, g1⟩
    have R1 := R0.grown g1 (by simp)
    obtain ⟨r0, r1, r2, f0, f1, f2⟩ := three R1
    go_wp2_with fail
    obtain ⟨k0, k1, k2, _, _, _⟩ := three (set3 R1 (.int .i64 0) (.int .i64 0) (.int .i64 0))
    exact bodyPost_ret (v := dem 0 0 0) (by simp [results, Tryz.results178, go_sem, k0, k1, k2]) rfl ⟨rfl, gr_new (gr_new (gr_new (gr_trans g0 g1) (by omega) _ _) (by omega) _ _) (by omega) _ _⟩
  · rw [h1] at cD hn hy
    cases h2 : inb s (-1000000) 1000000
    · rw [h2] at cZ hn
      unfold RetB
      rw [hn rfl, hn rfl, hn rfl]
      clear hn hy h1 h2
      go_enter Tryz.func178, Tryz.ntmps178
      go_wp2_with fail
      refine (cD _).mono ?_
      rintro e w1 ⟨rfl, g1⟩
      have R1 := R0.grown g1 (by simp)
      obtain ⟨r0, r1, r2, f0, f1, f2⟩ := three R1
      go_wp2_with (go_at_call 78; refine (cZ _).mono ?_; rintro e w' ⟨rfl, rfl⟩)
      obtain ⟨k0, k1, k2, _, _, _⟩ := three (set3 R1 (.int .i64 0) (.int .i64 0) (.int .i64 0))
      exact bodyPost_ret (v := dem 0 0 0) (by simp [results, Tryz.results178, go_sem, k0, k1, k2]) rfl ⟨rfl, gr_new (gr_new (gr_new (gr_trans g0 g1) (by omega) _ _) (by omega) _ _) (by omega) _ _⟩
    · rw [h2] at cZ hy
      unfold RetB
      rw [hy rfl, hy rfl, hy rfl]
      clear hn hy h1 h2
      have cL : ∀ W, Calls Tryz.prog 169 #[.int .i64 l, .int .i64 (lp s), .int .i64 1000] W fun e w' => e = .returned (.int .i64 (cutBy s l)) ∧ W = w' := fun W => fix.specPart l (lp s) 1000 W
      have cR : ∀ W, Calls Tryz.prog 169 #[.int .i64 r, .int .i64 (lp s), .int .i64 1000] W fun e w' => e = .returned (.int .i64 (cutBy s r)) ∧ W = w' := fun W => fix.specPart r (lp s) 1000 W
      have cP : ∀ W, Calls Tryz.prog 169 #[.int .i64 p, .int .i64 (lp s), .int .i64 1000] W fun e w' => e = .returned (.int .i64 (cutBy s p)) ∧ W = w' := fun W => fix.specPart p (lp s) 1000 W
      have cT := specLiftPart s
      generalize lp s = x at *
      generalize cutBy s l = L at *
      generalize cutBy s r = R at *
      generalize cutBy s p = M at *
      go_enter Tryz.func178, Tryz.ntmps178
      go_wp2_with fail
      refine (cD _).mono ?_
      rintro e w1 ⟨rfl, g1⟩
      replace A0 := A0.grown g1 (by simp)
      replace R0 := R0.grown g1 (by simp)
      replace g0 := gr_trans g0 g1
      clear g1
      go_wp2_with (go_at_call 78; refine (cZ _).mono ?_; rintro e w' ⟨rfl, rfl⟩)
      refine (cT _).mono ?_
      rintro e w2 ⟨rfl, g1⟩
      replace A0 := A0.grown g1 (by simp)
      replace R0 := R0.grown g1 (by simp)
      replace g0 := gr_trans g0 g1
      clear g1 cD cZ cT
      obtain ⟨b0, b1, b2, _, _, _⟩ := three A0
      have q0 : ∀ d os, (Go.Sort.grow (redrawn w2 d) os).cell? ⟨w.heap.size, 0, none⟩ = some (.int .i64 l) := cell_regrown b0
      have q1 : ∀ d os, (Go.Sort.grow (redrawn w2 d) os).cell? ⟨w.heap.size, 1, none⟩ = some (.int .i64 r) := cell_regrown b1
      have q2 : ∀ d os, (Go.Sort.grow (redrawn w2 d) os).cell? ⟨w.heap.size, 2, none⟩ = some (.int .i64 p) := cell_regrown b2
      go_upto_region 4 with fail
      refine region_below_tail 13 (by kernel_rfl) (by kernel_rfl) ?_
      simp only [List.take_succ_cons, List.take_zero, List.drop_succ_cons, List.drop_zero]
      repeat (quiet_step (first | (go_at_call 169; with_reducible exact rg_same (cL _)) | (go_at_call 169; with_reducible exact rg_same (cR _)) | (go_at_call 169; with_reducible exact rg_same (cP _))))
      refine wpQuiet_nil ?_
      intro _ hw'
      obtain ⟨⟨dq, osq⟩, hw''⟩ := hw'
      subst hw''
      have gq := gr_rg w2 dq osq
      replace R0 := R0.grown gq (by simp)
      replace g0 := gr_trans g0 gq
      clear gq q0 q1 q2 b0 b1 b2 A0 cL cR cP
      generalize Go.Sort.grow (redrawn w2 dq) osq = w3 at *
      obtain ⟨r0, r1, r2, f0, f1, f2⟩ := three R0
      go_wp2_with fail
      obtain ⟨k0, k1, k2, _, _, _⟩ := three (set3 R0 (.int .i64 L) (.int .i64 R) (.int .i64 M))
      exact bodyPost_ret (v := dem L R M) (by simp [results, Tryz.results178, go_sem, k0, k1, k2]) rfl ⟨rfl, gr_new (gr_new (gr_new g0 (by omega) _ _) (by omega) _ _) (by omega) _ _⟩
end Go.Proofs.YtdikhdfpcipdbaaGreatDoor.bl
