/- FrameOk, the program's and the model's. -/
import Derived.Test.YtdikhdfpcipdbaaGreatDoorFrOk
import Derived.BigQuiet
namespace Go.Proofs.YtdikhdfpcipdbaaGreatDoor.frm
open Go.ChangeShapes Go.WideShapes Go.ChangeAt Go.RowKit
open Go.Proofs.YtdikhdfpcipdbaaGreatDoor.nums Go.Proofs.YtdikhdfpcipdbaaGreatDoor.mem Go.Proofs.YtdikhdfpcipdbaaGreatDoor.txt Go.Proofs.YtdikhdfpcipdbaaGreatDoor.fix
open Go.Proofs.YtdikhdfpcipdbaaGreatDoor.tab (Ret quiet_w wpList_make_has)
set_option linter.unusedVariables false

set_option maxHeartbeats 2000000 in
theorem implFrameOk (k sq : Int) (a : Option Addr) (cap : Nat) (l : List Int) (w : World) (hv : Vals w) (h : Ints w a l) (hl : l.length ≤ maxLen) :
    Calls Tryz.prog 65 #[fr k sq a l.length cap] w (Ret (.bool (okF k sq l)) w) := by
  have hg := World.grownBy_alloc w (Obj.cells #[.int .i64 k, .int .i64 sq, .slice a l.length cap] 50) none
  have hI := (h.kept hg).drewN 1
  have hV := (hv.kept hg)
  have hm : l.length ≤ 9223372036854775807 := by unfold maxLen at hl; exact hl
  obtain ⟨c0, c1, c2, _, _, _⟩ := three (Has.fresh w 50 #[.int .i64 k, .int .i64 sq, .slice a l.length cap])
  cases hk : (decide (1 ≤ k) && decide (k ≤ 4))
  · have ho : okF k sq l = false := by rw [okF, hk]; rfl
    have cK : ∀ W, Calls Tryz.prog 92 #[.int .i64 k] W fun e w' => e = .returned (.bool false) ∧ W = w' := fun W => hk ▸ implKind k W
    rw [ho]
    clear hk ho hm hl
    go_enter Tryz.func65, Tryz.ntmps65
    go_wp2_with fail
    go_quiet (first | (go_at_call 92; exact quiet_w (cK _)))
    go_wp2_with fail
    go_ret
    exact ⟨rfl, gr_drewN hg _⟩
  · have cK : ∀ W, Calls Tryz.prog 92 #[.int .i64 k] W fun e w' => e = .returned (.bool true) ∧ W = w' := fun W => hk ▸ implKind k W
    have hk' : 1 ≤ k ∧ k ≤ 4 := by simpa using hk
    cases hs : (decide (0 ≤ sq) && decide (sq ≤ 99))
    · have ho : okF k sq l = false := by rw [okF, hk, hs]; rfl
      have cS : ∀ W, Calls Tryz.prog 84 #[.int .i64 sq] W fun e w' => e = .returned (.bool false) ∧ W = w' := fun W => hs ▸ implSeq sq W
      rw [ho]
      clear hk hs ho hm hl hk'
      go_enter Tryz.func65, Tryz.ntmps65
      go_wp2_with fail
      go_quiet (first | (go_at_call 92; exact quiet_w (cK _)) | (go_at_call 84; exact quiet_w (cS _)))
      go_wp2_with fail
      go_ret
      exact ⟨rfl, gr_drewN hg _⟩
    · have cS : ∀ W, Calls Tryz.prog 84 #[.int .i64 sq] W fun e w' => e = .returned (.bool true) ∧ W = w' := fun W => hs ▸ implSeq sq W
      obtain ⟨hk1, hk2⟩ := hk'
      have cV : (w.alloc (Obj.cells #[.int .i64 k, .int .i64 sq, .slice a l.length cap] 50)).cell? ⟨0, k.toNat, none⟩ = some (.int .i64 (many k)) := by rw [hV.2 k.toNat (by omega), many_tab hk1 hk2]
      have hkn : k.toNat < 5 := by omega
      by_cases hn : (l.length : Int) = many k
      · have ho : okF k sq l = l.all sz := by rw [okF, hk, hs, decide_eq_true hn]; rfl
        have cA := fun W hW => implAll a cap l W hW hl
        rw [ho]
        clear hk hs ho hl
        go_enter Tryz.func65, Tryz.ntmps65
        go_wp2_with fail
        go_quiet (first | (go_at_call 92; exact quiet_w (cK _)) | (go_at_call 84; exact quiet_w (cS _)) | (go_at_call 93; exact quiet_w (cA _ hI)))
        go_wp2_with fail
        go_ret
        exact ⟨rfl, gr_drewN hg _⟩
      · have ho : okF k sq l = false := by rw [okF, hk, hs, decide_eq_false hn]; rfl
        have hn' : decide ((l.length : Int) = many k) = false := decide_eq_false hn
        have hn2 : ((l.length : Int) == many k) = false := by rw [beq_eq_false_iff_ne]; exact hn
        rw [ho]
        clear hk hs ho hl
        go_enter Tryz.func65, Tryz.ntmps65
        go_wp2_with fail
        go_quiet (first | (go_at_call 92; exact quiet_w (cK _)) | (go_at_call 84; exact quiet_w (cS _)))
        go_wp2_with fail
        go_ret
        exact ⟨rfl, gr_drewN hg _⟩

set_option maxHeartbeats 2000000 in
theorem specFrameOk (k sq : Int) (a : Option Addr) (cap : Nat) (l : List Int) (w : World) (h : Ints w a l) (hl : l.length ≤ maxLen) :
    Calls Tryz.prog 75 #[fr k sq a l.length cap] w (Ret (.bool (okF k sq l)) w) := by
  have hg := World.grownBy_alloc w (Obj.cells #[.int .i64 k, .int .i64 sq, .slice a l.length cap] 50) none
  have hI := (h.kept hg)
  have hm : l.length ≤ 9223372036854775807 := by unfold maxLen at hl; exact hl
  have H0 := Has.fresh w 50 #[.int .i64 k, .int .i64 sq, .slice a l.length cap]
  obtain ⟨c0, c1, c2, _, _, _⟩ := three H0
  by_cases hk : 1 ≤ k ∧ k ≤ 4
  · have hk0 : (decide (1 ≤ k) && decide (k ≤ 4)) = true := by simp; exact hk
    have hm0 : decide (0 ≤ many k) = true := by
      have hk' : k = 1 ∨ k = 2 ∨ k = 3 ∨ k = 4 := by omega
      rcases hk' with rfl | rfl | rfl | rfl <;> rfl
    have cM := specMany k
    have d0 : ∀ d os, (Go.Sort.grow (redrawn (w.alloc (Obj.cells #[.int .i64 k, .int .i64 sq, .slice a l.length cap] 50)) d) os).cell? ⟨w.heap.size, 0, none⟩ = some (.int .i64 k) := cell_regrown c0
    have d1 : ∀ d os, (Go.Sort.grow (redrawn (w.alloc (Obj.cells #[.int .i64 k, .int .i64 sq, .slice a l.length cap] 50)) d) os).cell? ⟨w.heap.size, 1, none⟩ = some (.int .i64 sq) := cell_regrown c1
    have d2 : ∀ d os, (Go.Sort.grow (redrawn (w.alloc (Obj.cells #[.int .i64 k, .int .i64 sq, .slice a l.length cap] 50)) d) os).cell? ⟨w.heap.size, 2, none⟩ = some (.slice a l.length cap) := cell_regrown c2
    generalize hmm : many k = mk at *
    cases hs : inb sq 0 99
    · have ho : okF k sq l = false := by rw [okF, hk0]; unfold inb at hs; rw [hs]; rfl
      have cS : ∀ W, Calls Tryz.prog 24 #[.int .i64 sq, .int .i64 0, .int .i64 99] W fun e w' => e = .returned (.bool false) ∧ W = w' := fun W => hs ▸ specIn sq 0 99 W
      rw [ho]
      clear hk hk0 ho hs hmm
      go_enter Tryz.func75, Tryz.ntmps75
      go_wp2_with fail
      refine wp_region_quiet_below (by kernel_rfl) (by kernel_rfl) ?_
      repeat (quiet_step (first | (go_at_call 90; exact rg_ret (cM _)) | (go_at_call 24; exact rg_same (cS _))))
      refine wpQuiet_nil ?_
      intro _ hw'
      obtain ⟨⟨dq, osq⟩, hw''⟩ := hw'
      subst hw''
      go_wp2_with fail
      go_ret
      exact ⟨rfl, gr_trans hg (gr_rg _ _ _)⟩
    · have ho : okF k sq l = (decide ((l.length : Int) = mk) && l.all sz) := by rw [okF, hk0]; unfold inb at hs; rw [hs, hmm]; rfl
      have cS : ∀ W, Calls Tryz.prog 24 #[.int .i64 sq, .int .i64 0, .int .i64 99] W fun e w' => e = .returned (.bool true) ∧ W = w' := fun W => hs ▸ specIn sq 0 99 W
      have cA := fun W hW => specAll a cap l mk W hW hl
      rw [ho]
      clear hk hk0 ho hs hmm
      go_enter Tryz.func75, Tryz.ntmps75
      go_wp2_with fail
      refine wp_region_quiet_below (by kernel_rfl) (by kernel_rfl) ?_
      repeat (quiet_step (first | (go_at_call 90; exact rg_ret (cM _)) | (go_at_call 24; exact rg_same (cS _)) | (go_at_call 53; exact rg_same (cA _ (hI.kept (gr_rg _ _ _))))))
      refine wpQuiet_nil ?_
      intro _ hw'
      obtain ⟨⟨dq, osq⟩, hw''⟩ := hw'
      subst hw''
      go_wp2_with fail
      go_ret
      exact ⟨rfl, gr_trans hg (gr_rg _ _ _)⟩
  · have hk0 : (decide (1 ≤ k) && decide (k ≤ 4)) = false := by simp; omega
    have hmk : many k = -1 := by unfold many; rw [if_neg (by omega), if_neg (by omega), if_neg (by omega), if_neg (by omega)]
    have ho : okF k sq l = false := by rw [okF, hk0]; rfl
    have cM : ∀ W, Calls Tryz.prog 90 #[.int .i64 k] W (Ret (.int .i64 (-1)) W) := fun W => hmk ▸ specMany k W
    have d0 : ∀ d os, (Go.Sort.grow (redrawn (w.alloc (Obj.cells #[.int .i64 k, .int .i64 sq, .slice a l.length cap] 50)) d) os).cell? ⟨w.heap.size, 0, none⟩ = some (.int .i64 k) := cell_regrown c0
    rw [ho]
    clear hk hk0 hmk ho
    go_enter Tryz.func75, Tryz.ntmps75
    go_wp2_with fail
    refine wp_region_quiet_below (by kernel_rfl) (by kernel_rfl) ?_
    repeat (quiet_step (first | (go_at_call 90; exact rg_ret (cM _))))
    refine wpQuiet_nil ?_
    intro _ hw'
    obtain ⟨⟨dq, osq⟩, hw''⟩ := hw'
    subst hw''
    go_wp2_with fail
    go_ret
    exact ⟨rfl, gr_trans hg (gr_rg _ _ _)⟩
end Go.Proofs.YtdikhdfpcipdbaaGreatDoor.frm
