/- The program's chapter 2: contracts of pointOk and yBetween, and of TableOk. -/
import Derived.Test.YtgclhjfjoiiclaaTabIter
namespace Go.Proofs.Ytgclhjfjoiiclaa.tab
open Go.ChangeShapes Go.WideShapes Go.ChangeAt Go.RowKit Go.Shelf
open Go.Proofs.Ytgclhjfjoiiclaa.nums Go.Proofs.Ytgclhjfjoiiclaa.mem
set_option linter.unusedVariables false

theorem implPointOk (ps : Pts) (k : Nat) (w : World) : Calls Try.prog 65 #[ptv ps k] w (Ret (.bool (szB ps k)) w) := by
  unfold ptv
  by_cases hx : inb (px ps k) (-1000000) 1000000 = true
  · go_enter Try.func65, Try.ntmps65
    go_wp2_with (go_at_call 34; refine (fix.implSizeOk _ _).mono ?_; rintro e w' ⟨rfl, rfl⟩)
    go_ret
    exact ⟨fix.ret_bool (by unfold szB; rw [hx]; simp), World.grownBy_alloc _ _ _⟩
  · have hx' : inb (px ps k) (-1000000) 1000000 = false := by simpa using hx
    clear hx
    go_enter Try.func65, Try.ntmps65
    go_wp2_with (go_at_call 34; refine (fix.implSizeOk _ _).mono ?_; rintro e w' ⟨rfl, rfl⟩)
    go_ret
    exact ⟨fix.ret_bool (by unfold szB; rw [hx']; simp), World.grownBy_alloc _ _ _⟩

set_option maxHeartbeats 1000000 in
theorem implYBetween (ps : Pts) (k : Nat) (x : Int) (w : World) (ho : OkT ps) (h1 : -1000000 ≤ x) (h2 : x ≤ 1000000) :
    Calls Try.prog 59 #[ptv ps k, ptv ps (k + 1), .int .i64 x] w (Ret (.int .i64 (mid ps k x)) w) := by
  unfold ptv
  obtain ⟨⟨a1, a2⟩, b1, b2⟩ := ho.sz (k := k)
  obtain ⟨⟨c1, c2⟩, d1, d2⟩ := ho.sz (k := k + 1)
  go_enter Try.func59, Try.ntmps59
  go_wp2_with fail
  go_quiet ((first | (go_at_call 35; exact quiet_w (fix.implPart _ _ _ _)) | (go_at_call 67; exact quiet_w (fix.implPlus _ _ _))))
  go_wp2_with fail
  go_ret
  exact ⟨rfl, gr_drewN (gr_alloc (World.grownBy_alloc _ _ _) _) _⟩

set_option maxHeartbeats 1000000 in
theorem implTableOk_short (g cap : Nat) (ps : Pts) (w : World) (h : ps.length < 2 ∨ 8 < ps.length) :
    Calls Try.prog 57 #[.slice (some ⟨g, 0, none⟩) ps.length cap] w (Ret (.bool (okB ps)) w) := by
  have hb : okB ps = false := okB_false fun ho => by have := ho.1; have := ho.2.1; omega
  have HB := Lib.hid hb; clear hb
  rcases h with h | h
  · go_enter Try.func57, Try.ntmps57
    go_wp2
    exact bodyPost_ret (v := .bool false) (by simp [results, Try.results57, go_sem]) rfl ⟨by rw [HB.out], World.grownBy_alloc _ _ _⟩
  · have h' : ¬ ps.length < 2 := by omega
    go_enter Try.func57, Try.ntmps57
    go_wp2
    exact bodyPost_ret (v := .bool false) (by simp [results, Try.results57, go_sem]) rfl ⟨by rw [HB.out], World.grownBy_alloc _ _ _⟩

set_option maxHeartbeats 1000000 in
theorem implTableOk_first (g cap : Nat) (ps : Pts) (w : World) (hT : Tab w g ps) (h2 : 2 ≤ ps.length) (h8 : ps.length ≤ 8) (hs : szB ps 0 = false) :
    Calls Try.prog 57 #[.slice (some ⟨g, 0, none⟩) ps.length cap] w (Ret (.bool (okB ps)) w) := by
  have hb : okB ps = false := okB_false fun ho => by have := ho.2.2.1 0 (by omega); rw [hs] at this; cases this
  have HB := Lib.hid hb; clear hb
  obtain ⟨cx, cy⟩ := hT.2 0 (by omega)
  have hgb := hT.1
  simp at cx cy
  go_enter Try.func57, Try.ntmps57
  go_wp2_with fail
  refine (implPointOk ps 0 _).mono ?_
  rintro e w1 ⟨rfl, hg⟩
  have hc := (Has.fresh w 4 #[.bool false]).grown hg (by simp)
  have c0 := hc.cell 0
  have f0 := hc.frozen 0
  have c5 := (hc.put 0 (.bool false) rfl).cell 0
  simp at c0 c5
  go_wp2_with fail
  exact bodyPost_ret (v := .bool false) (by simp [results, Try.results57, go_sem, c5]) rfl ⟨by rw [HB.out], gr_new (gr_trans (World.grownBy_alloc _ _ _) hg) (Nat.le_refl _) _ _⟩
end Go.Proofs.Ytgclhjfjoiiclaa.tab
