/- ShowFrame of the model. -/
import Derived.Test.YtdikhdfpcipdbaaGreatDoorFrInt
namespace Go.Proofs.YtdikhdfpcipdbaaGreatDoor.frm
open Go.ChangeShapes Go.WideShapes Go.ChangeAt Go.RowKit
open Go.Proofs.YtdikhdfpcipdbaaGreatDoor.nums Go.Proofs.YtdikhdfpcipdbaaGreatDoor.mem Go.Proofs.YtdikhdfpcipdbaaGreatDoor.txt Go.Proofs.YtdikhdfpcipdbaaGreatDoor.fix
open Go.Proofs.YtdikhdfpcipdbaaGreatDoor.tab (Ret quiet_w wpList_make_has)
set_option linter.unusedVariables false

theorem letter_cut (k : Int) (h1 : 1 ≤ k) (h2 : k ≤ 4) : (ByteArray.mk #[83, 72, 70, 80]).extract (k.toNat - 1) k.toNat = ByteArray.mk [letter k].toArray := by
  have hk : k = 1 ∨ k = 2 ∨ k = 3 ∨ k = 4 := by omega
  rcases hk with rfl | rfl | rfl | rfl <;> decide +kernel
theorem app6 (a b c d e f : List UInt8) : (ByteArray.mk a.toArray ++ ByteArray.mk b.toArray ++ ByteArray.mk c.toArray ++ ByteArray.mk d.toArray ++ ByteArray.mk e.toArray ++ ByteArray.mk f.toArray) = ByteArray.mk (a ++ b ++ c ++ d ++ e ++ f).toArray := by simp only [ByteArray.mk_append_mk]
theorem app4 (a b c d : List UInt8) : (ByteArray.mk a.toArray ++ ByteArray.mk b.toArray ++ ByteArray.mk c.toArray ++ ByteArray.mk d.toArray) = ByteArray.mk (a ++ b ++ c ++ d).toArray := by simp only [ByteArray.mk_append_mk]
theorem aheadF_len {k sq : Int} {l : List Int} (h : okF k sq l = true) : (aheadF k sq l).length ≤ 100 := by
  have h1 := blanks_len (sq :: l) (okF_small h)
  have h2 := okF_short h
  simp [aheadF]; simp at h1; omega
theorem aheadF_words (k sq : Int) (l : List Int) (hl : l ≠ []) : aheadF k sq l = letter k :: 32 :: (Lib.itoa sq ++ 32 :: (words l ++ [32])) := by
  cases l with
  | nil => exact absurd rfl hl
  | cons n ns => simp [aheadF, blanks_cons, words]
theorem okF_ne {k sq : Int} {l : List Int} (h : okF k sq l = true) : l ≠ [] := by
  obtain ⟨h1, h2, _, _, h5, _⟩ := okF_parts h
  intro e
  rw [e] at h5
  have hk : k = 1 ∨ k = 2 ∨ k = 3 ∨ k = 4 := by omega
  rcases hk with rfl | rfl | rfl | rfl <;> simp [many] at h5

set_option maxRecDepth 100000 in
set_option maxHeartbeats 2000000 in
theorem specShow (k sq : Int) (a : Option Addr) (cap : Nat) (l : List Int) (w : World) (h : Ints w a l) (hl : l.length ≤ maxLen) :
    Calls Tryz.prog 168 #[fr k sq a l.length cap] w (Ret (str (showF k sq l)) w) := by
  have g0 := World.grownBy_alloc w (Obj.cells #[.int .i64 k, .int .i64 sq, .slice a l.length cap] 50) none
  have H0 := Has.fresh w 50 #[.int .i64 k, .int .i64 sq, .slice a l.length cap]
  have cO := fun W hW => specFrameOk k sq a cap l W hW hl
  cases ho : okF k sq l
  · rw [showF_not ho]
    rw [ho] at cO
    clear ho
    go_enter Tryz.func168, Tryz.ntmps168
    go_wp2_with fail
    refine (cO _ (h.kept g0)).mono ?_
    rintro e w1 ⟨rfl, hg1⟩
    go_wp2_with fail
    go_ret
    exact ⟨rfl, gr_trans g0 hg1⟩
  · rw [showF_ok ho]
    have hA := aheadF_len ho
    have hE := aheadF_words k sq l (okF_ne ho)
    have hsm := okF_small ho
    have h6 := okF_short ho
    obtain ⟨k1, k2, _⟩ := okF_parts ho
    have hx := letter_cut k k1 k2
    have hw1 : IntKind.i64.wrap (k - 1) = k - 1 := IntWalk.i64_in _ (by omega)
    have hw2 : 0 ≤ k - 1 := by omega
    have hw3 : k - 1 ≤ k := by omega
    rw [ho] at cO
    have cI := fun W => specInt sq W (hsm sq (by simp)).1 (hsm sq (by simp)).2
    have cL := fun W hW => specInts a cap l W hW (by omega) (fun n hn => hsm n (by simp [hn]))
    have cS := fun W => specSum (aheadF k sq l) W (by unfold maxLen; omega)
    have s1 := sumL_ge (aheadF k sq l)
    have s2 := sumL_le (aheadF k sq l)
    have cJ := fun W => specInt (sumL (aheadF k sq l)) W (by omega) (by omega)
    have lq := itoa_len sq (hsm sq (by simp)).1 (hsm sq (by simp)).2
    have lw := words_len l (fun n hn => hsm n (by simp [hn]))
    have lj := itoa_len (sumL (aheadF k sq l)) (by omega) (by omega)
    clear ho hsm s1 s2
    generalize hJ : Lib.itoa (sumL (aheadF k sq l)) = J at *
    generalize hB : behind (aheadF k sq l) = B at *
    generalize words l = W0 at *
    generalize Lib.itoa sq = I0 at *
    go_enter Tryz.func168, Tryz.ntmps168
    go_wp2_with fail
    refine (cO _ (h.kept g0)).mono ?_
    rintro e w1 ⟨rfl, hg1⟩
    replace H0 := H0.grown hg1 (by simp)
    replace g0 := gr_trans g0 hg1
    clear hg1
    obtain ⟨c0, c1, c2, _, _, _⟩ := three H0
    have d0 : ∀ d os, (Go.Sort.grow (redrawn w1 d) os).cell? ⟨w.heap.size, 0, none⟩ = some (.int .i64 k) := cell_regrown c0
    have d1 : ∀ d os, (Go.Sort.grow (redrawn w1 d) os).cell? ⟨w.heap.size, 1, none⟩ = some (.int .i64 sq) := cell_regrown c1
    have d2 : ∀ d os, (Go.Sort.grow (redrawn w1 d) os).cell? ⟨w.heap.size, 2, none⟩ = some (.slice a l.length cap) := cell_regrown c2
    have n1 : (9223372036854775807 < 2 + I0.length) = False := eq_false (by omega)
    have n2 : (9223372036854775807 < 2 + I0.length + 1) = False := eq_false (by omega)
    have n3 : (9223372036854775807 < 2 + I0.length + 1 + W0.length) = False := eq_false (by omega)
    have n4 : (9223372036854775807 < 2 + I0.length + 1 + W0.length + 1) = False := eq_false (by omega)
    go_wp2_with fail
    refine wp_region_quiet_below (by kernel_rfl) (by kernel_rfl) ?_
    repeat (quiet_step (first | (go_at_call 181; exact rg_ret (cI _)) | (go_at_call 182; exact rg_ret (cL _ ((h.kept g0).kept (gr_rg _ _ _))))))
    refine wpQuiet_nil ?_
    intro _ hw'
    obtain ⟨⟨dq, osq⟩, hw''⟩ := hw'
    subst hw''
    clear n1 n2 n3 n4 hw1 hw2 hw3
    replace g0 := gr_trans g0 (gr_rg w1 dq osq)
    generalize Go.Sort.grow (redrawn w1 dq) osq = w2 at *
    have eA : (ByteArray.mk #[letter k] ++ ByteArray.mk #[32] ++ ByteArray.mk I0.toArray ++ ByteArray.mk #[32] ++ ByteArray.mk W0.toArray ++ ByteArray.mk #[32]) = ByteArray.mk (aheadF k sq l).toArray := by
      exact (app6 [letter k] [32] I0 [32] W0 [32]).trans (by rw [hE]; simp)
    rw [eA]
    generalize hAA : aheadF k sq l = A at *
    clear eA hE hx hAA
    go_wp2_with fail
    refine (cS _).mono ?_
    rintro e w3 ⟨rfl, rfl⟩
    go_wp2_with fail
    refine (cJ _).mono ?_
    rintro e w4 ⟨rfl, hg4⟩
    go_wp2_with fail
    go_ret
    refine ⟨congrArg (fun b => Ending.returned (Value.string b)) ((app4 A [42] J [10]).trans ?_), gr_trans g0 hg4⟩
    rw [← hB, behind, hJ]
    simp
end Go.Proofs.YtdikhdfpcipdbaaGreatDoor.frm
