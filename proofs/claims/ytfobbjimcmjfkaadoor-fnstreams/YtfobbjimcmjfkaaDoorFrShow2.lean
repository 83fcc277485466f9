/- ShowFrame of the program: letterOf, withBlanks, ShowFrame. -/
import Derived.Test.YtfobbjimcmjfkaaDoorFrCat
import Derived.Test.YtfobbjimcmjfkaaDoorShelf
import Derived.Lib.AppendIntMem
namespace Go.Proofs.YtfobbjimcmjfkaaDoor.frm
open Go.ChangeShapes Go.WideShapes Go.ChangeAt Go.RowKit
open Go.Proofs.YtfobbjimcmjfkaaDoor.nums Go.Proofs.YtfobbjimcmjfkaaDoor.mem Go.Proofs.YtfobbjimcmjfkaaDoor.txt Go.Proofs.YtfobbjimcmjfkaaDoor.fix
open Go.Proofs.YtfobbjimcmjfkaaDoor.tab (Ret quiet_w wpList_make_has)
set_option linter.unusedVariables false

abbrev Pow (w : World) : Prop := Lib.TabIs Tryd.prog w "internal/strconv.uint64pow10" .u64 Lib.pow10Tab
theorem Pow.kept {w w' : World} (h : Pow w) (hg : w.grownBy w' none) : Pow w' := Lib.tabBelow_of_tabIs h w' (below_of_none hg)
theorem gr_grow (w : World) (k : Nat) (os : Array Obj) : w.grownBy (Go.Sort.grow (w.drewN k) os) none :=
  ⟨rfl, rfl, rfl, by simp [Go.Sort.grow, World.drewN], fun i hi _ => by simp [Go.Sort.grow, World.drewN, Array.getElem?_append, hi]⟩
theorem fmtInt (n : Int) (w : World) (h1 : -1000000000 < n) (h2 : n < 1000000000) (hp : Pow w) : Calls Tryd.prog 81 #[.int .i64 n, .int .i64 10] w (Ret (str (Lib.itoa n)) w) :=
  (Tryd.strconv_FormatInt_10 n (by omega) (by omega) w hp).mono fun e w' ⟨he, k, os, hw⟩ => ⟨he, hw ▸ gr_grow w k os⟩
theorem join_words (l : List Int) : Lib.join (l.map Lib.itoa) [32] = words l := by
  cases l with
  | nil => rfl
  | cons n ns =>
    rw [List.map_cons, Lib.join_cons]
    simp [words, blanks, Lib.joinTail, Function.comp_def]

set_option maxRecDepth 100000 in
theorem implLetter (k : Int) (w : World) (h1 : 1 ≤ k) (h2 : k ≤ 4) : Calls Tryd.prog 79 #[.int .i64 k] w fun e w' => e = .returned (str [letter k]) ∧ w = w' := by
  have hk : k = 1 ∨ k = 2 ∨ k = 3 ∨ k = 4 := by omega
  rcases hk with rfl | rfl | rfl | rfl
  all_goals go_enter Tryd.func79, Tryd.ntmps79
  all_goals go_wp2
  all_goals go_ret
  all_goals exact ⟨congrArg (fun b => Ending.returned (Value.string b)) (by decide +kernel), rfl⟩

theorem infoStr : (Tryd.prog.info? 9).map (fun i => (i.zero, i.size, i.bytes)) = some (some (.string ⟨#[]⟩), 1, 16) := by kernel_rfl

set_option maxRecDepth 100000 in
set_option maxHeartbeats 2000000 in
theorem implBlanks (a : Option Addr) (cap : Nat) (l : List Int) (w : World) (h : Ints w a l) (hl : l.length ≤ 100) (h0 : l ≠ []) (hb : ∀ n ∈ l, -1000000000 < n ∧ n < 1000000000) (hp : Pow w) :
    Calls Tryd.prog 80 #[.slice a l.length cap] w (Ret (str (words l)) w) := by
  obtain ⟨i0, hi, hz0, hz1, hz2⟩ := info_parts infoStr
  go_enter Tryd.func80, Tryd.ntmps80
  go_wp2_with (at_make; refine wpList_make_has _ rfl _ _ _ rfl 9 i0 _ 1 Tryd.underlying78 hi hz0 hz1 .i64 .i64 _ _ l.length rfl rfl rfl rfl (by rw [hz2]; omega) (by unfold maxLen; omega) ?_)
  have hA0 := Has.fresh w 9 (madeCells #[.string ⟨#[]⟩] l.length)
  go_loopw [11] (fun i wr => ∃ (k : Nat) (A : Array Value), k ≤ l.length ∧ i = .int .i64 k ∧ Has wr w.heap.size 9 A ∧ Hid (A.size = l.length) ∧ Hid (∀ j, j < k → A[j]? = some (str (Lib.itoa (nth l j)))) ∧ w.grownBy wr none) (fun i _ => l.length - (intOf i).toNat)
  case atStart => exact ⟨0, _, Nat.zero_le _, rfl, hA0, Lib.hid (size_madeCells _ _), Lib.hid (fun j hj => by omega), World.grownBy_alloc _ _ _⟩
  case round =>
    obtain ⟨k, A, hk, rfl, hA, hs, hr, hg⟩ := hrel
    by_cases hlt : k < l.length
    · obtain ⟨x, rfl, hbk, cx⟩ := (h.kept hg) k hlt
      have hn := hb _ (nth_mem hlt)
      go_wp2_with fail
      refine (fmtInt (nth l k) _ hn.1 hn.2 (Pow.kept hp hg)).mono ?_
      rintro e w1 ⟨rfl, hg1⟩
      replace hA := hA.grown hg1 (by simp)
      obtain ⟨v0, e0⟩ : ∃ v, A[k]? = some v := ⟨_, Array.getElem?_eq_getElem (by have := hs.out; omega)⟩
      have d0 := (hA.cell k).trans e0
      have f0 := hA.frozen k
      clear e0
      go_wp2_with fail
      go_roundw
      case rel => exact ⟨k + 1, _, by omega, by go_num, hA.set _ _, Lib.hid (by simpa using hs.out), Lib.hid (fun j hj => by
        have hs' := hs.out
        by_cases e : j = k
        · subst e
          simp [hlt, hs']
        · have e0 := hr.out j (by omega)
          rw [Array.getElem?_setIfInBounds_ne (by omega)]; exact e0), gr_new (gr_trans hg hg1) (Nat.le_refl _) _ _⟩
      case measure => simp [intOf]; omega
    · obtain rfl : k = l.length := by omega
      have hj := Tryd.strings_Join w.heap.size 0 l.length (l.map fun n => ByteArray.mk (Lib.itoa n).toArray) (ByteArray.mk [32].toArray) wr (fun j x hx => by
        have hj' : j < l.length := by have := (List.getElem?_eq_some_iff.1 hx).1; simpa using this
        rw [Nat.zero_add, hA.cell j, hr.out j hj', nth_lt hj']
        simp [hj'] at hx
        rw [← hx]) hA.lt (by simp; omega) (by simp) (by
          have := words_len l hb
          rw [show (l.map fun n => ByteArray.mk (Lib.itoa n).toArray).map (fun x => x.data.toList) = l.map Lib.itoa by simp [Function.comp_def], join_words]; omega)
      rw [show (l.map fun n => ByteArray.mk (Lib.itoa n).toArray).map (fun x => x.data.toList) = l.map Lib.itoa by simp [Function.comp_def]] at hj
      rw [show (ByteArray.mk [32].toArray).data.toList = [32] from rfl, join_words] at hj
      simp only [List.length_map] at hj
      go_wp2_with fail
      refine hj.mono ?_
      rintro e w1 ⟨rfl, hB⟩
      go_wp2_with fail
      go_ret
      exact ⟨rfl, gr_trans hg (gr_of_below hB none)⟩

set_option maxRecDepth 100000 in
set_option maxHeartbeats 2000000 in
theorem implShow (k sq : Int) (a : Option Addr) (cap : Nat) (l : List Int) (w : World) (hv : Vals w) (hp : Pow w) (h : Ints w a l) (hl : l.length ≤ maxLen) :
    Calls Tryd.prog 61 #[fr k sq a l.length cap] w (Ret (str (showF k sq l)) w) := by
  have g0 := World.grownBy_alloc w (Obj.cells #[.int .i64 k, .int .i64 sq, .slice a l.length cap] 37) none
  have H0 := Has.fresh w 37 #[.int .i64 k, .int .i64 sq, .slice a l.length cap]
  have cO := fun W hV hW => implFrameOk k sq a cap l W hV hW hl
  cases ho : okF k sq l
  · rw [showF_not ho]
    rw [ho] at cO
    clear ho
    go_enter Tryd.func61, Tryd.ntmps61
    go_wp2_with fail
    refine (cO _ (hv.kept g0) (h.kept g0)).mono ?_
    rintro e w1 ⟨rfl, hg1⟩
    go_wp2_with fail
    go_ret
    exact ⟨rfl, gr_trans g0 hg1⟩
  · rw [showF_ok ho]
    have hA := aheadF_len ho
    have hE : aheadF k sq l = letter k :: 32 :: (words (sq :: l) ++ [32]) := by simp [aheadF, blanks_cons, words]
    have hsm := okF_small ho
    have h6 := okF_short ho
    have hne := okF_ne ho
    obtain ⟨k1, k2, _⟩ := okF_parts ho
    rw [ho] at cO
    have cB := fun g cap W hW hP => implBlanks (some ⟨g, 0, none⟩) cap (sq :: l) W hW (by simp; omega) (by simp) hsm hP
    have cL := fun W => implLetter k W k1 k2
    have cS := fun W => implSum (aheadF k sq l) W (by unfold maxLen; omega)
    have s1 := sumL_ge (aheadF k sq l)
    have s2 := sumL_le (aheadF k sq l)
    have cJ := fun W hP => fmtInt (sumL (aheadF k sq l)) W (by omega) (by omega) hP
    have lw := words_len (sq :: l) hsm
    have hlc : (sq :: l).length = l.length + 1 := rfl
    rw [hlc] at lw
    have lj := itoa_len (sumL (aheadF k sq l)) (by omega) (by omega)
    clear ho hsm s1 s2
    generalize hJ : Lib.itoa (sumL (aheadF k sq l)) = J at *
    generalize hB : behind (aheadF k sq l) = B at *
    generalize words (sq :: l) = W0 at *
    have HE := Lib.hid hE
    have HB := Lib.hid hB
    have HJ := Lib.hid hJ
    clear hE hB hJ
    go_enter Tryd.func61, Tryd.ntmps61
    go_wp2_with fail
    refine (cO _ (hv.kept g0) (h.kept g0)).mono ?_
    rintro e w1 ⟨rfl, hg1⟩
    replace H0 := H0.grown hg1 (by simp)
    replace g0 := gr_trans g0 hg1
    clear hg1
    obtain ⟨c0, c1, c2, _, _, _⟩ := three H0
    obtain ⟨_, _, c3, _, _, _⟩ := three (H0.alloc (Obj.cells #[.int .i64 sq] 2))
    go_wp2_with fail
    have A1 := (Has.fresh w1 2 #[.int .i64 sq]).alloc (Obj.cells #[.slice (some ⟨w1.heap.size, 0, none⟩) 1 1, .slice a l.length cap] 35)
    have A2 := Has.fresh (w1.alloc (Obj.cells #[.int .i64 sq] 2)) 35 #[.slice (some ⟨w1.heap.size, 0, none⟩) 1 1, .slice a l.length cap]
    replace H0 := (H0.alloc (Obj.cells #[.int .i64 sq] 2)).alloc (Obj.cells #[.slice (some ⟨w1.heap.size, 0, none⟩) 1 1, .slice a l.length cap] 35)
    replace g0 := gr_alloc (gr_alloc g0 (Obj.cells #[.int .i64 sq] 2)) (Obj.cells #[.slice (some ⟨w1.heap.size, 0, none⟩) 1 1, .slice a l.length cap] 35)
    have hs : (w1.alloc (Obj.cells #[.int .i64 sq] 2)).heap.size = w1.heap.size + 1 := by simp
    rw [hs] at A2
    refine (concat sq a cap (w1.heap.size + 1) w1.heap.size l _ (h.kept g0) (by omega) hne (fun j hj => ⟨_, rfl, A1.lt, by
      have hj0 : j = 0 := by simpa using hj
      subst hj0
      rw [add0]; exact A1.cell 0⟩) A2).mono ?_
    rintro e w2 ⟨g, cp, rfl, hg2, hI⟩
    replace H0 := H0.grown hg2 (by simp)
    replace g0 := gr_trans g0 hg2
    clear A1 A2 hg2 hs c0 c1 c2 c3
    obtain ⟨c0, c1, c2, _, _, _⟩ := three H0
    go_wp2_with fail
    refine (cL _).mono ?_
    rintro e w3 ⟨rfl, rfl⟩
    go_wp2_with fail
    refine (cB g cp _ hI (Pow.kept hp g0)).mono ?_
    rintro e w3 ⟨rfl, hg3⟩
    replace g0 := gr_trans g0 hg3
    clear hI hg3 H0 c0 c1 c2
    go_wp2_with fail
    have eA : (ByteArray.mk #[letter k] ++ ByteArray.mk #[32] ++ ByteArray.mk W0.toArray ++ ByteArray.mk #[32]) = ByteArray.mk (aheadF k sq l).toArray :=
      (app4 [letter k] [32] W0 [32]).trans (by rw [HE.out]; simp)
    rw [eA]
    clear eA HE
    generalize aheadF k sq l = A at *
    refine (cS _).mono ?_
    rintro e w4 ⟨rfl, rfl⟩
    go_wp2_with fail
    refine (cJ _ (Pow.kept hp g0)).mono ?_
    rintro e w5 ⟨rfl, hg5⟩
    go_wp2_with fail
    go_ret
    refine ⟨congrArg (fun b => Ending.returned (Value.string b)) ((app4 A [42] J [10]).trans ?_), gr_trans g0 hg5⟩
    rw [← HB.out, behind, HJ.out]
    simp
end Go.Proofs.YtfobbjimcmjfkaaDoor.frm
