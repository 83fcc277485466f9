/- Two frames that hold the same are told alike; SumOf's text is drawn. What is drawn for the law of the newer ones: two numbers; a list of frames. A choice out of the bytes of a draw. Heard of the program. -/
import Derived.Test.YtdikhdfpcipdbaaGreatDoorG9
import Derived.Test.YtdikhdfpcipdbaaGreatDoorG26
import Derived.Test.YtdikhdfpcipdbaaGreatDoorG22
import Derived.Deep.Cut
import Derived.Test.YtdikhdfpcipdbaaGreatDoorG15
import Derived.Test.YtdikhdfpcipdbaaGreatDoorG24
/- Two frames that hold the same are told alike; SumOf's text is drawn. -/
namespace Go.Proofs.YtdikhdfpcipdbaaGreatDoor.frm
open Go.ChangeShapes Go.WideShapes Go.ChangeAt Go.RowKit
open Go.Proofs.YtdikhdfpcipdbaaGreatDoor.nums Go.Proofs.YtdikhdfpcipdbaaGreatDoor.mem Go.Proofs.YtdikhdfpcipdbaaGreatDoor.txt Go.Proofs.YtdikhdfpcipdbaaGreatDoor.fix Go.Proofs.YtdikhdfpcipdbaaGreatDoor.cur
open Go.Proofs.YtdikhdfpcipdbaaGreatDoor.tab (Ret quiet_w wpList_make_has)
set_option linter.unusedVariables false

set_option maxHeartbeats 1000000 in
theorem likeInts (a a' : Option Addr) (cap cap' : Nat) (l : List Int) (w : World) (h : Ints w a l) (h' : Ints w a' l) (hl : l.length ≤ maxLen) :
    Calls Tryz.prog 38 #[.slice a l.length cap, .slice a' l.length cap'] w (Ret (.bool true) w) := by
  have hm : l.length ≤ 9223372036854775807 := by unfold maxLen at hl; exact hl
  clear hl
  go_enter Tryz.func38, Tryz.ntmps38
  go_wp2
  go_loopw [5] (fun i wr => ∃ k : Nat, k ≤ l.length ∧ i = .int .i64 k ∧ w.grownBy wr none) (fun i _ => l.length - (intOf i).toNat)
  case atStart => exact ⟨0, Nat.zero_le _, rfl, gr_refl _ _⟩
  case round =>
    obtain ⟨k, hk, rfl, hg⟩ := hrel
    by_cases hlt : k < l.length
    · obtain ⟨x, rfl, _, cx⟩ := (h.kept hg) k hlt
      obtain ⟨x', rfl, _, dx⟩ := (h'.kept hg) k hlt
      go_wp2_with fail
      go_quiet (fail)
      go_wp2_with fail
      go_roundw
      case rel => exact ⟨k + 1, by omega, by go_num, gr_drewN hg _⟩
      case measure => simp [intOf]; omega
    · obtain rfl : k = l.length := by omega
      go_wp2_with fail
      go_ret
      exact ⟨rfl, hg⟩

end Go.Proofs.YtdikhdfpcipdbaaGreatDoor.frm

/- What is drawn for the law of the newer ones: two numbers; a list of frames. -/
namespace Go.Proofs.YtdikhdfpcipdbaaGreatDoor.stm
open Go.ChangeShapes Go.WideShapes Go.ChangeAt Go.RowKit
open Go.Proofs.YtdikhdfpcipdbaaGreatDoor.nums Go.Proofs.YtdikhdfpcipdbaaGreatDoor.mem Go.Proofs.YtdikhdfpcipdbaaGreatDoor.txt Go.Proofs.YtdikhdfpcipdbaaGreatDoor.fix Go.Proofs.YtdikhdfpcipdbaaGreatDoor.frm
open Go.Proofs.YtdikhdfpcipdbaaGreatDoor.cur (Cur Bytes below once from_ new Cur.alloc Cur.kept Cur.lt)
open Go.Proofs.YtdikhdfpcipdbaaGreatDoor.tab (Ret quiet_w wpList_make_has add_off)
set_option linter.unusedVariables false

theorem short_snoc {fs : List Fr} {f : Fr} (h : ∀ k, k < fs.length → (fv fs k).length ≤ 6) (hf : f.2.2.length ≤ 6) : ∀ k, k < (fs ++ [f]).length → (fv (fs ++ [f]) k).length ≤ 6 := by
  intro k hk
  by_cases e : k < fs.length
  · rw [(fk_lt e).2.2]; exact h k e
  · have e' : k = fs.length := by simp at hk; omega
    subst e'
    rw [fk_eq.2.2]; exact hf

theorem ints_past {w w' : World} {q : Nat} {a : Option Addr} {vs : List Int} (hI : Ints w a vs) (hg : w.grownBy w' (some q)) (hoff : ∀ d, blkV a vs d → q < d) : Ints w' a vs :=
  (chg_of_gr (S := fun d => some d = some q) hg (fun b e => e)).ints hI (fun x e hl er => by
    have := hoff x.block ⟨fun e => by rw [e] at hl; simp at hl, x, e, rfl⟩
    injection er with er
    omega)

end Go.Proofs.YtdikhdfpcipdbaaGreatDoor.stm

/- A choice out of the bytes of a draw. -/
namespace Go.Proofs.YtdikhdfpcipdbaaGreatDoor.cur
open Go.ChangeShapes Go.WideShapes Go.ChangeAt Go.RowKit
open Go.Proofs.YtdikhdfpcipdbaaGreatDoor.nums Go.Proofs.YtdikhdfpcipdbaaGreatDoor.mem
set_option linter.unusedVariables false

theorem bytes_grown {w w' : World} {b : Option Addr} {n : Nat} (h : Bytes w w.heap.size b n) (hg : w.grownBy w' none) : Bytes w' w'.heap.size b n :=
  (h.below (Nat.le_refl _) (below_of_none hg)).more hg.size

set_option maxHeartbeats 1000000 in
theorem pick (b : Option Addr) (n c q : Nat) (s m : Int) (w : World) (hn : n ≤ 4096) (hb : Bytes w q b n) (hs0 : 0 ≤ s) (hs1 : s ≤ 1000) (hm : 1 ≤ m) (hm2 : m ≤ 1000000) :
    Calls Tryz.prog 19 #[.slice b n c, .int .i64 s, .int .i64 m] w fun e w' => ∃ r : Int, 0 ≤ r ∧ r < m ∧ e = .returned (.int .i64 r) ∧ w = w' := by
  go_enter Tryz.func19, Tryz.ntmps19
  go_wp2_with fail
  go_loopw [7, 8] (fun k i wr => w = wr ∧ ∃ (j : Nat) (v : Int), j ≤ n ∧ i = .int .i64 j ∧ k = .int .i64 v ∧ 0 ≤ v ∧ v ≤ 20000000) (fun k i _ => n - (intOf i).toNat)
  case atStart => exact ⟨rfl, 0, _, Nat.zero_le _, rfl, rfl, by omega, by omega⟩
  case round =>
    obtain ⟨rfl, j, v, hj, rfl, rfl, hv0, hv1⟩ := hrel
    by_cases hlt : j < n
    · obtain ⟨x, z, rfl, hx, hz, hz0, hz1⟩ := hb j hlt
      go_wp2_with fail
      go_roundw
      case rel => exact ⟨trivial, j + 1, _, by omega, by go_num, rfl, by omega, by omega⟩
      case measure => simp [intOf]; omega
    · obtain rfl : j = n := by omega
      go_wp2_with fail
      go_ret
      exact ⟨v % m, Int.emod_nonneg _ (by omega), Int.emod_lt_of_pos _ (by omega), rfl, rfl⟩
end Go.Proofs.YtdikhdfpcipdbaaGreatDoor.cur

/- Heard of the program. -/
namespace Go.Proofs.YtdikhdfpcipdbaaGreatDoor.stm
open Go.ChangeShapes Go.WideShapes Go.ChangeAt Go.RowKit
open Go.Proofs.YtdikhdfpcipdbaaGreatDoor.nums Go.Proofs.YtdikhdfpcipdbaaGreatDoor.mem Go.Proofs.YtdikhdfpcipdbaaGreatDoor.txt Go.Proofs.YtdikhdfpcipdbaaGreatDoor.fix Go.Proofs.YtdikhdfpcipdbaaGreatDoor.frm
open Go.Proofs.YtdikhdfpcipdbaaGreatDoor.tab (Ret quiet_w wpList_make_has add_off)
set_option linter.unusedVariables false

/-- What was newer so far, in a list of its own: the last one of them. -/
def Newer (base lim : Nat) (r : Option Fr) (v : Value) (wr : World) : Prop := match r with
  | none => v = .slice none 0 0
  | some f => ∃ (g n cap : Nat) (xs : List Value) (a : Option Addr) (c : Nat), v = .slice (some ⟨g, 0, none⟩) (n + 1) cap ∧ n + 1 ≤ lim ∧ wr.ownsRow base 50 3 v (n + 1) xs ∧
      xs[n * 3]? = some (.int .i64 f.1) ∧ xs[n * 3 + 1]? = some (.int .i64 f.2.1) ∧ xs[n * 3 + 2]? = some (.slice a f.2.2.length c) ∧ Ints wr a f.2.2
theorem Newer.kept {base lim lim' : Nat} {r : Option Fr} {v : Value} {w w' : World} (h : Newer base lim r v w) (hg : w.grownBy w' none) (hl : lim ≤ lim') : Newer base lim' r v w' := by
  match r with
  | none => exact h
  | some f =>
    obtain ⟨g, n, cap, xs, a, c, hv, hn, ho, h0, h1, h2, hI⟩ := h
    exact ⟨g, n, cap, xs, a, c, hv, by omega, ho.kept hg (by cases hq : v.ownBlock <;> simp), h0, h1, h2, hI.kept hg⟩
theorem Newer.row {base lim : Nat} {r : Option Fr} {v : Value} {w : World} (h : Newer base lim r v w) : ∃ n xs, n ≤ lim ∧ w.ownsRow base 50 3 v n xs := by
  match r with
  | none => obtain rfl := (show v = .slice none 0 0 from h); exact ⟨0, [], Nat.zero_le _, World.ownsRow_nil _ _ _ _⟩
  | some f =>
    obtain ⟨g, n, cap, xs, a, c, hv, hn, ho, _⟩ := h
    exact ⟨n + 1, xs, hn, ho⟩
theorem Newer.of {base lim n g cap : Nat} {f : Fr} {a : Option Addr} {c : Nat} {xs : List Value} {w : World} (hn : n + 1 ≤ lim) (hl : xs.length = n * 3) (ho : w.ownsRow base 50 3 (.slice (some ⟨g, 0, none⟩) (n + 1) cap) (n + 1) (xs ++ [.int .i64 f.1, .int .i64 f.2.1, .slice a f.2.2.length c])) (hI : Ints w a f.2.2) :
    Newer base lim (some f) (.slice (some ⟨g, 0, none⟩) (n + 1) cap) w := by
  refine ⟨g, n, cap, _, a, c, rfl, hn, ho, ?_, ?_, ?_, hI⟩
  · rw [List.getElem?_append_right (by omega), hl]; simp
  · rw [List.getElem?_append_right (by omega), hl]; simp
  · rw [List.getElem?_append_right (by omega), hl]; simp

set_option maxRecDepth 100000 in
set_option maxHeartbeats 4000000 in
theorem implHeard (a : Option Addr) (cap : Nat) (fs : List Fr) (ps : List Pl) (kind old : Int) (w : World) (hV : Vals w) (h : Frs w a fs ps) (hl : fs.length ≤ 1048576) (hv : ∀ k, k < fs.length → (fv fs k).length ≤ 1048576) :
    Calls Tryz.prog 28 #[.slice a fs.length cap, .int .i64 kind, .int .i64 old] w (ReadOut (heard kind old fs) w) := by
  obtain ⟨i0, hi, hz0, hz1, hz2⟩ := info_parts infoFrame
  have HA0 := Has.fresh w 50 #[.int .i64 0, .int .i64 0, .slice none 0 0]
  have g00 := World.grownBy_alloc w (Obj.cells #[.int .i64 0, .int .i64 0, .slice none 0 0] 50) none
  have hs0 : (w.alloc (Obj.cells #[.int .i64 0, .int .i64 0, .slice none 0 0] 50)).heap.size = w.heap.size + 1 := by simp
  go_enter Tryz.func28, Tryz.ntmps28
  go_wp2_with fail
  go_loopw [2, 8, 15] (fun o v i wr => ∃ (k : Nat) (O : Int) (r : Option Fr), k ≤ fs.length ∧ i = .int .i64 k ∧ o = .int .i64 O ∧ Hid (hfold kind old fs k = (O, r)) ∧ Has wr w.heap.size 50 #[.int .i64 0, .int .i64 0, .slice none 0 0] ∧ Newer (w.heap.size + 1) k r v wr ∧ w.heap.size + 1 ≤ wr.heap.size ∧ w.grownBy wr none) (fun _ _ i _ => fs.length - (intOf i).toNat)
  case atStart => exact ⟨0, old, none, Nat.zero_le _, rfl, rfl, Lib.hid (hfold_zero _ _ _), HA0, rfl, by omega, g00⟩
  case round =>
    clear HA0 g00 hs0
    obtain ⟨k, O, r, hk, rfl, rfl, hf, HA, HB, hsz, hg⟩ := hrel
    by_cases hlt : k < fs.length
    · have h6 := hv k hlt
      have hF := hfold_succ (kind := kind) (old := old) hlt
      rw [hf.out] at hF
      obtain ⟨x, rfl, hxb, cx, cy, cz, hI⟩ := (h.kept hg) k hlt
      obtain ⟨x', e', hxw, _, _, _, hIw⟩ := h k hlt
      injection e' with e'
      subst e'
      have hnxt : ∀ s, hst kind (O, r) (fk fs k, fq fs k, fv fs k) = s → hfold kind old fs (k + 1) = s := fun s e => hF.trans e
      have HN := Lib.hid hnxt
      clear hF hf hnxt
      generalize fk fs k = K at *
      generalize fq fs k = Q at *
      generalize fv fs k = V at *
      generalize pa ps k = A at *
      generalize pc ps k = C at *
      have ga := World.grownBy_alloc wr (Obj.cells #[.int .i64 K, .int .i64 Q, .slice A V.length C] 50) none
      have HF := Has.fresh wr 50 #[.int .i64 K, .int .i64 Q, .slice A V.length C]
      replace hg := gr_trans hg ga
      replace HA := HA.grown ga (by simp)
      obtain ⟨n, xs, hnk, hrow0⟩ := HB.row
      replace HB := HB.kept ga (Nat.le_refl _)
      replace hI := hI.kept ga
      have hVr := hV.kept hg
      have hsz1 := Nat.le_trans hsz ga.size
      by_cases hK : K = kind
      · subst hK
        cases hO : okF K Q V
        · have cF : ∀ W, Vals W → Ints W A V → Calls Tryz.prog 65 #[fr K Q A V.length C] W (Ret (.bool false) W) := fun W hVW hW => hO ▸ implFrameOk K Q A C V W hVW hW (by unfold maxLen; omega)
          have hn := HN.out _ (hst_no (by rw [hO]; simp))
          clear hO HN ga
          go_wp2_with fail
          refine (cF _ hVr hI).mono ?_
          rintro e w1 ⟨rfl, hg1⟩
          go_wp2_with fail
          go_roundw
          case rel => exact ⟨k + 1, O, r, by omega, by go_num, rfl, Lib.hid hn, HA.grown hg1 (by simp), HB.kept hg1 (by omega), Nat.le_trans hsz1 hg1.size, gr_trans hg hg1⟩
          case measure => simp [intOf]; omega
        · have cF : ∀ W, Vals W → Ints W A V → Calls Tryz.prog 65 #[fr K Q A V.length C] W (Ret (.bool true) W) := fun W hVW hW => hO ▸ implFrameOk K Q A C V W hVW hW (by unfold maxLen; omega)
          cases hN : newer O Q
          · have cN : ∀ W, Calls Tryz.prog 66 #[.int .i64 O, .int .i64 Q] W fun e w' => e = .returned (.bool false) ∧ W = w' := fun W => hN ▸ implNewer O Q W
            have hn := HN.out _ (hst_no (by rw [hO, hN]; simp))
            clear hO HN hN ga
            go_wp2_with fail
            refine (cF _ hVr hI).mono ?_
            rintro e w1 ⟨rfl, hg1⟩
            obtain ⟨d0, d1, d2, _, _, _⟩ := three (HF.grown hg1 (by simp))
            go_wp2_with fail
            refine (cN _).mono ?_
            rintro e w2 ⟨rfl, rfl⟩
            go_wp2_with fail
            go_roundw
            case rel => exact ⟨k + 1, O, r, by omega, by go_num, rfl, Lib.hid hn, HA.grown hg1 (by simp), HB.kept hg1 (by omega), Nat.le_trans hsz1 hg1.size, gr_trans hg hg1⟩
            case measure => simp [intOf]; omega
          · have cN : ∀ W, Calls Tryz.prog 66 #[.int .i64 O, .int .i64 Q] W fun e w' => e = .returned (.bool true) ∧ W = w' := fun W => hN ▸ implNewer O Q W
            have hn := HN.out _ (hst_yes (by rw [hO, hN]; simp))
            clear hO HN hN ga
            go_wp2_with fail
            refine (cF _ hVr hI).mono ?_
            rintro e w1 ⟨rfl, hg1⟩
            obtain ⟨d0, d1, d2, _, _, _⟩ := three (HF.grown hg1 (by simp))
            go_wp2_with fail
            refine (cN _).mono ?_
            rintro e w2 ⟨rfl, rfl⟩
            have HA1 := HA.grown hg1 (by simp)
            have HF1 := HF.grown hg1 (by simp)
            have HB1 := HB.kept hg1 (Nat.le_refl _)
            have hI1 := hI.kept hg1
            have hg2 := gr_trans hg hg1
            have hsz2 := Nat.le_trans hsz1 hg1.size
            have hrow := (hrow0.alloc (Obj.cells #[.int .i64 K, .int .i64 Q, .slice A V.length C] 50)).kept hg1 (own_ne_none _)
            have hxl := hrow.1
            have hb1 := World.grownBy_alloc w1 (Obj.cells #[.int .i64 K, .int .i64 Q, .slice A V.length C] 50) none
            clear cF cN cx cy cz HA HF HB HB1 hI hg hg1 hVr
            go_wp2_with (at_builtin; go_must (refine wpList_append_lies _ rfl _ _ _ rfl (w.heap.size + 1) 50 i0 _ 3 40 Tryz.underlying96 hi hz0 hz1 hz2 rfl (by omega) _ n xs rfl (hrow.alloc _) ⟨w1.heap.size, 0, none⟩ 1 1 [.int .i64 K, .int .i64 Q, .slice A V.length C] rfl rfl (World.news_of_block (cs := #[.int .i64 K, .int .i64 Q, .slice A V.length C]) (t := 50) (fr := (0, 0)) (heap_alloc_new w1 _)) (by simp [Value.oneCell']) (by omega) (by unfold maxLen; omega) (by omega) (by simp; omega) (w1.heap.size + 1) (by simp) ?_); intro gg cap1 w3 hown hgrow hat hlt3; have HF3 := (HF1.alloc (Obj.cells #[.int .i64 K, .int .i64 Q, .slice A V.length C] 50)).grown hgrow (fun e => by have := (hrow0.lt _ e.symm).2; omega); obtain ⟨e0, e1, e2, _, _, _⟩ := three HF3)
            have g3 := gr_own (gr_trans hg2 hb1) (hrow.alloc (Obj.cells #[.int .i64 K, .int .i64 Q, .slice A V.length C] 50)) (Nat.le_succ _) hgrow
            have HA3 := own_keep (HA1.alloc (Obj.cells #[.int .i64 K, .int .i64 Q, .slice A V.length C] 50)) (hrow.alloc (Obj.cells #[.int .i64 K, .int .i64 Q, .slice A V.length C] 50)) (Nat.lt_succ_self _) hgrow
            have hsz3 := hgrow.size
            go_roundw
            case rel => exact ⟨k + 1, Q, some (K, Q, V), by omega, by go_num, rfl, Lib.hid hn, HA3, Newer.of (by omega) hxl hown (hIw.kept g3), by simp at hsz3; omega, g3⟩
            case measure => simp [intOf]; omega
      · have hn := HN.out _ (hst_no (by rw [decide_eq_false hK]; rfl))
        have hK' : (K == kind) = false := by rw [beq_eq_false_iff_ne]; exact hK
        clear HN ga
        go_wp2_with fail
        go_roundw
        case rel => exact ⟨k + 1, O, r, by omega, by go_num, rfl, Lib.hid hn, HA, HB.kept (gr_refl _ _) (by omega), hsz1, hg⟩
        case measure => simp [intOf]; omega
    · obtain rfl : k = fs.length := by omega
      have hh : heard kind old fs = r := by rw [heard, hf.out]
      have HH := Lib.hid hh
      have hOk := hfold_ok kind old fs fs.length
      rw [hf.out] at hOk
      clear hf hh
      have hIw : True := trivial
      cases r with
      | none =>
        have e8 := (show _ = Value.slice none 0 0 from HB)
        subst e8
        go_wp2_with fail
        refine (lastNone _).mono ?_
        rintro e w1 ⟨rfl, hg1⟩
        have HA1 := (HA.grown hg1 (by simp)).alloc (Obj.cells #[.int .i64 0, .int .i64 0, .slice none 0 0] 50)
        have HF := Has.fresh w1 50 #[.int .i64 0, .int .i64 0, .slice none 0 0]
        have g1 := gr_alloc (gr_trans hg hg1) (Obj.cells #[.int .i64 0, .int .i64 0, .slice none 0 0] 50)
        have hsz1 := hg1.size
        obtain ⟨p0, p1, p2, q0, q1, q2⟩ := three HA1
        go_wp2_with fail
        refine (implCloneNil _).mono ?_
        rintro e w2 ⟨rfl, rfl⟩
        obtain ⟨s0, s1, s2, v0, v1, v2⟩ := three HF
        go_wp2_with fail
        obtain ⟨r0, r1, r2, _, _, _⟩ := three (set3 HA1 (.int .i64 0) (.int .i64 0) (.slice none 0 0))
        exact bodyPost_ret (v := .tuple #[fr 0 0 none 0 0, .bool false]) (by simp [results, Tryz.results28, go_sem, r0, r1, r2]) rfl (out_none HH.out (gr_new (gr_new (gr_new g1 (Nat.le_refl _) _ _) (Nat.le_refl _) _ _) (Nat.le_refl _) _ _))
      | some f =>
        obtain ⟨g, n, cap1, xs, a1, c1, rfl, hn1, hrow, x0, x1, x2, hI⟩ := HB
        obtain ⟨K, Q, V⟩ := f
        obtain ⟨hok, hkd⟩ := hOk _ rfl
        have hV0 : V ≠ [] := okF_ne hok
        have hV6 : V.length ≤ 6 := okF_short hok
        have y0 := hrow.cellAt (n * 3) (by omega)
        have y1 := hrow.cellAt (n * 3 + 1) (by omega)
        have y2 := hrow.cellAt (n * 3 + 2) (by omega)
        have cL := lastSome g n cap1 K Q a1 V.length c1 wr (by omega) (hrow.lt g rfl).2 (y0.trans x0) (y1.trans x1) (y2.trans x2)
        have cC := fun W hW => implClone a1 c1 V W hW hV0 (by omega)
        clear y0 y1 y2 x0 x1 x2 hrow hok hkd hOk
        go_wp2_with fail
        refine cL.mono ?_
        rintro e w1 ⟨rfl, hg1⟩
        have HA1 := (HA.grown hg1 (by simp)).alloc (Obj.cells #[.int .i64 K, .int .i64 Q, .slice a1 V.length c1] 50)
        have HF := Has.fresh w1 50 #[.int .i64 K, .int .i64 Q, .slice a1 V.length c1]
        have g1 := gr_alloc (gr_trans hg hg1) (Obj.cells #[.int .i64 K, .int .i64 Q, .slice a1 V.length c1] 50)
        have hsz1 := hg1.size
        have hI1 := (hI.kept hg1).kept (World.grownBy_alloc w1 (Obj.cells #[.int .i64 K, .int .i64 Q, .slice a1 V.length c1] 50) none)
        clear hI
        go_wp2_with fail
        refine (cC _ hI1).mono ?_
        rintro e w2 ⟨a2, c2, rfl, hg2, hO2⟩
        replace HA1 := HA1.grown hg2 (by simp)
        replace HF := HF.grown hg2 (by simp)
        obtain ⟨p0, p1, p2, q0, q1, q2⟩ := three HA1
        obtain ⟨s0, s1, s2, v0, v1, v2⟩ := three HF
        go_wp2_with fail
        have hne : w.heap.size ≠ w1.heap.size := by omega
        obtain ⟨r0, r1, r2, _, _, _⟩ := three (set3 (has_other HA1 hne 2 (.slice a2 V.length c2)) (.int .i64 K) (.int .i64 Q) (.slice a2 V.length c2))
        have hO3 : Own (w1.heap.size + 1) w2 a2 V := by simpa using hO2
        have hO4 : Own (w.heap.size + 1) (w2.setCell ⟨w1.heap.size, 2, none⟩ (.slice a2 V.length c2)) a2 V := (hO3.set 2 (.slice a2 V.length c2)).up (by omega)
        exact bodyPost_ret (v := .tuple #[fr K Q a2 V.length c2, .bool true]) (by simp [results, Tryz.results28, go_sem, r0, r1, r2]) rfl (out_some (f := (K, Q, V)) HH.out (gr_new (gr_new (gr_new (gr_new (gr_trans g1 hg2) (by omega) _ _) (Nat.le_refl _) _ _) (Nat.le_refl _) _ _) (Nat.le_refl _) _ _) ((((hO4.set _ _).set _ _).set _ _).up (Nat.le_succ _)))
end Go.Proofs.YtdikhdfpcipdbaaGreatDoor.stm

