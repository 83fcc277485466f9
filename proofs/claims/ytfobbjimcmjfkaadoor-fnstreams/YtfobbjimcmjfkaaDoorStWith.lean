/- What FramesIn of the program calls: with, leftOver; and the pieces told one by one. -/
import Derived.Test.YtfobbjimcmjfkaaDoorStLines
import Derived.Lib.LastIndexByte
namespace Go.Proofs.YtfobbjimcmjfkaaDoor.stm
open Go.ChangeShapes Go.WideShapes Go.ChangeAt Go.RowKit
open Go.Proofs.YtfobbjimcmjfkaaDoor.nums Go.Proofs.YtfobbjimcmjfkaaDoor.mem Go.Proofs.YtfobbjimcmjfkaaDoor.txt Go.Proofs.YtfobbjimcmjfkaaDoor.fix Go.Proofs.YtfobbjimcmjfkaaDoor.frm
open Go.Proofs.YtfobbjimcmjfkaaDoor.tab (Ret quiet_w wpList_make_has add_off)
set_option linter.unusedVariables false

theorem rd_noten {rd : List UInt8 → Option Fr} (hrd : ∀ s, IsRead s (rd s)) {l : List UInt8} (h : ∀ c ∈ l, c ≠ 10) : rd l = none := by
  cases hr : rd l with
  | none => rfl
  | some f =>
    have := hrd l
    rw [hr] at this
    obtain ⟨h1, h2⟩ := this
    rw [showF_cons h1] at h2
    exact absurd rfl (h 10 (by rw [← h2]; simp))
/-- All pieces, one by one. -/
def told (rd : List UInt8 → Option Fr) (xs : List (List UInt8)) : List Fr := xs.foldl (fun o x => push o (rd x)) []
theorem told_snoc (rd : List UInt8 → Option Fr) (xs : List (List UInt8)) (x : List UInt8) : told rd (xs ++ [x]) = push (told rd xs) (rd x) := by simp [told, List.foldl_append]
theorem told_fold {rd : List UInt8 → Option Fr} (hrd : ∀ s, IsRead s (rd s)) : ∀ (s acc : List UInt8) (out : List Fr), (∀ c ∈ acc, c ≠ 10) → (lnsA acc s).foldl (fun o x => push o (rd x)) out = (s.foldl (stp rd) (acc, out)).2 := by
  intro s
  induction s with
  | nil =>
    intro acc out h
    rw [lnsA]
    split
    · rfl
    · rw [List.foldl_cons, rd_noten hrd h]; rfl
  | cons c s ih =>
    intro acc out h
    rw [lnsA, List.foldl_cons]
    by_cases hc : c = 10
    · rw [if_pos hc, List.foldl_cons, ih [] _ (fun c hc => by simp at hc), stp, if_pos hc]
    · rw [if_neg hc, ih _ _ (fun d hd => ?_), stp, if_neg hc]
      rcases List.mem_append.1 hd with h1 | h1
      · exact h d h1
      · rw [List.mem_singleton.1 h1]; exact hc
theorem told_run {rd : List UInt8 → Option Fr} (hrd : ∀ s, IsRead s (rd s)) (s : List UInt8) : told rd (lns s) = (run rd s).2 := told_fold hrd s [] [] (fun c hc => by simp at hc)
theorem fold_none (rd : List UInt8 → Option Fr) : ∀ (t acc : List UInt8) (out : List Fr), (∀ c ∈ t, c ≠ 10) → t.foldl (stp rd) (acc, out) = (acc ++ t, out) := by
  intro t
  induction t with
  | nil => intro acc out _; simp
  | cons c t ih =>
    intro acc out h
    rw [List.foldl_cons, stp, if_neg (h c (by simp)), ih _ _ (fun d hd => h d (by simp [hd]))]
    simp
/-- What is behind the last byte 10. -/
theorem last_run (rd : List UInt8 → Option Fr) (s : List UInt8) : ∃ m : Nat, Lib.lastIndexByte (ByteArray.mk s.toArray) 10 + 1 = m ∧ m ≤ s.length ∧ (run rd s).1 = s.drop m := by
  have get : ∀ j (hj : j < s.length), ((ByteArray.mk s.toArray).data[j]!) = s[j] := fun j hj => by simp [hj]
  rcases Lib.lastIndexByte_spec (ByteArray.mk s.toArray) 10 with ⟨h1, h2⟩ | ⟨i, hi, h1, h2, h3⟩
  · refine ⟨0, by rw [h1]; rfl, Nat.zero_le _, ?_⟩
    rw [run, fold_none rd s [] [] (fun c hc e => ?_)]
    · rfl
    · obtain ⟨j, hj, ej⟩ := List.getElem_of_mem hc
      refine h2 j hj ?_
      rw [get j hj, ej, e]; rfl
  · have hi' : i < s.length := hi
    rw [get i hi'] at h2
    have h10 : s[i] = 10 := UInt8.toNat.inj (by simp; omega)
    refine ⟨i + 1, by rw [h1]; rfl, by omega, ?_⟩
    have e : s = (s.take i ++ [10]) ++ s.drop (i + 1) := by
      conv => lhs; rw [← List.take_append_drop i s, List.drop_eq_getElem_cons hi', h10]
      simp
    conv => lhs; rw [e]
    rw [run_app, run_snoc]
    have hs : stp rd (run rd (s.take i)) 10 = ([], push (run rd (s.take i)).2 (rd ((run rd (s.take i)).1 ++ [10]))) := by rw [stp, if_pos rfl]
    rw [hs, fold_none rd _ _ _ (fun c hc e => ?_)]
    · rfl
    · obtain ⟨j, hj, ej⟩ := List.getElem_of_mem hc
      have hj' : i + 1 + j < s.length := by simp at hj; omega
      refine h3 (i + 1 + j) (by omega) hj' ?_
      rw [get _ hj']
      rw [List.getElem_drop] at ej
      rw [ej, e]; rfl

set_option maxRecDepth 100000 in
set_option maxHeartbeats 1000000 in
theorem implLeft (rd : List UInt8 → Option Fr) (s : List UInt8) (w : World) (hl : s.length ≤ 4000) : Calls Tryd.prog 36 #[str s] w fun e w' => e = .returned (str (rest (run rd s).1)) ∧ w = w' := by
  obtain ⟨m, hm, hml, hr⟩ := last_run rd s
  have cL := fun W => Tryd.strings_LastIndexByte (ByteArray.mk s.toArray) 10 (show s.length < _ by omega) W
  rw [hr]
  obtain ⟨i, hi⟩ : ∃ i, Lib.lastIndexByte (ByteArray.mk s.toArray) 10 = i := ⟨_, rfl⟩
  rw [hi] at hm cL
  clear hr hi
  obtain rfl : i = (m : Int) - 1 := by omega
  have hw3 : IntKind.i64.wrap ((m : Int) - 1 + 1) = (m : Int) := by rw [Int.sub_add_cancel]; exact IntWalk.i64_in _ (by omega)
  have hm4 : (m : Int) ≤ s.length := by omega
  have hdr := str_drop s m
  clear hm
  by_cases h60 : 60 < s.length - m
  · have h60' : decide (60 < ((s.drop m).length : Int)) = true := by simp; omega
    rw [show rest (s.drop m) = [] by rw [rest, if_pos (by simp; omega)]]
    go_enter Tryd.func36, Tryd.ntmps36
    go_wp2_with fail
    refine (cL _).mono ?_
    rintro e w' ⟨rfl, rfl⟩
    go_wp2_with fail
    go_ret
    exact ⟨rfl, rfl⟩
  · have h60' : decide (60 < ((s.drop m).length : Int)) = false := by simp; omega
    rw [show rest (s.drop m) = s.drop m by rw [rest, if_neg (by simp; omega)]]
    go_enter Tryd.func36, Tryd.ntmps36
    go_wp2_with fail
    refine (cL _).mono ?_
    rintro e w' ⟨rfl, rfl⟩
    go_wp2_with fail
    go_ret
    exact ⟨rfl, rfl⟩

/-- What with answers: the list, and perhaps one more. -/
def WithOut (base : Nat) (a : Option Addr) (cap : Nat) (fs : List Fr) (f : Fr) (w : World) (e : Ending) (w' : World) : Prop := ∃ (a' : Option Addr) (cap' : Nat) (ps' : List Pl), e = .returned (.slice a' (push fs (some f)).length cap') ∧
  Lst base w' (.slice a' (push fs (some f)).length cap') (push fs (some f)) ps' ∧ Deep w' (push fs (some f)) ps' ∧ Chg (fun b => (Value.slice a fs.length cap).ownBlock = some b) w w'

set_option maxRecDepth 100000 in
set_option maxHeartbeats 2000000 in
theorem implWith (base N : Nat) (a : Option Addr) (cap : Nat) (fs : List Fr) (ps : List Pl) (K Q : Int) (V : List Int) (a1 : Option Addr) (c1 : Nat) (w : World) (L : Lst base w (.slice a fs.length cap) fs ps) (D : Deep w fs ps) (h50 : fs.length ≤ 50) (hO : OwnV w a1 V) (hN : base ≤ N) (hNw : N ≤ w.heap.size)
    (hge : ∀ b, blkV a1 V b → N ≤ b) (hlow : (∀ b, (Value.slice a fs.length cap).ownBlock = some b → b < N) ∧ ∀ k b, k < fs.length → blkV (pa ps k) (fv fs k) b → b < N) :
    Calls Tryd.prog 35 #[.slice a fs.length cap, fr K Q a1 V.length c1, .int .i64 50] w (WithOut base a cap fs (K, Q, V) w) := by
  obtain ⟨i0, hi, hz0, hz1, hz2⟩ := info_parts infoFrame
  have ga := World.grownBy_alloc w (Obj.cells #[.int .i64 K, .int .i64 Q, .slice a1 V.length c1] 37) none
  by_cases hlen : fs.length < 50
  · have hlen' : decide (50 ≤ (fs.length : Int)) = false := by simp; omega
    have hpu : push fs (some (K, Q, V)) = fs ++ [(K, Q, V)] := by simp [push, hlen]
    have HP := Lib.hid hpu
    clear hpu
    have HX := Has.fresh w 37 #[.int .i64 K, .int .i64 Q, .slice a1 V.length c1]
    have L1 := L.kept ga
    have D1 := D.kept ga
    have hO1 := hO.kept ga
    have hsz : N ≤ (w.alloc (Obj.cells #[.int .i64 K, .int .i64 Q, .slice a1 V.length c1] 37)).heap.size := Nat.le_trans hNw ga.size
    go_enter Tryd.func35, Tryd.ntmps35
    go_upto_region 3 with fail
    clear L D hO
    generalize w.alloc (Obj.cells #[.int .i64 K, .int .i64 Q, .slice a1 V.length c1] 37) = w2 at *
    obtain ⟨b0, b1, b2, _, _, _⟩ := three HX
    go_wp2_with (at_builtin; refine wpList_append_lies _ rfl _ _ _ rfl base 37 i0 _ 3 40 Tryd.underlying54 hi hz0 hz1 hz2 rfl (by omega) _ fs.length (rowF fs ps) rfl (L1.row.alloc _) ⟨w2.heap.size, 0, none⟩ 1 1 [.int .i64 K, .int .i64 Q, .slice a1 V.length c1] rfl rfl (World.news_of_block (cs := #[.int .i64 K, .int .i64 Q, .slice a1 V.length c1]) (t := 37) (fr := (0, 0)) (heap_alloc_new _ _)) (by simp [Value.oneCell']) (by omega) (by unfold maxLen; omega) (by omega) (by simp; omega) _ rfl ?_; intro gg cap1 w9 hown hgrow hat hlt9)
    obtain ⟨L9, D9⟩ := both_snoc (f := (K, Q, V)) (p := (a1, c1)) L1 D1 hO1 hN hge hlow hown hgrow (hat.imp id (fun e => e.trans (by simp)))
    have hel : (fs ++ [(K, Q, V)]).length = fs.length + 1 := by simp
    have hc : Chg (fun b => (Value.slice a fs.length cap).ownBlock = some b) w w9 := (chg_of_gr ga (fun b e => by cases e)).trans ((chg_of_gr (World.grownBy_alloc w2 _ none) (fun b e => by cases e)).trans (chg_of_gr hgrow (fun b e => e.symm)))
    go_ret
    refine ⟨some ⟨gg, 0, none⟩, cap1, ps ++ [(a1, c1)], ?_, ?_, ?_, hc⟩
    · rw [HP.out, hel]; rfl
    · rw [HP.out, hel]; exact L9
    · rw [HP.out]; exact D9
  · have hlen' : decide (50 ≤ (fs.length : Int)) = true := by simp; omega
    have hpu : push fs (some (K, Q, V)) = fs := by simp [push, hlen]
    have HP := Lib.hid hpu
    clear hpu
    go_enter Tryd.func35, Tryd.ntmps35
    go_wp2_with fail
    go_ret
    refine ⟨a, cap, ps, ?_, ?_, ?_, chg_of_gr ga (fun b e => by cases e)⟩
    · rw [HP.out]; rfl
    · rw [HP.out]; exact L.kept ga
    · rw [HP.out]; exact D.kept ga
end Go.Proofs.YtfobbjimcmjfkaaDoor.stm
