/- FramesIn of the model. -/
import Derived.Test.YtdikhdfpcipdbaaGreatDoorStRun
import Derived.Deep.Cut
namespace Go.Proofs.YtdikhdfpcipdbaaGreatDoor.stm
open Go.ChangeShapes Go.WideShapes Go.ChangeAt Go.RowKit
open Go.Proofs.YtdikhdfpcipdbaaGreatDoor.nums Go.Proofs.YtdikhdfpcipdbaaGreatDoor.mem Go.Proofs.YtdikhdfpcipdbaaGreatDoor.txt Go.Proofs.YtdikhdfpcipdbaaGreatDoor.fix Go.Proofs.YtdikhdfpcipdbaaGreatDoor.frm
open Go.Proofs.YtdikhdfpcipdbaaGreatDoor.tab (Ret quiet_w wpList_make_has add_off)
set_option linter.unusedVariables false

theorem take_snoc {s : List UInt8} {k : Nat} (h : k < s.length) : s.take (k + 1) = s.take k ++ [byt s k] := by
  rw [List.take_add_one, List.getElem?_eq_getElem h]
  simp [byt, List.getD, h]
theorem str_piece (l : List UInt8) (a b : Nat) : (ByteArray.mk l.toArray).extract a b = ByteArray.mk ((l.take b).drop a).toArray := by
  rw [ByteArray.extract_mk, List.drop_take]
theorem piece_of {s pre acc : List UInt8} {k fr : Nat} {c : UInt8} (hk : k < s.length) (h : s.take k = pre ++ acc) (hf : pre.length = fr) (hc : byt s k = c) : (s.take (k + 1)).drop fr = acc ++ [c] := by
  rw [take_snoc hk, h, hc, List.append_assoc, ← hf, List.drop_left]
theorem run_other {rd : List UInt8 → Option Fr} {s acc : List UInt8} {out : List Fr} {k : Nat} (hk : k < s.length) (h : run rd (s.take k) = (acc, out)) (hc : byt s k ≠ 10) : run rd (s.take (k + 1)) = (acc ++ [byt s k], out) := by
  rw [take_snoc hk, run_snoc, h, stp, if_neg hc]
theorem run_ten {rd : List UInt8 → Option Fr} {s acc : List UInt8} {out : List Fr} {k : Nat} (hk : k < s.length) (h : run rd (s.take k) = (acc, out)) (hc : byt s k = 10) : run rd (s.take (k + 1)) = ([], push out (rd (acc ++ [10]))) := by
  rw [take_snoc hk, run_snoc, h, stp, if_pos hc]

/-- Where the model's loop stands. -/
structure At (rd : List UInt8 → Option Fr) (s : List UInt8) (k fr : Nat) (out : List Fr) : Prop where
  ex : ∃ pre acc, s.take k = pre ++ acc ∧ pre.length = fr ∧ run rd (s.take k) = (acc, out)
theorem At.zero (rd : List UInt8 → Option Fr) (s : List UInt8) : At rd s 0 0 [] := ⟨[], [], by simp, rfl, by simp [run_nil]⟩
theorem At.le {rd : List UInt8 → Option Fr} {s : List UInt8} {k fr : Nat} {out : List Fr} (h : At rd s k fr out) (hk : k ≤ s.length) : fr ≤ k := by
  obtain ⟨pre, acc, h1, h2, h3⟩ := h.ex
  have := congrArg List.length h1
  simp at this; omega
theorem At.other {rd : List UInt8 → Option Fr} {s : List UInt8} {k fr : Nat} {out : List Fr} (h : At rd s k fr out) (hk : k < s.length) (hc : byt s k ≠ 10) : At rd s (k + 1) fr out := by
  obtain ⟨pre, acc, h1, h2, h3⟩ := h.ex
  exact ⟨pre, acc ++ [byt s k], by rw [take_snoc hk, h1, List.append_assoc], h2, run_other hk h3 hc⟩
theorem At.ten {rd : List UInt8 → Option Fr} {s : List UInt8} {k fr : Nat} {out : List Fr} (h : At rd s k fr out) (hk : k < s.length) (hc : byt s k = 10) : At rd s (k + 1) (k + 1) (push out (rd ((s.take (k + 1)).drop fr))) := by
  obtain ⟨pre, acc, h1, h2, h3⟩ := h.ex
  rw [piece_of hk h1 h2 hc]
  exact ⟨s.take (k + 1), [], by simp, by simp; omega, run_ten hk h3 hc⟩
theorem At.end_ {rd : List UInt8 → Option Fr} {s : List UInt8} {fr : Nat} {out : List Fr} (h : At rd s s.length fr out) : run rd s = (s.drop fr, out) := by
  obtain ⟨pre, acc, h1, h2, h3⟩ := h.ex
  rw [List.take_length] at h1 h3
  rw [h3, h1, ← h2, List.drop_left]

set_option maxRecDepth 100000 in
set_option maxHeartbeats 4000000 in
theorem specIn_ (rd : List UInt8 → Option Fr) (hrd : ∀ s, IsRead s (rd s)) (s : List UInt8) (w : World) (hl : s.length ≤ 1048576) : Calls Tryz.prog 159 #[str s] w (InOut (frsOf rd s) (rstOf rd s) w) := by
  obtain ⟨i0, hi, hz0, hz1, hz2⟩ := info_parts infoFrame
  have L0 := Lst.made w.heap.size w (Nat.le_refl _)
  have g0 := World.grownBy_alloc w (Obj.cells #[] 50) none
  by_cases hbig : 4000 < s.length
  · have hO : InOut (frsOf rd s) (rstOf rd s) w (.returned (.tuple #[.slice (some ⟨w.heap.size, 0, none⟩) 0 0, str []])) (w.alloc (Obj.cells #[] 50)) := by
      rw [frsOf, rstOf, if_pos hbig, if_pos hbig]
      obtain ⟨h1, h2⟩ := own_of L0 (Deep.nil _)
      exact ⟨_, 0, [], rfl, g0, h1, h2, L0, Deep.nil _⟩
    have hbig' : decide (4000 < (s.length : Int)) = true := by simp; omega
    replace hO := Lib.hid hO
    clear L0 hrd
    go_enter Tryz.func159, Tryz.ntmps159
    go_wp2_with fail
    go_ret2
    exact hO.out
  · have hbig' : decide (4000 < (s.length : Int)) = false := by simp; omega
    have hend : ∀ a cap ps fr out w', At rd s s.length fr out → w.grownBy w' none → Lst w.heap.size w' (.slice a out.length cap) out ps → Deep w' out ps → InOut (frsOf rd s) (rstOf rd s) w (.returned (.tuple #[.slice a out.length cap, str (rest (s.drop fr))])) w' := fun a cap ps fr out w' hA hg L D => by
      rw [frsOf, rstOf, if_neg hbig, if_neg hbig, hA.end_]
      obtain ⟨h1, h2⟩ := own_of L D
      exact ⟨a, cap, ps, rfl, hg, h1, h2, L, D⟩
    have HE := Lib.hid hend
    have hl4 : s.length ≤ 4000 := by omega
    clear hend hbig hl
    go_enter Tryz.func159, Tryz.ntmps159
    go_wp2_with fail
    go_loopw [4, 5, 6] (fun v fr i wr => ∃ (k f : Nat) (out : List Fr) (ps : List Pl), k ≤ s.length ∧ i = .int .i64 k ∧ fr = .int .i64 f ∧ f ≤ k ∧ Hid (At rd s k f out) ∧ Lst w.heap.size wr v out ps ∧ Deep wr out ps ∧ out.length ≤ 50 ∧ w.grownBy wr none) (fun _ _ i _ => s.length - (intOf i).toNat)
    case atStart => exact ⟨0, 0, [], [], Nat.zero_le _, rfl, rfl, Nat.le_refl _, Lib.hid (At.zero rd s), L0, Deep.nil _, by simp, g0⟩
    case round =>
      clear L0 g0
      obtain ⟨k, f, out, ps, hk, rfl, rfl, hfk, hA, L, D, h50, hg⟩ := hrel
      obtain ⟨a4, c4, e4⟩ := L.form
      subst e4
      by_cases hlt : k < s.length
      · have hidx : (ByteArray.mk s.toArray)[k]'hlt = byt s k := by simp [byt, List.getD, hlt]; rfl
        by_cases hc : byt s k = 10
        · have hidx' : (ByteArray.mk s.toArray)[k]'hlt = 10 := hidx.trans hc
          have hi2 : k + 1 ≤ s.length := by omega
          have hi4 : (k : Int) + 1 ≤ s.length := by omega
          have hi5 : (f : Int) ≤ (k : Int) + 1 := by omega
          have hw1 : ((k : Int) + 1).toNat = k + 1 := by omega
          have hw2 : (0 : Int) ≤ (k : Int) + 1 := by omega
          have hw3 : IntKind.i64.wrap ((k : Int) + 1) = (k : Int) + 1 := IntWalk.i64_in _ (by omega)
          have cR : ∀ W, Calls Tryz.prog 172 #[.string ((ByteArray.mk s.toArray).extract f (k + 1))] W (ReadOut (rd ((s.take (k + 1)).drop f)) W) := fun W => by
            rw [str_piece]
            exact specRead _ _ W (by simp; omega) (hrd _)
          have hA1 := hA.out.ten hlt hc
          have hk50 := push_len (r := rd ((s.take (k + 1)).drop f)) h50
          clear hA hidx hc hrd
          obtain ⟨r, hr⟩ : ∃ r, rd ((s.take (k + 1)).drop f) = r := ⟨_, rfl⟩
          rw [hr] at cR hA1 hk50
          clear hr
          cases r with
          | none =>
            replace hA1 := Lib.hid hA1
            go_wp2_with fail
            refine (cR _).mono ?_
            rintro e w1 ⟨g1, rfl⟩
            have g2 := gr_alloc g1 (Obj.cells #[.int .i64 0, .int .i64 0, .slice none 0 0] 50)
            clear cR
            go_wp2_with fail
            go_roundw
            case rel => exact ⟨k + 1, k + 1, out, ps, by omega, by go_num, by go_num, Nat.le_refl _, hA1, L.kept g2, D.kept g2, h50, gr_trans hg g2⟩
            case measure => simp [intOf]; omega
          | some q =>
            obtain ⟨K, Q, V⟩ := q
            by_cases hlen : out.length < 50
            · have hlen' : decide ((out.length : Int) < 50) = true := by simp; omega
              have hpu : push out (some (K, Q, V)) = out ++ [(K, Q, V)] := by simp [push, hlen]
              rw [hpu] at hA1 hk50
              replace hA1 := Lib.hid hA1
              go_wp2_with fail
              refine (cR _).mono ?_
              rintro e w1 ⟨g1, a1, c1, rfl, hO1⟩
              have g2 := gr_alloc g1 (Obj.cells #[.int .i64 K, .int .i64 Q, .slice a1 V.length c1] 50)
              have HX := Has.fresh w1 50 #[.int .i64 K, .int .i64 Q, .slice a1 V.length c1]
              have hO2 := hO1.kept (World.grownBy_alloc w1 (Obj.cells #[.int .i64 K, .int .i64 Q, .slice a1 V.length c1] 50) none)
              have hoV := OwnV.of hO2
              have hlow := L.lt
              have hge := own_ge hO2
              have L1 := L.kept g2
              have D1 := D.kept g2
              have hg2 := gr_trans hg g2
              have hwsz := hg.size
              clear cR g1 g2 hO1 hO2 L D hg
              go_upto_region 11 with fail
              generalize w1.alloc (Obj.cells #[.int .i64 K, .int .i64 Q, .slice a1 V.length c1] 50) = w2 at *
              obtain ⟨b0, b1, b2, _, _, _⟩ := three HX
              have hs2 := hg2.size
              go_wp2_with (at_builtin; refine wpList_append_lies _ rfl _ _ _ rfl w.heap.size 50 i0 _ 3 40 Tryz.underlying28 hi hz0 hz1 hz2 rfl (by omega) _ out.length (rowF out ps) rfl (L1.row.alloc _) ⟨w2.heap.size, 0, none⟩ 1 1 [.int .i64 K, .int .i64 Q, .slice a1 V.length c1] rfl rfl (World.news_of_block (cs := #[.int .i64 K, .int .i64 Q, .slice a1 V.length c1]) (t := 50) (fr := (0, 0)) (heap_alloc_new _ _)) (by simp [Value.oneCell']) (by omega) (by unfold maxLen; omega) (by omega) (by simp; omega) _ rfl ?_; intro gg cap1 w9 hown hgrow hat hlt9)
              obtain ⟨L9, D9⟩ := both_snoc (f := (K, Q, V)) (p := (a1, c1)) L1 D1 hoV hwsz hge hlow hown hgrow (hat.imp id (fun e => e.trans (by simp)))
              have g9 := gr_own (gr_alloc hg2 _) (L1.row.alloc _) (Nat.le_refl _) hgrow
              clear hgrow hat hown
              go_roundw
              case rel => exact ⟨k + 1, k + 1, out ++ [(K, Q, V)], ps ++ [(a1, c1)], by omega, by go_num, by go_num, Nat.le_refl _, hA1, L9, D9, hk50, g9⟩
              case measure => simp [intOf]; omega
            · have hlen' : decide ((out.length : Int) < 50) = false := by simp; omega
              have hpu : push out (some (K, Q, V)) = out := by simp [push, hlen]
              rw [hpu] at hA1 hk50
              replace hA1 := Lib.hid hA1
              go_wp2_with fail
              refine (cR _).mono ?_
              rintro e w1 ⟨g1, a1, c1, rfl, -⟩
              have g2 := gr_alloc g1 (Obj.cells #[.int .i64 K, .int .i64 Q, .slice a1 V.length c1] 50)
              clear cR
              go_wp2_with fail
              go_roundw
              case rel => exact ⟨k + 1, k + 1, out, ps, by omega, by go_num, by go_num, Nat.le_refl _, hA1, L.kept g2, D.kept g2, h50, gr_trans hg g2⟩
              case measure => simp [intOf]; omega
        · have hne1 : ((((ByteArray.mk s.toArray)[k]'hlt).toNat : Int) == 10) = false := by
            rw [beq_eq_false_iff_ne, hidx]
            intro e
            exact hc (UInt8.toNat.inj (by simp; omega))
          have hA1 := Lib.hid (hA.out.other hlt hc)
          clear hA hidx hc hrd
          go_wp2_with fail
          go_roundw
          case rel => exact ⟨k + 1, f, out, ps, by omega, by go_num, rfl, by omega, hA1, L, D, h50, hg⟩
          case measure => simp [intOf]; omega
      · obtain rfl : k = s.length := by omega
        have hO := Lib.hid (HE.out a4 c4 ps f out wr hA.out hg L D)
        clear hA HE hrd
        have hdr := str_drop s f
        by_cases h60 : 60 < s.length - f
        · have h60' : decide (60 < ((s.drop f).length : Int)) = true := by simp; omega
          rw [show rest (s.drop f) = [] by rw [rest, if_pos (by simp; omega)]] at hO
          go_wp2_with fail
          go_ret2
          exact hO.out
        · rw [show rest (s.drop f) = s.drop f by rw [rest, if_neg (by simp; omega)]] at hO
          go_wp2_with fail
          go_ret2
          exact hO.out
end Go.Proofs.YtdikhdfpcipdbaaGreatDoor.stm
