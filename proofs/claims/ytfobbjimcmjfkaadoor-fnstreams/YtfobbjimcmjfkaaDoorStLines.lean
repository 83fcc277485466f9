/- strings.Lines: it gives the pieces of a text, each with its byte 10. -/
import Derived.Test.YtfobbjimcmjfkaaDoorStIn
import Derived.Test.YtfobbjimcmjfkaaDoorRangeBox
import Derived.Test.YtfobbjimcmjfkaaDoorWideTail
import Derived.Test.YtfobbjimcmjfkaaDoorShelf
import Derived.Lib.IndexLaws
import Derived.Shelf.Abstract
import Derived.Shelf.RegionOpen
import Derived.OwnWalkIn
import Derived.TacticsInMore
import Derived.LoopNIn
import Derived.LoopIn
namespace Go.Proofs.YtfobbjimcmjfkaaDoor.stm
open Go.RowKit Go.Shelf
open Go.Proofs.YtfobbjimcmjfkaaDoor.nums Go.Proofs.YtfobbjimcmjfkaaDoor.mem Go.Proofs.YtfobbjimcmjfkaaDoor.txt Go.Proofs.YtfobbjimcmjfkaaDoor.frm
set_option linter.unusedVariables false
attribute [local go_sem] Oper.semAt_some

/-- The pieces of a text, behind what was begun. -/
def lnsA : List UInt8 → List UInt8 → List (List UInt8)
  | acc, [] => if acc = [] then [] else [acc]
  | acc, c :: s => if c = 10 then (acc ++ [10]) :: lnsA [] s else lnsA (acc ++ [c]) s
def lns (s : List UInt8) : List (List UInt8) := lnsA [] s
theorem lns_nil : lns [] = [] := rfl
theorem lnsA_ten : ∀ (p acc r : List UInt8), (∀ c ∈ p, c ≠ 10) → lnsA acc (p ++ 10 :: r) = (acc ++ p ++ [10]) :: lnsA [] r := by
  intro p
  induction p with
  | nil => intro acc r _; simp [lnsA]
  | cons c p ih =>
    intro acc r h
    have hc : c ≠ 10 := h c (by simp)
    rw [List.cons_append, lnsA, if_neg hc, ih _ _ (fun d hd => h d (by simp [hd]))]
    simp
theorem lnsA_none : ∀ (p acc : List UInt8), (∀ c ∈ p, c ≠ 10) → lnsA acc p = if acc ++ p = [] then [] else [acc ++ p] := by
  intro p
  induction p with
  | nil => intro acc _; simp [lnsA]
  | cons c p ih =>
    intro acc h
    have hc : c ≠ 10 := h c (by simp)
    rw [lnsA, if_neg hc, ih _ (fun d hd => h d (by simp [hd]))]
    simp
theorem idx_split {r : List UInt8} {i : Nat} (h : Lib.indexByte r 10 = i) : i < r.length ∧ r = r.take i ++ 10 :: r.drop (i + 1) ∧ ∀ c ∈ r.take i, c ≠ 10 := by
  obtain ⟨h1, h2⟩ := Lib.indexByte_some h
  obtain ⟨hl, h3⟩ := List.getElem?_eq_some_iff.1 h1
  refine ⟨hl, ?_, fun c hc => ?_⟩
  · conv => lhs; rw [← List.take_append_drop i r, List.drop_eq_getElem_cons hl, h3]
  · obtain ⟨j, hj, e⟩ := List.getElem_of_mem hc
    have hj' : j < i := by simp at hj; omega
    intro e10
    refine h2 j hj' ?_
    rw [List.getElem?_eq_getElem (by omega)]
    rw [List.getElem_take] at e
    rw [e, e10]
theorem lns_ten {r : List UInt8} {i : Nat} (h : Lib.indexByte r 10 = i) : lns r = r.take (i + 1) :: lns (r.drop (i + 1)) := by
  obtain ⟨hl, h1, h2⟩ := idx_split h
  have e : r.take (i + 1) = r.take i ++ [10] := by
    conv => lhs; rw [h1]
    rw [List.take_append, List.take_of_length_le (by simp; omega)]
    simp
    rw [show i + 1 - min i r.length = 1 by omega]
    rfl
  rw [e]
  conv => lhs; rw [h1]
  rw [lns, lnsA_ten _ _ _ h2]
  rfl
theorem lns_last {r : List UInt8} (h : Lib.indexByte r 10 = -1) (hr : r ≠ []) : lns r = [r] := by
  have h1 := Lib.indexByte_none h
  rw [lns, lnsA_none r [] (fun c hc e => by
    obtain ⟨j, hj, ej⟩ := List.getElem_of_mem hc
    exact h1 j (by rw [List.getElem?_eq_getElem hj, ej, e]))]
  simp [hr]

/-- How long the text in a box is. -/
def boxLen (W : World) (B : Nat) : Nat := match W.cell? ⟨B, 0, none⟩ with
  | some (.string b) => b.size
  | _ => 0
theorem boxLen_of {W : World} {B : Nat} {l : List UInt8} (h : W.cell? ⟨B, 0, none⟩ = some (str l)) : boxLen W B = l.length := by
  unfold boxLen; rw [h]; rfl

set_option maxRecDepth 100000 in
set_option maxHeartbeats 2000000 in
theorem lines1_in (F : Fence) (n : Nat) (h6 : F.fn 58) (h7 : F.fn 59) (hro : F.round = none) (hF : Hid (F = Fence.wide)) (hn : 1 ≤ n)
    (hIB : ∀ (m : Nat) (r : List UInt8) (W : World), CallsIn F m Tryd.prog 59 #[str r, .int .u8 10] W fun e w' => e = .returned (.int .i64 (Lib.indexByte r 10)) ∧ w' = W)
    (l Bs : Nat) (s : List UInt8) (hl : s.length ≤ 1048576) (J : List (List UInt8) → World → Prop)
    (hJ : ∀ q A B, J q A → A.grownBy B (some Bs) → J q B)
    (hY : ∀ pre (x : List UInt8) W1, x.length ≤ 1048576 → J pre W1 → YieldAt F (n - 1) Tryd.prog l #[str x] W1 fun e W' => e = .returned (.bool true) ∧ J (pre ++ [x]) W' ∧ W'.heap[Bs]? = W1.heap[Bs]?)
    (W : World) (hBs : Boxed W Bs 9 (str s)) (h0 : J [] W) :
    CallsIn F n Tryd.prog 58 #[.func (.yield l) #[] #[], .pointer (some ⟨Bs, 0, none⟩)] W fun e W' => (∃ v, e = .returned v) ∧ ∃ xs, xs = lns s ∧ J xs W' := by
  refine callsIn_of_wp Tryd.func58 rfl h6 ?_ hro
  simp only [Tryd.ntmps58, List.size_toArray, List.length_cons, List.length_nil, Nat.reduceAdd, Nat.reduceSub, Array.replicate_succ, Array.replicate_zero, List.push_toArray, List.append_toArray, List.nil_append, List.cons_append]
  gi_wp2
  gi_loopw [3] (fun _ wr => ∃ (r : List UInt8) (pre : List (List UInt8)), r.length ≤ 1048576 ∧ Boxed wr Bs 9 (str r) ∧ J pre wr ∧ Hid (pre ++ lns r = lns s))
    (fun _ wr => boxLen wr Bs)
  case atStart => exact ⟨s, [], hl, hBs, h0, Lib.hid rfl⟩
  case round =>
    obtain ⟨r, pre, hrl, hbx, hJr, hp⟩ := hrel
    have c0 := hbx.cell
    have f0 := hbx.frozen
    have hbl := boxLen_of c0
    by_cases hr : r = []
    · subst hr
      have hfin : pre = lns s := by have := hp.out; rw [lns_nil, List.append_nil] at this; exact this
      replace hfin := Lib.hid hfin
      gi_wp2
      go_end0
      exact ⟨⟨_, rfl⟩, _, rfl, hfin.out ▸ hJr⟩
    · have hrp : 0 < r.length := List.length_pos_iff.2 hr
      have hrp' : (0 : Int) < r.length := by omega
      by_cases hi : Lib.indexByte r 10 = -1
      · have hI : ∀ (m : Nat) (W : World), CallsIn F m Tryd.prog 59 #[str r, .int .u8 10] W fun e w' => e = .returned (.int .i64 (-1)) ∧ w' = W := fun m W => hi ▸ hIB m r W
        have hp1 : Hid ((pre ++ [r]) ++ lns [] = lns s) := Lib.hid (by have := hp.out; rw [lns_last hi hr] at this; rw [lns_nil, List.append_nil]; exact this)
        have hbx1 := hbx.set (str [])
        have hJ1 := hJ _ _ _ hJr (gr_set (gr_refl wr (some Bs)) 0 (str []))
        obtain ⟨fn, tmps, assign, body, hy, hR⟩ := hY _ r _ hrl hJ1
        clear hp hi hIB
        gi_wp2_with fail
        refine (hI _ _).mono ?_
        rintro e w' ⟨rfl, rfl⟩
        gi_wp2_with fail
        refine hR.mono ?_
        rintro e W3 ⟨rfl, hJ3, hb3⟩
        have hbx3 : Boxed W3 Bs 9 (str []) := hb3.trans hbx1
        have hbl3 := boxLen_of hbx3.cell
        gi_wp2_with fail
        go_roundw
        case rel => exact ⟨[], pre ++ [r], by simp, hbx3, hJ3, hp1⟩
        case measure => rw [hbl3, hbl]; simpa using hrp
      · obtain ⟨i, hi2⟩ : ∃ i : Nat, Lib.indexByte r 10 = i := ⟨(Lib.indexByte r 10).toNat, by have := Lib.indexByte_ge r 10; omega⟩
        have hI : ∀ (m : Nat) (W : World), CallsIn F m Tryd.prog 59 #[str r, .int .u8 10] W fun e w' => e = .returned (.int .i64 i) ∧ w' = W := fun m W => hi2 ▸ hIB m r W
        have hil := (idx_split hi2).1
        have hp1 : Hid ((pre ++ [r.take (i + 1)]) ++ lns (r.drop (i + 1)) = lns s) := Lib.hid (by have := hp.out; rw [lns_ten hi2] at this; rw [List.append_assoc]; exact this)
        have hbx1 : Boxed (wr.setCell ⟨Bs, 0, none⟩ (.string ((ByteArray.mk r.toArray).extract (i + 1) r.length))).drew Bs 9 (.string ((ByteArray.mk r.toArray).extract (i + 1) r.length)) := Boxed.set _ hbx
        have hJ1 : J pre (wr.setCell ⟨Bs, 0, none⟩ (.string ((ByteArray.mk r.toArray).extract (i + 1) r.length))).drew := hJ _ _ _ hJr (gr_drewN (gr_set (gr_refl wr (some Bs)) 0 (.string ((ByteArray.mk r.toArray).extract (i + 1) r.length))) 1)
        have hpa := str_piece r 0 (i + 1)
        rw [List.drop_zero] at hpa
        have hYa := hY _ (r.take (i + 1)) _ (by simp; omega) hJ1
        change YieldAt F (n - 1) Tryd.prog l #[.string (ByteArray.mk (r.take (i + 1)).toArray)] _ _ at hYa
        rw [← hpa] at hYa
        obtain ⟨fn, tmps, assign, body, hy, hR⟩ := hYa
        clear hpa
        have hpb := Lib.hid (str_drop r (i + 1))
        have hi2' : i + 1 ≤ r.length := by omega
        have hi4 : (i : Int) + 1 ≤ r.length := by omega
        have hw1 : ((i : Int) + 1).toNat = i + 1 := by omega
        have hw2 : (0 : Int) ≤ (i : Int) + 1 := by omega
        have hw3 : IntKind.i64.wrap ((i : Int) + 1) = (i : Int) + 1 := IntWalk.i64_in _ (by omega)
        have hmx : Tryd.prog.follows .mixedOrders = true := by kernel_rfl
        have hdl : (r.drop (i + 1)).length < r.length := by simp; omega
        clear hp hi hi2 hIB
        gi_wp2_with fail
        refine (hI _ _).mono ?_
        rintro e w' ⟨rfl, rfl⟩
        gi_wp2_with fail
        refine wide.region_tail hF 9 hmx (by kernel_rfl) ?_
        simp only [List.take_succ_cons, List.take_zero, List.drop_succ_cons, List.drop_zero]
        repeat still_step
        refine wpStill_nil ?_
        gi_wp2_with fail
        refine hR.mono ?_
        rintro e W3 ⟨rfl, hJ3, hb3⟩
        have hbx3 : Boxed W3 Bs 9 (str (r.drop (i + 1))) := by
          have h := hb3.trans hbx1
          rw [hpb.out] at h
          exact h
        have hbl3 := boxLen_of hbx3.cell
        clear hb3 hbx1 hy
        gi_wp2_with fail
        go_roundw
        case rel => exact ⟨r.drop (i + 1), pre ++ [r.take (i + 1)], by simp; omega, hbx3, hJ3, hp1⟩
        case measure => rw [hbl3, hbl]; exact hdl

/-- A piece that is not too long. -/
abbrev Piece := { x : List UInt8 // x.length ≤ 1048576 }
theorem lines_seq (F : Fence) (n : Nat) (h6 : F.fn 58) (h7 : F.fn 59) (hro : F.round = none) (hF : Hid (F = Fence.wide)) (hn : 1 ≤ n)
    (hIB : ∀ (m : Nat) (r : List UInt8) (W : World), CallsIn F m Tryd.prog 59 #[str r, .int .u8 10] W fun e w' => e = .returned (.int .i64 (Lib.indexByte r 10)) ∧ w' = W)
    (Bs : Nat) (s : List UInt8) (hl : s.length ≤ 1048576) (w : World) (hB : Boxed w Bs 9 (str s)) :
    rbox.SeqBox F n Tryd.prog 58 #[.pointer (some ⟨Bs, 0, none⟩)] (fun x : Piece => #[str x.1]) Bs (fun xs => xs.map (·.1) = lns s) w := fun l J W hJ hY hW h0 => by
  refine (lines1_in F n h6 h7 hro hF hn hIB l Bs s hl (fun pre W => ∃ pre' : List Piece, pre'.map (·.1) = pre ∧ J pre' W) (fun q A B ⟨p, e, hp⟩ hg => ⟨p, e, hJ p A B hp hg⟩) (fun pre x W1 hx ⟨p, e, hp⟩ => ?_) W (hW.trans hB) ⟨[], rfl, h0⟩).mono ?_
  · exact (hY p ⟨x, hx⟩ W1 hp).mono fun e' W' ⟨h1, h2, h3⟩ => ⟨h1, ⟨p ++ [⟨x, hx⟩], by simp [e], h2⟩, h3⟩
  · rintro e W' ⟨hv, xs, rfl, p, e1, hp⟩
    exact ⟨hv, p, e1, hp⟩

set_option maxHeartbeats 1000000 in
theorem lines_in (F : Fence) (n : Nat) (h5 : F.fn 33) (hro : F.round = none) (s : List UInt8) (w : World) :
    CallsIn F n Tryd.prog 33 #[str s] w fun e w' => e = .returned (.func (.func 58) #[] #[.pointer (some ⟨w.heap.size, 0, none⟩)]) ∧ w' = w.alloc (.cells #[str s] 9) := by
  refine callsIn_of_wp Tryd.func33 rfl h5 ?_ hro
  simp only [Tryd.ntmps33, List.size_toArray, List.length_cons, List.length_nil, Nat.reduceAdd, Nat.reduceSub, Array.replicate_succ, Array.replicate_zero, List.push_toArray, List.append_toArray, List.nil_append, List.cons_append]
  gi_wp2
  go_ret
  exact ⟨rfl, rfl⟩
end Go.Proofs.YtfobbjimcmjfkaaDoor.stm
