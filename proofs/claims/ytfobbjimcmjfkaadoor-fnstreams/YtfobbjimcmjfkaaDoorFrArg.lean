/- What came in: a frame; read, copied into new memory, compared. -/
import Derived.Test.YtfobbjimcmjfkaaDoorFrOk2
import Derived.ChangeSame
import Derived.Deep.Strs
namespace Go.Proofs.YtfobbjimcmjfkaaDoor.frm
open Go.ChangeShapes Go.WideShapes Go.ChangeAt Go.RowKit
open Go.Proofs.YtfobbjimcmjfkaaDoor.nums Go.Proofs.YtfobbjimcmjfkaaDoor.mem Go.Proofs.YtfobbjimcmjfkaaDoor.txt Go.Proofs.YtfobbjimcmjfkaaDoor.fix
open Go.Proofs.YtfobbjimcmjfkaaDoor.tab (Ret quiet_w wpList_make_has)
set_option linter.unusedVariables false

theorem ints_of_trod {H : Type} {enc : TypeId × Value → H} {w : World} {base : Nat} {held : Bool} {fuel : Nat} {cs : List Value} {y : DataW H × List MemPlace}
    (hf : DataW.trod enc Tryd.prog w base (fun _ => true) held fuel 35 cs = some y) : ∃ (a : Option Addr) (len cap : Nat) (l : List Int), cs = [.slice a len cap] ∧ l.length = len ∧ len ≤ maxLen ∧ Ints w a l ∧ ∀ n ∈ l, (Lit.int .i64 n).wf = true := by
  rcases open_ints Tryd.underlying35 Tryd.underlying2 (by kernel_rfl) hf with ⟨hcs, _⟩ | ⟨x, len, cap, zs, hcs, hb, hl, hm, hz, _, hc, hwf⟩
  · exact ⟨none, 0, 0, [], hcs, rfl, Nat.zero_le _, Ints.nil _ _, fun n hn => by simp at hn⟩
  · have hz' : zs.length = cap := by simpa using hz
    refine ⟨some x, len, cap, zs.take len, hcs, by simp; omega, by omega, fun k hk => ?_, fun n hn => hwf n (List.mem_of_mem_take hn)⟩
    have hk' : k < len := by simp at hk; omega
    have c0 := hc k (by omega)
    have e : nth (zs.take len) k = zs.getD k 0 := by simp [nth, List.getD, hk']
    refine ⟨x, rfl, ?_, by rw [e]; exact c0⟩
    by_cases hbk : x.block < w.heap.size
    · exact hbk
    · have hn : w.heap[(x.add k).block]? = none := by rw [block_add]; exact Array.getElem?_eq_none (by omega)
      simp [World.cell?, hn] at c0

set_option maxRecDepth 100000 in
theorem open_frame {H : Type} {enc : TypeId × Value → H} {w : World} {r : Reach} {b0 base : Nat} {held : Bool} {v : Value} {d : DataW H} {p : List MemPlace}
    (hval : Value.okWide Tryd.prog w r b0 72 v) (h : DataW.Trod enc Tryd.prog w base (fun _ => true) held 72 v d p) :
    ∃ (k sq : Int) (a : Option Addr) (cap : Nat) (l : List Int), v = fr k sq a l.length cap ∧ (Lit.int .i64 k).wf = true ∧ (Lit.int .i64 sq).wf = true ∧ l.length ≤ maxLen ∧ Ints w a l ∧ ∀ n ∈ l, (Lit.int .i64 n).wf = true := by
  obtain ⟨cs, rfl, hs⟩ := okWide_struct Tryd.underlying72 hval
  obtain ⟨fuel, hf⟩ := h
  have h2 : Tryd.prog.cellsOf 72 = 3 := by kernel_rfl
  rw [h2] at hs
  obtain ⟨y0, y1, y2, n, _, hl, t0, t1, t2⟩ := Go.Deep.trod_struct3 Tryd.underlying72 hf
  obtain ⟨z0, e0, _, hw0⟩ := DataW.trod_int Tryd.underlying2 t0
  obtain ⟨z1, e1, _, hw1⟩ := DataW.trod_int Tryd.underlying2 t1
  obtain ⟨a, len, cap, l, e2, rfl, hlm, hI, hwf⟩ := ints_of_trod t2
  have c1 : Tryd.prog.cellsOf 2 = 1 := by kernel_rfl
  have c2 : Tryd.prog.cellsOf 35 = 1 := by kernel_rfl
  obtain ⟨cl⟩ := cs
  match cl, hs with
  | [x, y, z], _ =>
    simp [Value.cells, c1, c2] at e0 e1 e2
    refine ⟨z0, z1, a, cap, l, ?_, hw0, hw1, hlm, hI, hwf⟩
    rw [e0, e1, e2]

/-- The bulk: what is left of it. -/
theorem szInts (a : Option Addr) (len cap : Nat) (w : World) (hl : len ≤ maxLen) :
    Calls Tryd.prog 69 #[.slice a len cap, .int .i64 1048576] w fun e w' => e = .returned (.int .i64 (if len ≤ 1048576 then 1048576 - (len : Int) else -1)) ∧ w = w' := by
  unfold maxLen at hl
  by_cases h : len ≤ 1048576
  · rw [if_pos h]
    go_enter Tryd.func69, Tryd.ntmps69
    go_wp2
    go_ret
    exact ⟨rfl, rfl⟩
  · rw [if_neg h]
    go_enter Tryd.func69, Tryd.ntmps69
    go_wp2
    go_ret
    exact ⟨rfl, rfl⟩

theorem szFrame (k sq : Int) (a : Option Addr) (len cap : Nat) (w : World) (hl : len ≤ maxLen) :
    Calls Tryd.prog 51 #[fr k sq a len cap, .int .i64 1048576] w (Ret (.int .i64 (if len ≤ 1048576 then 1048576 - (len : Int) else -1)) w) := by
  have hc := fun W => szInts a len cap W hl
  by_cases h : len ≤ 1048576
  · rw [if_pos h] at hc ⊢
    go_enter Tryd.func51, Tryd.ntmps51
    go_wp2_with fail
    refine (hc _).mono ?_
    rintro e w' ⟨rfl, rfl⟩
    go_wp2_with fail
    go_ret
    exact ⟨rfl, World.grownBy_alloc _ _ _⟩
  · rw [if_neg h] at hc ⊢
    go_enter Tryd.func51, Tryd.ntmps51
    go_wp2_with fail
    refine (hc _).mono ?_
    rintro e w' ⟨rfl, rfl⟩
    go_wp2_with fail
    go_ret
    exact ⟨rfl, World.grownBy_alloc _ _ _⟩

theorem infoInt : (Tryd.prog.info? 2).map (fun i => (i.zero, i.size, i.bytes)) = some (some (.int .i64 0), 1, 8) := by kernel_rfl

/-- A copy: a new block that holds the numbers; of what was there nothing is another. -/
def Copied (l : List Int) (w : World) (e : Ending) (w' : World) : Prop := ∃ g, e = .returned (.slice (some ⟨g, 0, none⟩) l.length l.length) ∧ w.heap.size ≤ g ∧ w.grownBy w' none ∧ Ints w' (some ⟨g, 0, none⟩) l
theorem add0 (g k : Nat) : (⟨g, 0, none⟩ : Addr).add k = ⟨g, k, none⟩ := by unfold Addr.add; split <;> simp_all
theorem addo (g o k : Nat) : (⟨g, o, none⟩ : Addr).add k = ⟨g, o + k, none⟩ := by unfold Addr.add; split <;> simp_all

set_option maxHeartbeats 1000000 in
theorem toInts (a : Option Addr) (cap : Nat) (l : List Int) (w : World) (h : Ints w a l) (hl : l.length ≤ 1048576) : Calls Tryd.prog 70 #[.slice a l.length cap] w (Copied l w) := by
  obtain ⟨i0, hi, hz0, hz1, hz2⟩ := info_parts infoInt
  go_enter Tryd.func70, Tryd.ntmps70
  go_wp2_with (at_make; refine wpList_make_has _ rfl _ _ _ rfl 2 i0 _ 1 Tryd.underlying35 hi hz0 hz1 .i64 .i64 _ _ l.length rfl rfl rfl rfl (by rw [hz2]; omega) (by unfold maxLen; omega) ?_)
  have hA0 := Has.fresh w 2 (madeCells #[.int .i64 0] l.length)
  go_loopw [4] (fun i wr => ∃ (k : Nat) (A : Array Value), k ≤ l.length ∧ i = .int .i64 k ∧ Has wr w.heap.size 2 A ∧ Hid (A.size = l.length) ∧ Hid (∀ j, j < k → A[j]? = some (.int .i64 (nth l j))) ∧ w.grownBy wr none) (fun i _ => l.length - (intOf i).toNat)
  case atStart => exact ⟨0, _, Nat.zero_le _, rfl, hA0, Lib.hid (size_madeCells _ _), Lib.hid (fun j hj => by omega), World.grownBy_alloc _ _ _⟩
  case round =>
    obtain ⟨k, A, hk, rfl, hA, hs, hr, hg⟩ := hrel
    by_cases hlt : k < l.length
    · obtain ⟨x, rfl, hb, cx⟩ := (h.kept hg) k hlt
      obtain ⟨v0, e0⟩ : ∃ v, A[k]? = some v := ⟨_, Array.getElem?_eq_getElem (by have := hs.out; omega)⟩
      have d0 := (hA.cell k).trans e0
      have g0 := hA.frozen k
      clear e0
      go_wp2_with fail
      go_roundw
      case rel => exact ⟨k + 1, _, by omega, by go_num, hA.set _ _, Lib.hid (by simpa using hs.out), Lib.hid (fun j hj => by
        have hs' := hs.out
        by_cases e : j = k
        · subst e
          simp [hlt, hs']
        · have e0 := hr.out j (by omega)
          rw [Array.getElem?_setIfInBounds_ne (by omega)]; exact e0), gr_new hg (Nat.le_refl _) _ _⟩
      case measure => simp [intOf]; omega
    · obtain rfl : k = l.length := by omega
      go_wp2_with fail
      go_ret
      refine ⟨_, rfl, Nat.le_refl _, hg, fun j hj => ⟨_, rfl, hA.lt, ?_⟩⟩
      rw [add0]
      exact (hA.cell _).trans (hr.out j hj)

/-- A frame in new memory. -/
def GotF (k sq : Int) (l : List Int) (w : World) (e : Ending) (w' : World) : Prop := ∃ g, e = .returned (fr k sq (some ⟨g, 0, none⟩) l.length l.length) ∧ w.heap.size ≤ g ∧ w.grownBy w' none ∧ Ints w' (some ⟨g, 0, none⟩) l

set_option maxHeartbeats 1000000 in
theorem toFrame (k sq : Int) (a : Option Addr) (cap : Nat) (l : List Int) (w : World) (h : Ints w a l) (hl : l.length ≤ 1048576) : Calls Tryd.prog 52 #[fr k sq a l.length cap] w (GotF k sq l w) := by
  go_enter Tryd.func52, Tryd.ntmps52
  go_wp2_with fail
  have a1 := ((Has.fresh (w.alloc (Obj.cells #[.int .i64 k, .int .i64 sq, .slice a l.length cap] 72)) 37 #[.int .i64 0, .int .i64 0, .slice none 0 0]).alloc (Obj.cells #[.int .i64 k, .int .i64 sq, .slice none 0 0] 37))
  have a2 := Has.fresh ((w.alloc (Obj.cells #[.int .i64 k, .int .i64 sq, .slice a l.length cap] 72)).alloc (Obj.cells #[.int .i64 0, .int .i64 0, .slice none 0 0] 37)) 37 #[.int .i64 k, .int .i64 sq, .slice none 0 0]
  have g0 := gr_alloc (gr_alloc (World.grownBy_alloc w (Obj.cells #[.int .i64 k, .int .i64 sq, .slice a l.length cap] 72) none) (Obj.cells #[.int .i64 0, .int .i64 0, .slice none 0 0] 37)) (Obj.cells #[.int .i64 k, .int .i64 sq, .slice none 0 0] 37)
  generalize hw3 : ((w.alloc (Obj.cells #[.int .i64 k, .int .i64 sq, .slice a l.length cap] 72)).alloc (Obj.cells #[.int .i64 0, .int .i64 0, .slice none 0 0] 37)).alloc (Obj.cells #[.int .i64 k, .int .i64 sq, .slice none 0 0] 37) = w3 at *
  replace a1 : Has w3 (w.heap.size + 1) 37 #[.int .i64 0, .int .i64 0, .slice none 0 0] := by simpa using a1
  replace a2 : Has w3 (w.heap.size + 1 + 1) 37 #[.int .i64 k, .int .i64 sq, .slice none 0 0] := by simpa using a2
  have hs3 : w3.heap.size = w.heap.size + 1 + 1 + 1 := by rw [← hw3]; simp
  clear hw3
  refine (toInts a cap l _ (h.kept g0) hl).mono ?_
  rintro e w4 ⟨g, rfl, hge, hg4, hI⟩
  replace a1 := a1.grown hg4 (by simp)
  replace a2 := a2.grown hg4 (by simp)
  obtain ⟨p0, p1, p2, q0, q1, q2⟩ := three a1
  obtain ⟨r0, r1, r2, s0, s1, s2⟩ := three a2
  have hne : w.heap.size + 1 ≠ w.heap.size + 1 + 1 := by omega
  go_wp2_with fail
  obtain ⟨u0, u1, u2, _, _, _⟩ := three (set3 (has_other a1 hne 2 (.slice (some ⟨g, 0, none⟩) l.length l.length)) (.int .i64 k) (.int .i64 sq) (.slice (some ⟨g, 0, none⟩) l.length l.length))
  refine bodyPost_ret (v := fr k sq (some ⟨g, 0, none⟩) l.length l.length) (by simp [results, Tryd.results52, go_sem, u0, u1, u2]) rfl ⟨g, rfl, by omega, ?_, ?_⟩
  · exact gr_new (gr_new (gr_new (gr_new (gr_trans g0 hg4) (by omega) _ _) (by omega) _ _) (by omega) _ _) (by omega) _ _
  · exact (((hI.set _ _ _ (fun x e => by injection e with e; subst e; show g ≠ _; omega)).set _ _ _ (fun x e => by injection e with e; subst e; show g ≠ _; omega)).set _ _ _ (fun x e => by injection e with e; subst e; show g ≠ _; omega)).set _ _ _ (fun x e => by injection e with e; subst e; show g ≠ _; omega)

set_option maxHeartbeats 1000000 in
theorem eqInts (a a' : Option Addr) (cap cap' : Nat) (l : List Int) (w : World) (h : Ints w a l) (h' : Ints w a' l) (hl : l.length ≤ maxLen) :
    Calls Tryd.prog 53 #[.slice a l.length cap, .slice a' l.length cap'] w (Ret (.bool true) w) := by
  have hm : l.length ≤ 9223372036854775807 := by unfold maxLen at hl; exact hl
  clear hl
  go_enter Tryd.func53, Tryd.ntmps53
  go_wp2
  go_loopw [5] (fun i wr => ∃ k : Nat, k ≤ l.length ∧ i = .int .i64 k ∧ w.grownBy wr none) (fun i _ => l.length - (intOf i).toNat)
  case atStart => exact ⟨0, Nat.zero_le _, rfl, gr_refl _ _⟩
  case round =>
    obtain ⟨k, hk, rfl, hg⟩ := hrel
    by_cases hlt : k < l.length
    · obtain ⟨x, rfl, _, cx⟩ := (h.kept hg) k hlt
      obtain ⟨x', rfl, _, dx⟩ := (h'.kept hg) k hlt
      go_wp2_with fail
      go_quiet (fail)
      go_wp2_with fail
      go_roundw
      case rel => exact ⟨k + 1, by omega, by go_num, gr_drewN hg _⟩
      case measure => simp [intOf]; omega
    · obtain rfl : k = l.length := by omega
      go_wp2_with fail
      go_ret
      exact ⟨rfl, hg⟩

set_option maxHeartbeats 1000000 in
theorem eqFrame (k sq : Int) (a a' : Option Addr) (cap cap' : Nat) (l : List Int) (w : World) (h : Ints w a l) (h' : Ints w a' l) (hl : l.length ≤ maxLen) :
    Calls Tryd.prog 26 #[fr k sq a l.length cap, fr k sq a' l.length cap'] w (Ret (.bool true) w) := by
  go_enter Tryd.func26, Tryd.ntmps26
  go_wp2_with fail
  refine (eqInts a a' cap cap' l _ ((h.kept (World.grownBy_alloc _ _ _)).kept (World.grownBy_alloc _ _ _)) ((h'.kept (World.grownBy_alloc _ _ _)).kept (World.grownBy_alloc _ _ _)) hl).mono ?_
  rintro e w' ⟨rfl, hg⟩
  go_wp2_with fail
  go_ret
  exact ⟨rfl, gr_trans (gr_alloc (World.grownBy_alloc _ _ _) _) hg⟩
end Go.Proofs.YtfobbjimcmjfkaaDoor.frm
