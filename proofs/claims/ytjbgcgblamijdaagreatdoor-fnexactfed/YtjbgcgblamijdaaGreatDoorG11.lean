/- FrameOk, the program's and the model's. What came in: a frame; read, copied into new memory, compared. -/
import Derived.Test.YtjbgcgblamijdaaGreatDoorG10
import Derived.BigQuiet
import Derived.ChangeSame
import Derived.Deep.Strs
/- FrameOk, the program's and the model's. -/
namespace Go.Proofs.YtjbgcgblamijdaaGreatDoor.frm
open Go.ChangeShapes Go.WideShapes Go.ChangeAt Go.RowKit
open Go.Proofs.YtjbgcgblamijdaaGreatDoor.nums Go.Proofs.YtjbgcgblamijdaaGreatDoor.mem Go.Proofs.YtjbgcgblamijdaaGreatDoor.txt Go.Proofs.YtjbgcgblamijdaaGreatDoor.fix
open Go.Proofs.YtjbgcgblamijdaaGreatDoor.tab (Ret quiet_w wpList_make_has)
set_option linter.unusedVariables false

set_option maxHeartbeats 2000000 in
theorem implFrameOk (k sq : Int) (a : Option Addr) (cap : Nat) (l : List Int) (w : World) (hv : Vals w) (h : Ints w a l) (hl : l.length ≤ maxLen) :
    Calls Tryz.prog 88 #[fr k sq a l.length cap] w (Ret (.bool (okF k sq l)) w) := by
  have hg := World.grownBy_alloc w (Obj.cells #[.int .i64 k, .int .i64 sq, .slice a l.length cap] 62) none
  have hI := (h.kept hg).drewN 1
  have hV := (hv.kept hg)
  have hm : l.length ≤ 9223372036854775807 := by unfold maxLen at hl; exact hl
  obtain ⟨c0, c1, c2, _, _, _⟩ := three (Has.fresh w 62 #[.int .i64 k, .int .i64 sq, .slice a l.length cap])
  cases hk : (decide (1 ≤ k) && decide (k ≤ 4))
  · have ho : okF k sq l = false := by rw [okF, hk]; rfl
    have cK : ∀ W, Calls Tryz.prog 117 #[.int .i64 k] W fun e w' => e = .returned (.bool false) ∧ W = w' := fun W => hk ▸ implKind k W
    rw [ho]
    clear hk ho hm hl
    go_enter Tryz.func88, Tryz.ntmps88
    go_wp2_with fail
    go_quiet (first | (go_at_call 117; exact quiet_w (cK _)))
    go_wp2_with fail
    go_ret
    exact ⟨rfl, gr_drewN hg _⟩
  · have cK : ∀ W, Calls Tryz.prog 117 #[.int .i64 k] W fun e w' => e = .returned (.bool true) ∧ W = w' := fun W => hk ▸ implKind k W
    have hk' : 1 ≤ k ∧ k ≤ 4 := by simpa using hk
    cases hs : (decide (0 ≤ sq) && decide (sq ≤ 99))
    · have ho : okF k sq l = false := by rw [okF, hk, hs]; rfl
      have cS : ∀ W, Calls Tryz.prog 107 #[.int .i64 sq] W fun e w' => e = .returned (.bool false) ∧ W = w' := fun W => hs ▸ implSeq sq W
      rw [ho]
      clear hk hs ho hm hl hk'
      go_enter Tryz.func88, Tryz.ntmps88
      go_wp2_with fail
      go_quiet (first | (go_at_call 117; exact quiet_w (cK _)) | (go_at_call 107; exact quiet_w (cS _)))
      go_wp2_with fail
      go_ret
      exact ⟨rfl, gr_drewN hg _⟩
    · have cS : ∀ W, Calls Tryz.prog 107 #[.int .i64 sq] W fun e w' => e = .returned (.bool true) ∧ W = w' := fun W => hs ▸ implSeq sq W
      obtain ⟨hk1, hk2⟩ := hk'
      have cV : (w.alloc (Obj.cells #[.int .i64 k, .int .i64 sq, .slice a l.length cap] 62)).cell? ⟨0, k.toNat, none⟩ = some (.int .i64 (many k)) := by rw [hV.2 k.toNat (by omega), many_tab hk1 hk2]
      have hkn : k.toNat < 5 := by omega
      by_cases hn : (l.length : Int) = many k
      · have ho : okF k sq l = l.all sz := by rw [okF, hk, hs, decide_eq_true hn]; rfl
        have cA := fun W hW => implAll a cap l W hW hl
        rw [ho]
        clear hk hs ho hl
        go_enter Tryz.func88, Tryz.ntmps88
        go_wp2_with fail
        go_quiet (first | (go_at_call 117; exact quiet_w (cK _)) | (go_at_call 107; exact quiet_w (cS _)) | (go_at_call 118; exact quiet_w (cA _ hI)))
        go_wp2_with fail
        go_ret
        exact ⟨rfl, gr_drewN hg _⟩
      · have ho : okF k sq l = false := by rw [okF, hk, hs, decide_eq_false hn]; rfl
        have hn' : decide ((l.length : Int) = many k) = false := decide_eq_false hn
        have hn2 : ((l.length : Int) == many k) = false := by rw [beq_eq_false_iff_ne]; exact hn
        rw [ho]
        clear hk hs ho hl
        go_enter Tryz.func88, Tryz.ntmps88
        go_wp2_with fail
        go_quiet (first | (go_at_call 117; exact quiet_w (cK _)) | (go_at_call 107; exact quiet_w (cS _)))
        go_wp2_with fail
        go_ret
        exact ⟨rfl, gr_drewN hg _⟩

set_option maxHeartbeats 2000000 in
theorem specFrameOk (k sq : Int) (a : Option Addr) (cap : Nat) (l : List Int) (w : World) (h : Ints w a l) (hl : l.length ≤ maxLen) :
    Calls Tryz.prog 98 #[fr k sq a l.length cap] w (Ret (.bool (okF k sq l)) w) := by
  have hg := World.grownBy_alloc w (Obj.cells #[.int .i64 k, .int .i64 sq, .slice a l.length cap] 62) none
  have hI := (h.kept hg)
  have hm : l.length ≤ 9223372036854775807 := by unfold maxLen at hl; exact hl
  have H0 := Has.fresh w 62 #[.int .i64 k, .int .i64 sq, .slice a l.length cap]
  obtain ⟨c0, c1, c2, _, _, _⟩ := three H0
  by_cases hk : 1 ≤ k ∧ k ≤ 4
  · have hk0 : (decide (1 ≤ k) && decide (k ≤ 4)) = true := by simp; exact hk
    have hm0 : decide (0 ≤ many k) = true := by
      have hk' : k = 1 ∨ k = 2 ∨ k = 3 ∨ k = 4 := by omega
      rcases hk' with rfl | rfl | rfl | rfl <;> rfl
    have cM := specMany k
    have d0 : ∀ d os, (Go.Sort.grow (redrawn (w.alloc (Obj.cells #[.int .i64 k, .int .i64 sq, .slice a l.length cap] 62)) d) os).cell? ⟨w.heap.size, 0, none⟩ = some (.int .i64 k) := cell_regrown c0
    have d1 : ∀ d os, (Go.Sort.grow (redrawn (w.alloc (Obj.cells #[.int .i64 k, .int .i64 sq, .slice a l.length cap] 62)) d) os).cell? ⟨w.heap.size, 1, none⟩ = some (.int .i64 sq) := cell_regrown c1
    have d2 : ∀ d os, (Go.Sort.grow (redrawn (w.alloc (Obj.cells #[.int .i64 k, .int .i64 sq, .slice a l.length cap] 62)) d) os).cell? ⟨w.heap.size, 2, none⟩ = some (.slice a l.length cap) := cell_regrown c2
    generalize hmm : many k = mk at *
    cases hs : inb sq 0 99
    · have ho : okF k sq l = false := by rw [okF, hk0]; unfold inb at hs; rw [hs]; rfl
      have cS : ∀ W, Calls Tryz.prog 34 #[.int .i64 sq, .int .i64 0, .int .i64 99] W fun e w' => e = .returned (.bool false) ∧ W = w' := fun W => hs ▸ specIn sq 0 99 W
      rw [ho]
      clear hk hk0 ho hs hmm
      go_enter Tryz.func98, Tryz.ntmps98
      go_wp2_with fail
      refine wp_region_quiet_below (by kernel_rfl) (by kernel_rfl) ?_
      repeat (quiet_step (first | (go_at_call 115; exact rg_ret (cM _)) | (go_at_call 34; exact rg_same (cS _))))
      refine wpQuiet_nil ?_
      intro _ hw'
      obtain ⟨⟨dq, osq⟩, hw''⟩ := hw'
      subst hw''
      go_wp2_with fail
      go_ret
      exact ⟨rfl, gr_trans hg (gr_rg _ _ _)⟩
    · have ho : okF k sq l = (decide ((l.length : Int) = mk) && l.all sz) := by rw [okF, hk0]; unfold inb at hs; rw [hs, hmm]; rfl
      have cS : ∀ W, Calls Tryz.prog 34 #[.int .i64 sq, .int .i64 0, .int .i64 99] W fun e w' => e = .returned (.bool true) ∧ W = w' := fun W => hs ▸ specIn sq 0 99 W
      have cA := fun W hW => specAll a cap l mk W hW hl
      rw [ho]
      clear hk hk0 ho hs hmm
      go_enter Tryz.func98, Tryz.ntmps98
      go_wp2_with fail
      refine wp_region_quiet_below (by kernel_rfl) (by kernel_rfl) ?_
      repeat (quiet_step (first | (go_at_call 115; exact rg_ret (cM _)) | (go_at_call 34; exact rg_same (cS _)) | (go_at_call 63; exact rg_same (cA _ (hI.kept (gr_rg _ _ _))))))
      refine wpQuiet_nil ?_
      intro _ hw'
      obtain ⟨⟨dq, osq⟩, hw''⟩ := hw'
      subst hw''
      go_wp2_with fail
      go_ret
      exact ⟨rfl, gr_trans hg (gr_rg _ _ _)⟩
  · have hk0 : (decide (1 ≤ k) && decide (k ≤ 4)) = false := by simp; omega
    have hmk : many k = -1 := by unfold many; rw [if_neg (by omega), if_neg (by omega), if_neg (by omega), if_neg (by omega)]
    have ho : okF k sq l = false := by rw [okF, hk0]; rfl
    have cM : ∀ W, Calls Tryz.prog 115 #[.int .i64 k] W (Ret (.int .i64 (-1)) W) := fun W => hmk ▸ specMany k W
    have d0 : ∀ d os, (Go.Sort.grow (redrawn (w.alloc (Obj.cells #[.int .i64 k, .int .i64 sq, .slice a l.length cap] 62)) d) os).cell? ⟨w.heap.size, 0, none⟩ = some (.int .i64 k) := cell_regrown c0
    rw [ho]
    clear hk hk0 hmk ho
    go_enter Tryz.func98, Tryz.ntmps98
    go_wp2_with fail
    refine wp_region_quiet_below (by kernel_rfl) (by kernel_rfl) ?_
    repeat (quiet_step (first | (go_at_call 115; exact rg_ret (cM _))))
    refine wpQuiet_nil ?_
    intro _ hw'
    obtain ⟨⟨dq, osq⟩, hw''⟩ := hw'
    subst hw''
    go_wp2_with fail
    go_ret
    exact ⟨rfl, gr_trans hg (gr_rg _ _ _)⟩
end Go.Proofs.YtjbgcgblamijdaaGreatDoor.frm

/- What came in: a frame; read, copied into new memory, compared. -/
namespace Go.Proofs.YtjbgcgblamijdaaGreatDoor.frm
open Go.ChangeShapes Go.WideShapes Go.ChangeAt Go.RowKit
open Go.Proofs.YtjbgcgblamijdaaGreatDoor.nums Go.Proofs.YtjbgcgblamijdaaGreatDoor.mem Go.Proofs.YtjbgcgblamijdaaGreatDoor.txt Go.Proofs.YtjbgcgblamijdaaGreatDoor.fix
open Go.Proofs.YtjbgcgblamijdaaGreatDoor.tab (Ret quiet_w wpList_make_has)
set_option linter.unusedVariables false

theorem ints_of_trod {H : Type} {enc : TypeId × Value → H} {w : World} {base : Nat} {held : Bool} {fuel : Nat} {cs : List Value} {y : DataW H × List MemPlace}
    (hf : DataW.trod enc Tryz.prog w base (fun _ => true) held fuel 25 cs = some y) : ∃ (a : Option Addr) (len cap : Nat) (l : List Int), cs = [.slice a len cap] ∧ l.length = len ∧ len ≤ maxLen ∧ Ints w a l ∧ ∀ n ∈ l, (Lit.int .i64 n).wf = true := by
  rcases open_ints Tryz.underlying25 Tryz.underlying2 (by kernel_rfl) hf with ⟨hcs, _⟩ | ⟨x, len, cap, zs, hcs, hb, hl, hm, hz, _, hc, hwf⟩
  · exact ⟨none, 0, 0, [], hcs, rfl, Nat.zero_le _, Ints.nil _ _, fun n hn => by simp at hn⟩
  · have hz' : zs.length = cap := by simpa using hz
    refine ⟨some x, len, cap, zs.take len, hcs, by simp; omega, by omega, fun k hk => ?_, fun n hn => hwf n (List.mem_of_mem_take hn)⟩
    have hk' : k < len := by simp at hk; omega
    have c0 := hc k (by omega)
    have e : nth (zs.take len) k = zs.getD k 0 := by simp [nth, List.getD, hk']
    refine ⟨x, rfl, ?_, by rw [e]; exact c0⟩
    by_cases hbk : x.block < w.heap.size
    · exact hbk
    · have hn : w.heap[(x.add k).block]? = none := by rw [block_add]; exact Array.getElem?_eq_none (by omega)
      simp [World.cell?, hn] at c0

set_option maxRecDepth 100000 in
theorem open_frame {H : Type} {enc : TypeId × Value → H} {w : World} {r : Reach} {b0 base : Nat} {held : Bool} {v : Value} {d : DataW H} {p : List MemPlace}
    (hval : Value.okWide Tryz.prog w r b0 97 v) (h : DataW.Trod enc Tryz.prog w base (fun _ => true) held 97 v d p) :
    ∃ (k sq : Int) (a : Option Addr) (cap : Nat) (l : List Int), v = fr k sq a l.length cap ∧ (Lit.int .i64 k).wf = true ∧ (Lit.int .i64 sq).wf = true ∧ l.length ≤ maxLen ∧ Ints w a l ∧ ∀ n ∈ l, (Lit.int .i64 n).wf = true := by
  obtain ⟨cs, rfl, hs⟩ := okWide_struct Tryz.underlying97 hval
  obtain ⟨fuel, hf⟩ := h
  have h2 : Tryz.prog.cellsOf 97 = 3 := by kernel_rfl
  rw [h2] at hs
  obtain ⟨y0, y1, y2, n, _, hl, t0, t1, t2⟩ := Go.Deep.trod_struct3 Tryz.underlying97 hf
  obtain ⟨z0, e0, _, hw0⟩ := DataW.trod_int Tryz.underlying2 t0
  obtain ⟨z1, e1, _, hw1⟩ := DataW.trod_int Tryz.underlying2 t1
  obtain ⟨a, len, cap, l, e2, rfl, hlm, hI, hwf⟩ := ints_of_trod t2
  have c1 : Tryz.prog.cellsOf 2 = 1 := by kernel_rfl
  have c2 : Tryz.prog.cellsOf 25 = 1 := by kernel_rfl
  obtain ⟨cl⟩ := cs
  match cl, hs with
  | [x, y, z], _ =>
    simp [Value.cells, c1, c2] at e0 e1 e2
    refine ⟨z0, z1, a, cap, l, ?_, hw0, hw1, hlm, hI, hwf⟩
    rw [e0, e1, e2]

/-- The bulk: what is left of it. -/
theorem szInts (a : Option Addr) (len cap : Nat) (w : World) (hl : len ≤ maxLen) :
    Calls Tryz.prog 70 #[.slice a len cap, .int .i64 1048576] w fun e w' => e = .returned (.int .i64 (if len ≤ 1048576 then 1048576 - (len : Int) else -1)) ∧ w = w' := by
  unfold maxLen at hl
  by_cases h : len ≤ 1048576
  · rw [if_pos h]
    go_enter Tryz.func70, Tryz.ntmps70
    go_wp2
    go_ret
    exact ⟨rfl, rfl⟩
  · rw [if_neg h]
    go_enter Tryz.func70, Tryz.ntmps70
    go_wp2
    go_ret
    exact ⟨rfl, rfl⟩

theorem szFrame (k sq : Int) (a : Option Addr) (len cap : Nat) (w : World) (hl : len ≤ maxLen) :
    Calls Tryz.prog 71 #[fr k sq a len cap, .int .i64 1048576] w (Ret (.int .i64 (if len ≤ 1048576 then 1048576 - (len : Int) else -1)) w) := by
  have hc := fun W => szInts a len cap W hl
  by_cases h : len ≤ 1048576
  · rw [if_pos h] at hc ⊢
    go_enter Tryz.func71, Tryz.ntmps71
    go_wp2_with fail
    refine (hc _).mono ?_
    rintro e w' ⟨rfl, rfl⟩
    go_wp2_with fail
    go_ret
    exact ⟨rfl, World.grownBy_alloc _ _ _⟩
  · rw [if_neg h] at hc ⊢
    go_enter Tryz.func71, Tryz.ntmps71
    go_wp2_with fail
    refine (hc _).mono ?_
    rintro e w' ⟨rfl, rfl⟩
    go_wp2_with fail
    go_ret
    exact ⟨rfl, World.grownBy_alloc _ _ _⟩

theorem infoInt : (Tryz.prog.info? 2).map (fun i => (i.zero, i.size, i.bytes)) = some (some (.int .i64 0), 1, 8) := by kernel_rfl

/-- A copy: a new block that holds the numbers; of what was there nothing is another. -/
def Copied (l : List Int) (w : World) (e : Ending) (w' : World) : Prop := ∃ g, e = .returned (.slice (some ⟨g, 0, none⟩) l.length l.length) ∧ w.heap.size ≤ g ∧ w.grownBy w' none ∧ Ints w' (some ⟨g, 0, none⟩) l
theorem add0 (g k : Nat) : (⟨g, 0, none⟩ : Addr).add k = ⟨g, k, none⟩ := by unfold Addr.add; split <;> simp_all
theorem addo (g o k : Nat) : (⟨g, o, none⟩ : Addr).add k = ⟨g, o + k, none⟩ := by unfold Addr.add; split <;> simp_all

set_option maxHeartbeats 1000000 in
theorem toInts (a : Option Addr) (cap : Nat) (l : List Int) (w : World) (h : Ints w a l) (hl : l.length ≤ 1048576) : Calls Tryz.prog 73 #[.slice a l.length cap] w (Copied l w) := by
  obtain ⟨i0, hi, hz0, hz1, hz2⟩ := info_parts infoInt
  go_enter Tryz.func73, Tryz.ntmps73
  go_wp2_with (at_make; refine wpList_make_has _ rfl _ _ _ rfl 2 i0 _ 1 Tryz.underlying25 hi hz0 hz1 .i64 .i64 _ _ l.length rfl rfl rfl rfl (by rw [hz2]; omega) (by unfold maxLen; omega) ?_)
  have hA0 := Has.fresh w 2 (madeCells #[.int .i64 0] l.length)
  go_loopw [4] (fun i wr => ∃ (k : Nat) (A : Array Value), k ≤ l.length ∧ i = .int .i64 k ∧ Has wr w.heap.size 2 A ∧ Hid (A.size = l.length) ∧ Hid (∀ j, j < k → A[j]? = some (.int .i64 (nth l j))) ∧ w.grownBy wr none) (fun i _ => l.length - (intOf i).toNat)
  case atStart => exact ⟨0, _, Nat.zero_le _, rfl, hA0, Lib.hid (size_madeCells _ _), Lib.hid (fun j hj => by omega), World.grownBy_alloc _ _ _⟩
  case round =>
    obtain ⟨k, A, hk, rfl, hA, hs, hr, hg⟩ := hrel
    by_cases hlt : k < l.length
    · obtain ⟨x, rfl, hb, cx⟩ := (h.kept hg) k hlt
      obtain ⟨v0, e0⟩ : ∃ v, A[k]? = some v := ⟨_, Array.getElem?_eq_getElem (by have := hs.out; omega)⟩
      have d0 := (hA.cell k).trans e0
      have g0 := hA.frozen k
      clear e0
      go_wp2_with fail
      go_roundw
      case rel => exact ⟨k + 1, _, by omega, by go_num, hA.set _ _, Lib.hid (by simpa using hs.out), Lib.hid (fun j hj => by
        have hs' := hs.out
        by_cases e : j = k
        · subst e
          simp [hlt, hs']
        · have e0 := hr.out j (by omega)
          rw [Array.getElem?_setIfInBounds_ne (by omega)]; exact e0), gr_new hg (Nat.le_refl _) _ _⟩
      case measure => simp [intOf]; omega
    · obtain rfl : k = l.length := by omega
      go_wp2_with fail
      go_ret
      refine ⟨_, rfl, Nat.le_refl _, hg, fun j hj => ⟨_, rfl, hA.lt, ?_⟩⟩
      rw [add0]
      exact (hA.cell _).trans (hr.out j hj)

/-- A frame in new memory. -/
def GotF (k sq : Int) (l : List Int) (w : World) (e : Ending) (w' : World) : Prop := ∃ g, e = .returned (fr k sq (some ⟨g, 0, none⟩) l.length l.length) ∧ w.heap.size ≤ g ∧ w.grownBy w' none ∧ Ints w' (some ⟨g, 0, none⟩) l

set_option maxHeartbeats 1000000 in
theorem toFrame (k sq : Int) (a : Option Addr) (cap : Nat) (l : List Int) (w : World) (h : Ints w a l) (hl : l.length ≤ 1048576) : Calls Tryz.prog 74 #[fr k sq a l.length cap] w (GotF k sq l w) := by
  go_enter Tryz.func74, Tryz.ntmps74
  go_wp2_with fail
  have a1 := ((Has.fresh (w.alloc (Obj.cells #[.int .i64 k, .int .i64 sq, .slice a l.length cap] 97)) 62 #[.int .i64 0, .int .i64 0, .slice none 0 0]).alloc (Obj.cells #[.int .i64 k, .int .i64 sq, .slice none 0 0] 62))
  have a2 := Has.fresh ((w.alloc (Obj.cells #[.int .i64 k, .int .i64 sq, .slice a l.length cap] 97)).alloc (Obj.cells #[.int .i64 0, .int .i64 0, .slice none 0 0] 62)) 62 #[.int .i64 k, .int .i64 sq, .slice none 0 0]
  have g0 := gr_alloc (gr_alloc (World.grownBy_alloc w (Obj.cells #[.int .i64 k, .int .i64 sq, .slice a l.length cap] 97) none) (Obj.cells #[.int .i64 0, .int .i64 0, .slice none 0 0] 62)) (Obj.cells #[.int .i64 k, .int .i64 sq, .slice none 0 0] 62)
  generalize hw3 : ((w.alloc (Obj.cells #[.int .i64 k, .int .i64 sq, .slice a l.length cap] 97)).alloc (Obj.cells #[.int .i64 0, .int .i64 0, .slice none 0 0] 62)).alloc (Obj.cells #[.int .i64 k, .int .i64 sq, .slice none 0 0] 62) = w3 at *
  replace a1 : Has w3 (w.heap.size + 1) 62 #[.int .i64 0, .int .i64 0, .slice none 0 0] := by simpa using a1
  replace a2 : Has w3 (w.heap.size + 1 + 1) 62 #[.int .i64 k, .int .i64 sq, .slice none 0 0] := by simpa using a2
  have hs3 : w3.heap.size = w.heap.size + 1 + 1 + 1 := by rw [← hw3]; simp
  clear hw3
  refine (toInts a cap l _ (h.kept g0) hl).mono ?_
  rintro e w4 ⟨g, rfl, hge, hg4, hI⟩
  replace a1 := a1.grown hg4 (by simp)
  replace a2 := a2.grown hg4 (by simp)
  obtain ⟨p0, p1, p2, q0, q1, q2⟩ := three a1
  obtain ⟨r0, r1, r2, s0, s1, s2⟩ := three a2
  have hne : w.heap.size + 1 ≠ w.heap.size + 1 + 1 := by omega
  go_wp2_with fail
  obtain ⟨u0, u1, u2, _, _, _⟩ := three (set3 (has_other a1 hne 2 (.slice (some ⟨g, 0, none⟩) l.length l.length)) (.int .i64 k) (.int .i64 sq) (.slice (some ⟨g, 0, none⟩) l.length l.length))
  refine bodyPost_ret (v := fr k sq (some ⟨g, 0, none⟩) l.length l.length) (by simp [results, Tryz.results74, go_sem, u0, u1, u2]) rfl ⟨g, rfl, by omega, ?_, ?_⟩
  · exact gr_new (gr_new (gr_new (gr_new (gr_trans g0 hg4) (by omega) _ _) (by omega) _ _) (by omega) _ _) (by omega) _ _
  · exact (((hI.set _ _ _ (fun x e => by injection e with e; subst e; show g ≠ _; omega)).set _ _ _ (fun x e => by injection e with e; subst e; show g ≠ _; omega)).set _ _ _ (fun x e => by injection e with e; subst e; show g ≠ _; omega)).set _ _ _ (fun x e => by injection e with e; subst e; show g ≠ _; omega)

set_option maxHeartbeats 1000000 in
theorem eqInts (a a' : Option Addr) (cap cap' : Nat) (l : List Int) (w : World) (h : Ints w a l) (h' : Ints w a' l) (hl : l.length ≤ maxLen) :
    Calls Tryz.prog 76 #[.slice a l.length cap, .slice a' l.length cap'] w (Ret (.bool true) w) := by
  have hm : l.length ≤ 9223372036854775807 := by unfold maxLen at hl; exact hl
  clear hl
  go_enter Tryz.func76, Tryz.ntmps76
  go_wp2
  go_loopw [5] (fun i wr => ∃ k : Nat, k ≤ l.length ∧ i = .int .i64 k ∧ w.grownBy wr none) (fun i _ => l.length - (intOf i).toNat)
  case atStart => exact ⟨0, Nat.zero_le _, rfl, gr_refl _ _⟩
  case round =>
    obtain ⟨k, hk, rfl, hg⟩ := hrel
    by_cases hlt : k < l.length
    · obtain ⟨x, rfl, _, cx⟩ := (h.kept hg) k hlt
      obtain ⟨x', rfl, _, dx⟩ := (h'.kept hg) k hlt
      go_wp2_with fail
      go_quiet (fail)
      go_wp2_with fail
      go_roundw
      case rel => exact ⟨k + 1, by omega, by go_num, gr_drewN hg _⟩
      case measure => simp [intOf]; omega
    · obtain rfl : k = l.length := by omega
      go_wp2_with fail
      go_ret
      exact ⟨rfl, hg⟩

set_option maxHeartbeats 1000000 in
theorem eqFrame (k sq : Int) (a a' : Option Addr) (cap cap' : Nat) (l : List Int) (w : World) (h : Ints w a l) (h' : Ints w a' l) (hl : l.length ≤ maxLen) :
    Calls Tryz.prog 77 #[fr k sq a l.length cap, fr k sq a' l.length cap'] w (Ret (.bool true) w) := by
  go_enter Tryz.func77, Tryz.ntmps77
  go_wp2_with fail
  refine (eqInts a a' cap cap' l _ ((h.kept (World.grownBy_alloc _ _ _)).kept (World.grownBy_alloc _ _ _)) ((h'.kept (World.grownBy_alloc _ _ _)).kept (World.grownBy_alloc _ _ _)) hl).mono ?_
  rintro e w' ⟨rfl, hg⟩
  go_wp2_with fail
  go_ret
  exact ⟨rfl, gr_trans (gr_alloc (World.grownBy_alloc _ _ _) _) hg⟩
end Go.Proofs.YtjbgcgblamijdaaGreatDoor.frm

