/- FrameOk, the program's and the model's. What came in: a frame; read, copied into new memory, compared. The model's texts of numbers: l1Int, l1Ints. ShowFrame of the model. -/
import Derived.Test.YtdikhdfpcipdbaaGreatDoorG5
import Derived.BigQuiet
import Derived.ChangeSame
import Derived.Deep.Strs
import Derived.Laws.BytesString
import Derived.Laws.IdiomStrings
/- FrameOk, the program's and the model's. -/
namespace Go.Proofs.YtdikhdfpcipdbaaGreatDoor.frm
open Go.ChangeShapes Go.WideShapes Go.ChangeAt Go.RowKit
open Go.Proofs.YtdikhdfpcipdbaaGreatDoor.nums Go.Proofs.YtdikhdfpcipdbaaGreatDoor.mem Go.Proofs.YtdikhdfpcipdbaaGreatDoor.txt Go.Proofs.YtdikhdfpcipdbaaGreatDoor.fix
open Go.Proofs.YtdikhdfpcipdbaaGreatDoor.tab (Ret quiet_w wpList_make_has)
set_option linter.unusedVariables false

set_option maxHeartbeats 2000000 in
theorem implFrameOk (k sq : Int) (a : Option Addr) (cap : Nat) (l : List Int) (w : World) (hv : Vals w) (h : Ints w a l) (hl : l.length ≤ maxLen) :
    Calls Tryz.prog 65 #[fr k sq a l.length cap] w (Ret (.bool (okF k sq l)) w) := by
  have hg := World.grownBy_alloc w (Obj.cells #[.int .i64 k, .int .i64 sq, .slice a l.length cap] 50) none
  have hI := (h.kept hg).drewN 1
  have hV := (hv.kept hg)
  have hm : l.length ≤ 9223372036854775807 := by unfold maxLen at hl; exact hl
  obtain ⟨c0, c1, c2, _, _, _⟩ := three (Has.fresh w 50 #[.int .i64 k, .int .i64 sq, .slice a l.length cap])
  cases hk : (decide (1 ≤ k) && decide (k ≤ 4))
  · have ho : okF k sq l = false := by rw [okF, hk]; rfl
    have cK : ∀ W, Calls Tryz.prog 92 #[.int .i64 k] W fun e w' => e = .returned (.bool false) ∧ W = w' := fun W => hk ▸ implKind k W
    rw [ho]
    clear hk ho hm hl
    go_enter Tryz.func65, Tryz.ntmps65
    go_wp2_with fail
    go_quiet (first | (go_at_call 92; exact quiet_w (cK _)))
    go_wp2_with fail
    go_ret
    exact ⟨rfl, gr_drewN hg _⟩
  · have cK : ∀ W, Calls Tryz.prog 92 #[.int .i64 k] W fun e w' => e = .returned (.bool true) ∧ W = w' := fun W => hk ▸ implKind k W
    have hk' : 1 ≤ k ∧ k ≤ 4 := by simpa using hk
    cases hs : (decide (0 ≤ sq) && decide (sq ≤ 99))
    · have ho : okF k sq l = false := by rw [okF, hk, hs]; rfl
      have cS : ∀ W, Calls Tryz.prog 84 #[.int .i64 sq] W fun e w' => e = .returned (.bool false) ∧ W = w' := fun W => hs ▸ implSeq sq W
      rw [ho]
      clear hk hs ho hm hl hk'
      go_enter Tryz.func65, Tryz.ntmps65
      go_wp2_with fail
      go_quiet (first | (go_at_call 92; exact quiet_w (cK _)) | (go_at_call 84; exact quiet_w (cS _)))
      go_wp2_with fail
      go_ret
      exact ⟨rfl, gr_drewN hg _⟩
    · have cS : ∀ W, Calls Tryz.prog 84 #[.int .i64 sq] W fun e w' => e = .returned (.bool true) ∧ W = w' := fun W => hs ▸ implSeq sq W
      obtain ⟨hk1, hk2⟩ := hk'
      have cV : (w.alloc (Obj.cells #[.int .i64 k, .int .i64 sq, .slice a l.length cap] 50)).cell? ⟨0, k.toNat, none⟩ = some (.int .i64 (many k)) := by rw [hV.2 k.toNat (by omega), many_tab hk1 hk2]
      have hkn : k.toNat < 5 := by omega
      by_cases hn : (l.length : Int) = many k
      · have ho : okF k sq l = l.all sz := by rw [okF, hk, hs, decide_eq_true hn]; rfl
        have cA := fun W hW => implAll a cap l W hW hl
        rw [ho]
        clear hk hs ho hl
        go_enter Tryz.func65, Tryz.ntmps65
        go_wp2_with fail
        go_quiet (first | (go_at_call 92; exact quiet_w (cK _)) | (go_at_call 84; exact quiet_w (cS _)) | (go_at_call 93; exact quiet_w (cA _ hI)))
        go_wp2_with fail
        go_ret
        exact ⟨rfl, gr_drewN hg _⟩
      · have ho : okF k sq l = false := by rw [okF, hk, hs, decide_eq_false hn]; rfl
        have hn' : decide ((l.length : Int) = many k) = false := decide_eq_false hn
        have hn2 : ((l.length : Int) == many k) = false := by rw [beq_eq_false_iff_ne]; exact hn
        rw [ho]
        clear hk hs ho hl
        go_enter Tryz.func65, Tryz.ntmps65
        go_wp2_with fail
        go_quiet (first | (go_at_call 92; exact quiet_w (cK _)) | (go_at_call 84; exact quiet_w (cS _)))
        go_wp2_with fail
        go_ret
        exact ⟨rfl, gr_drewN hg _⟩

set_option maxHeartbeats 2000000 in
theorem specFrameOk (k sq : Int) (a : Option Addr) (cap : Nat) (l : List Int) (w : World) (h : Ints w a l) (hl : l.length ≤ maxLen) :
    Calls Tryz.prog 75 #[fr k sq a l.length cap] w (Ret (.bool (okF k sq l)) w) := by
  have hg := World.grownBy_alloc w (Obj.cells #[.int .i64 k, .int .i64 sq, .slice a l.length cap] 50) none
  have hI := (h.kept hg)
  have hm : l.length ≤ 9223372036854775807 := by unfold maxLen at hl; exact hl
  have H0 := Has.fresh w 50 #[.int .i64 k, .int .i64 sq, .slice a l.length cap]
  obtain ⟨c0, c1, c2, _, _, _⟩ := three H0
  by_cases hk : 1 ≤ k ∧ k ≤ 4
  · have hk0 : (decide (1 ≤ k) && decide (k ≤ 4)) = true := by simp; exact hk
    have hm0 : decide (0 ≤ many k) = true := by
      have hk' : k = 1 ∨ k = 2 ∨ k = 3 ∨ k = 4 := by omega
      rcases hk' with rfl | rfl | rfl | rfl <;> rfl
    have cM := specMany k
    have d0 : ∀ d os, (Go.Sort.grow (redrawn (w.alloc (Obj.cells #[.int .i64 k, .int .i64 sq, .slice a l.length cap] 50)) d) os).cell? ⟨w.heap.size, 0, none⟩ = some (.int .i64 k) := cell_regrown c0
    have d1 : ∀ d os, (Go.Sort.grow (redrawn (w.alloc (Obj.cells #[.int .i64 k, .int .i64 sq, .slice a l.length cap] 50)) d) os).cell? ⟨w.heap.size, 1, none⟩ = some (.int .i64 sq) := cell_regrown c1
    have d2 : ∀ d os, (Go.Sort.grow (redrawn (w.alloc (Obj.cells #[.int .i64 k, .int .i64 sq, .slice a l.length cap] 50)) d) os).cell? ⟨w.heap.size, 2, none⟩ = some (.slice a l.length cap) := cell_regrown c2
    generalize hmm : many k = mk at *
    cases hs : inb sq 0 99
    · have ho : okF k sq l = false := by rw [okF, hk0]; unfold inb at hs; rw [hs]; rfl
      have cS : ∀ W, Calls Tryz.prog 24 #[.int .i64 sq, .int .i64 0, .int .i64 99] W fun e w' => e = .returned (.bool false) ∧ W = w' := fun W => hs ▸ specIn sq 0 99 W
      rw [ho]
      clear hk hk0 ho hs hmm
      go_enter Tryz.func75, Tryz.ntmps75
      go_wp2_with fail
      refine wp_region_quiet_below (by kernel_rfl) (by kernel_rfl) ?_
      repeat (quiet_step (first | (go_at_call 90; exact rg_ret (cM _)) | (go_at_call 24; exact rg_same (cS _))))
      refine wpQuiet_nil ?_
      intro _ hw'
      obtain ⟨⟨dq, osq⟩, hw''⟩ := hw'
      subst hw''
      go_wp2_with fail
      go_ret
      exact ⟨rfl, gr_trans hg (gr_rg _ _ _)⟩
    · have ho : okF k sq l = (decide ((l.length : Int) = mk) && l.all sz) := by rw [okF, hk0]; unfold inb at hs; rw [hs, hmm]; rfl
      have cS : ∀ W, Calls Tryz.prog 24 #[.int .i64 sq, .int .i64 0, .int .i64 99] W fun e w' => e = .returned (.bool true) ∧ W = w' := fun W => hs ▸ specIn sq 0 99 W
      have cA := fun W hW => specAll a cap l mk W hW hl
      rw [ho]
      clear hk hk0 ho hs hmm
      go_enter Tryz.func75, Tryz.ntmps75
      go_wp2_with fail
      refine wp_region_quiet_below (by kernel_rfl) (by kernel_rfl) ?_
      repeat (quiet_step (first | (go_at_call 90; exact rg_ret (cM _)) | (go_at_call 24; exact rg_same (cS _)) | (go_at_call 53; exact rg_same (cA _ (hI.kept (gr_rg _ _ _))))))
      refine wpQuiet_nil ?_
      intro _ hw'
      obtain ⟨⟨dq, osq⟩, hw''⟩ := hw'
      subst hw''
      go_wp2_with fail
      go_ret
      exact ⟨rfl, gr_trans hg (gr_rg _ _ _)⟩
  · have hk0 : (decide (1 ≤ k) && decide (k ≤ 4)) = false := by simp; omega
    have hmk : many k = -1 := by unfold many; rw [if_neg (by omega), if_neg (by omega), if_neg (by omega), if_neg (by omega)]
    have ho : okF k sq l = false := by rw [okF, hk0]; rfl
    have cM : ∀ W, Calls Tryz.prog 90 #[.int .i64 k] W (Ret (.int .i64 (-1)) W) := fun W => hmk ▸ specMany k W
    have d0 : ∀ d os, (Go.Sort.grow (redrawn (w.alloc (Obj.cells #[.int .i64 k, .int .i64 sq, .slice a l.length cap] 50)) d) os).cell? ⟨w.heap.size, 0, none⟩ = some (.int .i64 k) := cell_regrown c0
    rw [ho]
    clear hk hk0 hmk ho
    go_enter Tryz.func75, Tryz.ntmps75
    go_wp2_with fail
    refine wp_region_quiet_below (by kernel_rfl) (by kernel_rfl) ?_
    repeat (quiet_step (first | (go_at_call 90; exact rg_ret (cM _))))
    refine wpQuiet_nil ?_
    intro _ hw'
    obtain ⟨⟨dq, osq⟩, hw''⟩ := hw'
    subst hw''
    go_wp2_with fail
    go_ret
    exact ⟨rfl, gr_trans hg (gr_rg _ _ _)⟩
end Go.Proofs.YtdikhdfpcipdbaaGreatDoor.frm

/- What came in: a frame; read, copied into new memory, compared. -/
namespace Go.Proofs.YtdikhdfpcipdbaaGreatDoor.frm
open Go.ChangeShapes Go.WideShapes Go.ChangeAt Go.RowKit
open Go.Proofs.YtdikhdfpcipdbaaGreatDoor.nums Go.Proofs.YtdikhdfpcipdbaaGreatDoor.mem Go.Proofs.YtdikhdfpcipdbaaGreatDoor.txt Go.Proofs.YtdikhdfpcipdbaaGreatDoor.fix
open Go.Proofs.YtdikhdfpcipdbaaGreatDoor.tab (Ret quiet_w wpList_make_has)
set_option linter.unusedVariables false

theorem ints_of_trod {H : Type} {enc : TypeId × Value → H} {w : World} {base : Nat} {held : Bool} {fuel : Nat} {cs : List Value} {y : DataW H × List MemPlace}
    (hf : DataW.trod enc Tryz.prog w base (fun _ => true) held fuel 25 cs = some y) : ∃ (a : Option Addr) (len cap : Nat) (l : List Int), cs = [.slice a len cap] ∧ l.length = len ∧ len ≤ maxLen ∧ Ints w a l ∧ ∀ n ∈ l, (Lit.int .i64 n).wf = true := by
  rcases open_ints Tryz.underlying25 Tryz.underlying2 (by kernel_rfl) hf with ⟨hcs, _⟩ | ⟨x, len, cap, zs, hcs, hb, hl, hm, hz, _, hc, hwf⟩
  · exact ⟨none, 0, 0, [], hcs, rfl, Nat.zero_le _, Ints.nil _ _, fun n hn => by simp at hn⟩
  · have hz' : zs.length = cap := by simpa using hz
    refine ⟨some x, len, cap, zs.take len, hcs, by simp; omega, by omega, fun k hk => ?_, fun n hn => hwf n (List.mem_of_mem_take hn)⟩
    have hk' : k < len := by simp at hk; omega
    have c0 := hc k (by omega)
    have e : nth (zs.take len) k = zs.getD k 0 := by simp [nth, List.getD, hk']
    refine ⟨x, rfl, ?_, by rw [e]; exact c0⟩
    by_cases hbk : x.block < w.heap.size
    · exact hbk
    · have hn : w.heap[(x.add k).block]? = none := by rw [block_add]; exact Array.getElem?_eq_none (by omega)
      simp [World.cell?, hn] at c0

theorem infoInt : (Tryz.prog.info? 2).map (fun i => (i.zero, i.size, i.bytes)) = some (some (.int .i64 0), 1, 8) := by kernel_rfl

/-- A copy: a new block that holds the numbers; of what was there nothing is another. -/
def Copied (l : List Int) (w : World) (e : Ending) (w' : World) : Prop := ∃ g, e = .returned (.slice (some ⟨g, 0, none⟩) l.length l.length) ∧ w.heap.size ≤ g ∧ w.grownBy w' none ∧ Ints w' (some ⟨g, 0, none⟩) l
theorem add0 (g k : Nat) : (⟨g, 0, none⟩ : Addr).add k = ⟨g, k, none⟩ := by unfold Addr.add; split <;> simp_all
theorem addo (g o k : Nat) : (⟨g, o, none⟩ : Addr).add k = ⟨g, o + k, none⟩ := by unfold Addr.add; split <;> simp_all

end Go.Proofs.YtdikhdfpcipdbaaGreatDoor.frm

/- The model's texts of numbers: l1Int, l1Ints. -/
namespace Go.Proofs.YtdikhdfpcipdbaaGreatDoor.frm
open Go.ChangeShapes Go.WideShapes Go.ChangeAt Go.RowKit
open Go.Proofs.YtdikhdfpcipdbaaGreatDoor.nums Go.Proofs.YtdikhdfpcipdbaaGreatDoor.mem Go.Proofs.YtdikhdfpcipdbaaGreatDoor.txt Go.Proofs.YtdikhdfpcipdbaaGreatDoor.fix
open Go.Proofs.YtdikhdfpcipdbaaGreatDoor.tab (Ret quiet_w wpList_make_has)
set_option linter.unusedVariables false

def strOf : Value → List UInt8
  | .string b => b.data.toList
  | _ => []
def dig (v : Nat) : UInt8 := UInt8.ofNat (48 + v % 10)
/-- Of u's digits those of v are still to come; s stands already. -/
def Left (u v : Nat) (s : List UInt8) : Prop := (s = [] ∨ v ≠ 0 → Lib.decDigits u = Lib.decDigits v ++ s) ∧ (s ≠ [] → v = 0 → Lib.decDigits u = s)
theorem Left.start (u : Nat) : Left u u [] := ⟨fun _ => by simp, fun h => absurd rfl h⟩
theorem Left.step {u v : Nat} {s : List UInt8} (h : Left u v s) (hv : s = [] ∨ v ≠ 0) : Left u (v / 10) (dig v :: s) := by
  have e := h.1 hv
  by_cases h10 : v < 10
  · rw [dec_small h10] at e
    have hz : v / 10 = 0 := by omega
    have hm : v % 10 = v := by omega
    refine ⟨fun h => ?_, fun _ _ => ?_⟩
    · rcases h with h | h
      · simp at h
      · exact absurd hz h
    · rw [e, dig, hm]; rfl
  · rw [dec_big h10] at e
    refine ⟨fun _ => by rw [e]; simp [dig], fun _ h => ?_⟩
    omega
theorem Left.len {u v : Nat} {s : List UInt8} (h : Left u v s) (hu : u < 1000000000) : s.length ≤ 9 := by
  have hl := dec_len 8 u (by simpa using hu)
  by_cases h1 : s = []
  · rw [h1]; simp
  · by_cases h2 : v = 0
    · rw [h.2 h1 h2] at hl; exact hl
    · rw [h.1 (Or.inr h2)] at hl; simp at hl; omega

/-- One byte as a text. -/
theorem conv_byte (w : World) (v : Nat) (src dst e : TypeId) (hs : Tryz.prog.underlying src = some (.slice e)) (he : Tryz.prog.underlying e = some (.int .u8)) (hd : Tryz.prog.underlying dst = some .string) :
    (convert src dst (.slice (some ⟨w.heap.size, 0, none⟩) 1 1)).run Tryz.prog (w.alloc (.cells #[.int .u8 (48 + (v : Int) % 10)] e)) = .ok (str [dig v]) (w.alloc (.cells #[.int .u8 (48 + (v : Int) % 10)] e)) := by
  refine run_convert_bytes_back (P := Tryz.prog) _ src dst e ⟨w.heap.size, 0, none⟩ 1 [dig v] hs he hd (fun j hj => ?_)
  have hj0 : j = 0 := by simpa using hj
  subst hj0
  have hc := (Has.fresh w e #[.int .u8 (48 + (v : Int) % 10)]).cell 0
  rw [add0, hc]
  simp only [List.getElem_cons_zero]
  rw [dig, digit_nat _ (Nat.mod_lt _ (by decide))]
  simp
theorem str_cons (c : UInt8) (t : List UInt8) : (ByteArray.mk [c].toArray ++ ByteArray.mk t.toArray) = ByteArray.mk (c :: t).toArray := by rw [ByteArray.mk_append_mk]; rfl
theorem lt_step {v : Nat} (t : List UInt8) (c : UInt8) (h : t = [] ∨ v ≠ 0) :
    (v / 10) + (if (strOf (.string (ByteArray.mk #[c] ++ ByteArray.mk t.toArray))).length = 0 then 1 else 0) < v + (if (strOf (str t)).length = 0 then 1 else 0) := by
  have e : (ByteArray.mk #[c] ++ ByteArray.mk t.toArray) = ByteArray.mk (c :: t).toArray := str_cons c t
  have e1 : (strOf (.string (ByteArray.mk #[c] ++ ByteArray.mk t.toArray))).length = t.length + 1 := by rw [e]; simp [strOf]
  have e2 : (strOf (str t)).length = t.length := by simp [strOf]
  rw [e1, e2, if_neg (by omega)]
  rcases h with h | h
  · subst h; simp; omega
  · have : v / 10 < v := Nat.div_lt_self (by omega) (by omega)
    omega

set_option maxRecDepth 100000 in
set_option maxHeartbeats 1000000 in
theorem specIntPos (u : Nat) (w : World) (hu : u < 1000000000) : Calls Tryz.prog 181 #[.int .i64 u] w (Ret (str (Lib.decDigits u)) w) := by
  have hd : decide ((u : Int) < 0) = false := by simp
  go_enter Tryz.func181, Tryz.ntmps181
  go_wp2_with fail
  go_loopw [0, 3] (fun n s wr => ∃ (v : Nat) (t : List UInt8), n = .int .i64 v ∧ s = str t ∧ v ≤ u ∧ Hid (Left u v t) ∧ w.grownBy wr none) (fun n s _ => (intOf n).toNat + (if (strOf s).length = 0 then 1 else 0))
  case atStart => exact ⟨u, [], rfl, rfl, Nat.le_refl _, Lib.hid (Left.start u), gr_refl _ _⟩
  case round =>
    obtain ⟨v, t, rfl, rfl, hv, hL, hg⟩ := hrel
    have hlen := hL.out.len hu
    have hm : decide ((v : Int) % 10 < 0) = false := by simp; omega
    by_cases hs : t = [] ∨ v ≠ 0
    · have ht : (t == ([] : List UInt8)) = true ∨ ((t == ([] : List UInt8)) = false ∧ ((v : Int) == 0) = false) := by
        rcases hs with h | h
        · left; simp [h]
        · by_cases h2 : t = []
          · left; simp [h2]
          · right; exact ⟨by simpa using h2, by simpa using h⟩
      rcases ht with ht | ⟨ht, hv0⟩
      all_goals go_wp2_with fail
      all_goals rw [conv_byte wr v _ _ _ Tryz.underlying22 Tryz.underlying5 Tryz.underlying9]
      all_goals go_wp2_with fail
      all_goals go_roundw
      case rel => exact ⟨v / 10, dig v :: t, by go_num, congrArg Value.string (str_cons (dig v) t), by omega, Lib.hid (hL.out.step hs), gr_alloc hg _⟩
      case measure => simp only [intOf]; have := lt_step (v := v) t (dig v) hs; rw [show ((v : Int) / 10).toNat = v / 10 by omega]; simpa using this
      case rel => exact ⟨v / 10, dig v :: t, by go_num, congrArg Value.string (str_cons (dig v) t), by omega, Lib.hid (hL.out.step hs), gr_alloc hg _⟩
      case measure => simp only [intOf]; have := lt_step (v := v) t (dig v) hs; rw [show ((v : Int) / 10).toNat = v / 10 by omega]; simpa using this
    · have ht : (t == ([] : List UInt8)) = false := by
        have : t ≠ [] := fun h => hs (Or.inl h)
        simpa using this
      have hv0 : v = 0 := Decidable.byContradiction fun h => hs (Or.inr h)
      subst hv0
      go_wp2_with fail
      go_ret
      rw [hL.out.2 (fun h => hs (Or.inl h)) rfl]
      exact ⟨rfl, hg⟩

set_option maxRecDepth 100000 in
set_option maxHeartbeats 1000000 in
theorem specIntNeg (u : Nat) (w : World) (h0 : 0 < u) (hu : u < 1000000000) : Calls Tryz.prog 181 #[.int .i64 (-(u : Int))] w (Ret (str (45 :: Lib.decDigits u)) w) := by
  have hd : decide (-(u : Int) < 0) = true := by simp; omega
  go_enter Tryz.func181, Tryz.ntmps181
  go_wp2_with fail
  go_loopw [0, 3] (fun n s wr => ∃ (v : Nat) (t : List UInt8), n = .int .i64 (-(v : Int)) ∧ s = str t ∧ v ≤ u ∧ Hid (Left u v t) ∧ w.grownBy wr none) (fun n s _ => (-(intOf n)).toNat + (if (strOf s).length = 0 then 1 else 0))
  case atStart => exact ⟨u, [], rfl, rfl, Nat.le_refl _, Lib.hid (Left.start u), gr_refl _ _⟩
  case round =>
    obtain ⟨v, t, rfl, rfl, hv, hL, hg⟩ := hrel
    have hlen := hL.out.len hu
    have e1 : (-(v : Int)).tmod 10 = -((v : Int) % 10) := by rw [Int.neg_tmod, Int.tmod_eq_emod_of_nonneg (by omega)]
    have e2 : (-(v : Int)).tdiv 10 = -((v : Int) / 10) := by rw [Int.neg_tdiv, Int.tdiv_eq_ediv_of_nonneg (by omega)]
    by_cases hs : t = [] ∨ v ≠ 0
    · have ht : (t == ([] : List UInt8)) = true ∨ ((t == ([] : List UInt8)) = false ∧ (-(v : Int) == 0) = false) := by
        rcases hs with h | h
        · left; simp [h]
        · by_cases h2 : t = []
          · left; simp [h2]
          · right; exact ⟨by simpa using h2, by simp; omega⟩
      rcases ht with ht | ⟨ht, hv0⟩
      all_goals go_wp2_with fail
      all_goals first | rw [conv_byte wr v _ _ _ Tryz.underlying22 Tryz.underlying5 Tryz.underlying9] | rw [show (48 + -((v : Int) % 10)) = 48 + (v : Int) % 10 by omega, conv_byte wr v _ _ _ Tryz.underlying22 Tryz.underlying5 Tryz.underlying9]
      all_goals go_wp2_with fail
      all_goals go_roundw
      all_goals first
        | exact ⟨v / 10, dig v :: t, by go_num, congrArg Value.string (str_cons (dig v) t), by omega, Lib.hid (hL.out.step hs), gr_alloc hg _⟩
        | (simp only [intOf]; have := lt_step (v := v) t (dig v) hs; rw [show (-(-((v : Int) / 10))).toNat = v / 10 by omega, show (-(-(v : Int))).toNat = v by omega]; simpa using this)
    · have ht : (t == ([] : List UInt8)) = false := by
        have : t ≠ [] := fun h => hs (Or.inl h)
        simpa using this
      have hv0 : v = 0 := Decidable.byContradiction fun h => hs (Or.inr h)
      subst hv0
      go_wp2_with fail
      go_ret
      rw [hL.out.2 (fun h => hs (Or.inl h)) rfl]
      exact ⟨congrArg (fun b => Ending.returned (Value.string b)) (str_cons 45 t), hg⟩

theorem specInt (n : Int) (w : World) (h1 : -1000000000 < n) (h2 : n < 1000000000) : Calls Tryz.prog 181 #[.int .i64 n] w (Ret (str (Lib.itoa n)) w) := by
  unfold Lib.itoa
  by_cases h : n < 0
  · rw [if_pos h]
    have := specIntNeg n.natAbs w (by omega) (by omega)
    rwa [show -((n.natAbs : Nat) : Int) = n by omega] at this
  · rw [if_neg h]
    have := specIntPos n.toNat w (by omega)
    rwa [show ((n.toNat : Nat) : Int) = n by omega] at this

/-- The numbers with blanks between. -/
def words : List Int → List UInt8
  | [] => []
  | n :: ns => Lib.itoa n ++ blanks ns
theorem words_snoc (l : List Int) (v : Int) : words (l ++ [v]) = if l.length = 0 then Lib.itoa v else words l ++ 32 :: Lib.itoa v := by
  cases l with
  | nil => simp [words, blanks]
  | cons n ns => simp [words, blanks]
theorem itoa_len (n : Int) (h1 : -1000000000 < n) (h2 : n < 1000000000) : (Lib.itoa n).length ≤ 10 := by
  unfold Lib.itoa
  split
  · have := dec_len 8 n.natAbs (by simp; omega)
    simp; omega
  · have := dec_len 8 n.toNat (by simp; omega)
    omega
theorem blanks_len (l : List Int) (h : ∀ n ∈ l, -1000000000 < n ∧ n < 1000000000) : (blanks l).length ≤ 11 * l.length := by
  induction l with
  | nil => simp [blanks]
  | cons n ns ih =>
    rw [blanks_cons]
    have h1 := ih (fun x hx => h x (by simp [hx]))
    have h2 := itoa_len n (h n (by simp)).1 (h n (by simp)).2
    simp; omega
theorem words_len (l : List Int) (h : ∀ n ∈ l, -1000000000 < n ∧ n < 1000000000) : (words l).length ≤ 11 * l.length := by
  cases l with
  | nil => simp [words]
  | cons n ns =>
    have h1 := blanks_len ns (fun x hx => h x (by simp [hx]))
    have h2 := itoa_len n (h n (by simp)).1 (h n (by simp)).2
    simp [words]; omega
theorem words_take (l : List Int) (k : Nat) (h : k < l.length) : words (l.take (k + 1)) = if k = 0 then Lib.itoa (nth l k) else words (l.take k) ++ 32 :: Lib.itoa (nth l k) := by
  rw [nth_take h, words_snoc]
  have : (l.take k).length = k := by simp; omega
  rw [this]
theorem str_app (s t : List UInt8) : (ByteArray.mk s.toArray ++ ByteArray.mk t.toArray) = ByteArray.mk (s ++ t).toArray := ByteArray.mk_append_mk s t

set_option maxRecDepth 100000 in
set_option maxHeartbeats 1000000 in
theorem specInts (a : Option Addr) (cap : Nat) (l : List Int) (w : World) (h : Ints w a l) (hl : l.length ≤ 100) (hb : ∀ n ∈ l, -1000000000 < n ∧ n < 1000000000) :
    Calls Tryz.prog 182 #[.slice a l.length cap] w (Ret (str (words l)) w) := by
  go_enter Tryz.func182, Tryz.ntmps182
  go_wp2_with fail
  go_loopw [3, 4] (fun s i wr => ∃ k : Nat, k ≤ l.length ∧ i = .int .i64 k ∧ s = str (words (l.take k)) ∧ w.grownBy wr none) (fun s i _ => l.length - (intOf i).toNat)
  case atStart => exact ⟨0, Nat.zero_le _, rfl, rfl, gr_refl _ _⟩
  case round =>
    obtain ⟨k, hk, rfl, rfl, hg⟩ := hrel
    have hlen := words_len (l.take k) (fun n hn => hb n (List.mem_of_mem_take hn))
    have htl : (l.take k).length = k := by simp; omega
    rw [htl] at hlen
    clear htl
    by_cases hlt : k < l.length
    · obtain ⟨x, rfl, hbk, cx⟩ := (h.kept hg) k hlt
      have hn := hb _ (nth_mem hlt)
      have hil := itoa_len _ hn.1 hn.2
      have hw := words_take l k hlt
      have hc := fun W => specInt (nth l k) W hn.1 hn.2
      have HW := Lib.hid hw
      clear hw
      have hS0 : k = 0 → words (l.take k) = [] := fun e => by subst e; rfl
      generalize hS : words (l.take k) = S at *
      clear hS
      by_cases hk0 : k = 0
      · subst hk0
        have ea : x.add 0 = x := by unfold Addr.add; simp
        rw [ea] at cx
        clear ea
        go_wp2_with fail
        refine (hc _).mono ?_
        rintro e w1 ⟨rfl, hg1⟩
        go_wp2_with fail
        go_roundw
        case rel => exact ⟨1, by omega, rfl, by have e := HW.out; simp only [if_true] at e; rw [show (1 : Nat) = 0 + 1 from rfl, e]; exact congrArg Value.string (str_app [] _), gr_trans hg hg1⟩
        case measure => simp [intOf]; omega
      · go_wp2_with fail
        refine (hc _).mono ?_
        rintro e w1 ⟨rfl, hg1⟩
        go_wp2_with fail
        go_roundw
        case rel => exact ⟨k + 1, by omega, by go_num, by rw [HW.out, if_neg hk0]; exact congrArg Value.string (by rw [str_app S [32], str_app]; simp), gr_trans hg hg1⟩
        case measure => simp [intOf]; omega
    · obtain rfl : k = l.length := by omega
      go_wp2_with fail
      go_ret
      rw [List.take_length]
      exact ⟨rfl, hg⟩
end Go.Proofs.YtdikhdfpcipdbaaGreatDoor.frm

/- ShowFrame of the model. -/
namespace Go.Proofs.YtdikhdfpcipdbaaGreatDoor.frm
open Go.ChangeShapes Go.WideShapes Go.ChangeAt Go.RowKit
open Go.Proofs.YtdikhdfpcipdbaaGreatDoor.nums Go.Proofs.YtdikhdfpcipdbaaGreatDoor.mem Go.Proofs.YtdikhdfpcipdbaaGreatDoor.txt Go.Proofs.YtdikhdfpcipdbaaGreatDoor.fix
open Go.Proofs.YtdikhdfpcipdbaaGreatDoor.tab (Ret quiet_w wpList_make_has)
set_option linter.unusedVariables false

theorem letter_cut (k : Int) (h1 : 1 ≤ k) (h2 : k ≤ 4) : (ByteArray.mk #[83, 72, 70, 80]).extract (k.toNat - 1) k.toNat = ByteArray.mk [letter k].toArray := by
  have hk : k = 1 ∨ k = 2 ∨ k = 3 ∨ k = 4 := by omega
  rcases hk with rfl | rfl | rfl | rfl <;> decide +kernel
theorem app6 (a b c d e f : List UInt8) : (ByteArray.mk a.toArray ++ ByteArray.mk b.toArray ++ ByteArray.mk c.toArray ++ ByteArray.mk d.toArray ++ ByteArray.mk e.toArray ++ ByteArray.mk f.toArray) = ByteArray.mk (a ++ b ++ c ++ d ++ e ++ f).toArray := by simp only [ByteArray.mk_append_mk]
theorem app4 (a b c d : List UInt8) : (ByteArray.mk a.toArray ++ ByteArray.mk b.toArray ++ ByteArray.mk c.toArray ++ ByteArray.mk d.toArray) = ByteArray.mk (a ++ b ++ c ++ d).toArray := by simp only [ByteArray.mk_append_mk]
theorem aheadF_len {k sq : Int} {l : List Int} (h : okF k sq l = true) : (aheadF k sq l).length ≤ 100 := by
  have h1 := blanks_len (sq :: l) (okF_small h)
  have h2 := okF_short h
  simp [aheadF]; simp at h1; omega
theorem aheadF_words (k sq : Int) (l : List Int) (hl : l ≠ []) : aheadF k sq l = letter k :: 32 :: (Lib.itoa sq ++ 32 :: (words l ++ [32])) := by
  cases l with
  | nil => exact absurd rfl hl
  | cons n ns => simp [aheadF, blanks_cons, words]
theorem okF_ne {k sq : Int} {l : List Int} (h : okF k sq l = true) : l ≠ [] := by
  obtain ⟨h1, h2, _, _, h5, _⟩ := okF_parts h
  intro e
  rw [e] at h5
  have hk : k = 1 ∨ k = 2 ∨ k = 3 ∨ k = 4 := by omega
  rcases hk with rfl | rfl | rfl | rfl <;> simp [many] at h5

set_option maxRecDepth 100000 in
set_option maxHeartbeats 2000000 in
theorem specShow (k sq : Int) (a : Option Addr) (cap : Nat) (l : List Int) (w : World) (h : Ints w a l) (hl : l.length ≤ maxLen) :
    Calls Tryz.prog 168 #[fr k sq a l.length cap] w (Ret (str (showF k sq l)) w) := by
  have g0 := World.grownBy_alloc w (Obj.cells #[.int .i64 k, .int .i64 sq, .slice a l.length cap] 50) none
  have H0 := Has.fresh w 50 #[.int .i64 k, .int .i64 sq, .slice a l.length cap]
  have cO := fun W hW => specFrameOk k sq a cap l W hW hl
  cases ho : okF k sq l
  · rw [showF_not ho]
    rw [ho] at cO
    clear ho
    go_enter Tryz.func168, Tryz.ntmps168
    go_wp2_with fail
    refine (cO _ (h.kept g0)).mono ?_
    rintro e w1 ⟨rfl, hg1⟩
    go_wp2_with fail
    go_ret
    exact ⟨rfl, gr_trans g0 hg1⟩
  · rw [showF_ok ho]
    have hA := aheadF_len ho
    have hE := aheadF_words k sq l (okF_ne ho)
    have hsm := okF_small ho
    have h6 := okF_short ho
    obtain ⟨k1, k2, _⟩ := okF_parts ho
    have hx := letter_cut k k1 k2
    have hw1 : IntKind.i64.wrap (k - 1) = k - 1 := IntWalk.i64_in _ (by omega)
    have hw2 : 0 ≤ k - 1 := by omega
    have hw3 : k - 1 ≤ k := by omega
    rw [ho] at cO
    have cI := fun W => specInt sq W (hsm sq (by simp)).1 (hsm sq (by simp)).2
    have cL := fun W hW => specInts a cap l W hW (by omega) (fun n hn => hsm n (by simp [hn]))
    have cS := fun W => specSum (aheadF k sq l) W (by unfold maxLen; omega)
    have s1 := sumL_ge (aheadF k sq l)
    have s2 := sumL_le (aheadF k sq l)
    have cJ := fun W => specInt (sumL (aheadF k sq l)) W (by omega) (by omega)
    have lq := itoa_len sq (hsm sq (by simp)).1 (hsm sq (by simp)).2
    have lw := words_len l (fun n hn => hsm n (by simp [hn]))
    have lj := itoa_len (sumL (aheadF k sq l)) (by omega) (by omega)
    clear ho hsm s1 s2
    generalize hJ : Lib.itoa (sumL (aheadF k sq l)) = J at *
    generalize hB : behind (aheadF k sq l) = B at *
    generalize words l = W0 at *
    generalize Lib.itoa sq = I0 at *
    go_enter Tryz.func168, Tryz.ntmps168
    go_wp2_with fail
    refine (cO _ (h.kept g0)).mono ?_
    rintro e w1 ⟨rfl, hg1⟩
    replace H0 := H0.grown hg1 (by simp)
    replace g0 := gr_trans g0 hg1
    clear hg1
    obtain ⟨c0, c1, c2, _, _, _⟩ := three H0
    have d0 : ∀ d os, (Go.Sort.grow (redrawn w1 d) os).cell? ⟨w.heap.size, 0, none⟩ = some (.int .i64 k) := cell_regrown c0
    have d1 : ∀ d os, (Go.Sort.grow (redrawn w1 d) os).cell? ⟨w.heap.size, 1, none⟩ = some (.int .i64 sq) := cell_regrown c1
    have d2 : ∀ d os, (Go.Sort.grow (redrawn w1 d) os).cell? ⟨w.heap.size, 2, none⟩ = some (.slice a l.length cap) := cell_regrown c2
    have n1 : (9223372036854775807 < 2 + I0.length) = False := eq_false (by omega)
    have n2 : (9223372036854775807 < 2 + I0.length + 1) = False := eq_false (by omega)
    have n3 : (9223372036854775807 < 2 + I0.length + 1 + W0.length) = False := eq_false (by omega)
    have n4 : (9223372036854775807 < 2 + I0.length + 1 + W0.length + 1) = False := eq_false (by omega)
    go_wp2_with fail
    refine wp_region_quiet_below (by kernel_rfl) (by kernel_rfl) ?_
    repeat (quiet_step (first | (go_at_call 181; exact rg_ret (cI _)) | (go_at_call 182; exact rg_ret (cL _ ((h.kept g0).kept (gr_rg _ _ _))))))
    refine wpQuiet_nil ?_
    intro _ hw'
    obtain ⟨⟨dq, osq⟩, hw''⟩ := hw'
    subst hw''
    clear n1 n2 n3 n4 hw1 hw2 hw3
    replace g0 := gr_trans g0 (gr_rg w1 dq osq)
    generalize Go.Sort.grow (redrawn w1 dq) osq = w2 at *
    have eA : (ByteArray.mk #[letter k] ++ ByteArray.mk #[32] ++ ByteArray.mk I0.toArray ++ ByteArray.mk #[32] ++ ByteArray.mk W0.toArray ++ ByteArray.mk #[32]) = ByteArray.mk (aheadF k sq l).toArray := by
      exact (app6 [letter k] [32] I0 [32] W0 [32]).trans (by rw [hE]; simp)
    rw [eA]
    generalize hAA : aheadF k sq l = A at *
    clear eA hE hx hAA
    go_wp2_with fail
    refine (cS _).mono ?_
    rintro e w3 ⟨rfl, rfl⟩
    go_wp2_with fail
    refine (cJ _).mono ?_
    rintro e w4 ⟨rfl, hg4⟩
    go_wp2_with fail
    go_ret
    refine ⟨congrArg (fun b => Ending.returned (Value.string b)) ((app4 A [42] J [10]).trans ?_), gr_trans g0 hg4⟩
    rw [← hB, behind, hJ]
    simp
end Go.Proofs.YtdikhdfpcipdbaaGreatDoor.frm

