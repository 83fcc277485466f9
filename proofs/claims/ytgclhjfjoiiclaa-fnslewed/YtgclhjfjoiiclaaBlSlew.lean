/- Slewed of the program. -/
import Derived.Test.YtgclhjfjoiiclaaBl
import Derived.Test.YtgclhjfjoiiclaaShLaid
import Derived.Test.YtgclhjfjoiiclaaIlT
import Derived.Test.YtgclhjfjoiiclaaQuietTail
import Derived.Deep.DeepCutAuto
import Derived.Laws.CopyOwn
namespace Go.Proofs.Ytgclhjfjoiiclaa.bl
open Go.ChangeShapes Go.WideShapes Go.ChangeAt Go.RowKit
open Go.Proofs.Ytgclhjfjoiiclaa.nums Go.Proofs.Ytgclhjfjoiiclaa.mem
open Go.Proofs.Ytgclhjfjoiiclaa.fix (ret_int ret_bool)
open Go.Proofs.Ytgclhjfjoiiclaa.tab (Ret quiet_w)
open Go.Proofs.Ytgclhjfjoiiclaa.il (nth Ints vals RetT OwnT blk blk_some blk_nil)
set_option linter.unusedVariables false

def okO (n : Int) : Bool := inb n 0 1000
theorem ok_bd {n : Int} (h : okO n = true) : 0 ≤ n ∧ n ≤ 1000 := by unfold okO inb at h; simpa using h
theorem all_not (l : List Int) (k : Nat) (h : k < l.length) (hs : okO (nth l k) = false) : l.all okO = false := by
  rw [List.all_eq_false]
  exact ⟨nth l k, il.nth_mem h, by rw [hs]; simp⟩
theorem all_of {l : List Int} (h : ∀ j, j < l.length → okO (nth l j) = true) : l.all okO = true := by
  rw [List.all_eq_true]
  intro x hx
  obtain ⟨j, hj, rfl⟩ := List.getElem_of_mem hx
  rw [← il.nth_lt hj]; exact h j hj
theorem all_at {l : List Int} (h : l.all okO = true) {k : Nat} (hk : k < l.length) : okO (nth l k) = true := List.all_eq_true.1 h _ (il.nth_mem hk)
def okA (l : List Int) : Bool := decide (l.length ≤ 7) && l.all okO
/-- Both are Outs, and as many. -/
def okAB (x y : List Int) : Bool := decide (x.length = y.length) && (okA x && okA y)
def slewTo (x y : List Int) (s : Int) (k : Nat) : List Int := (List.range k).map fun j => one (nth x j) (nth y j) s
/-- What is slewed. -/
def slew (x y : List Int) (s : Int) : List Int := if okAB x y = true then slewTo x y s x.length else []
theorem slew_no {x y : List Int} (h : okAB x y = false) (s : Int) : slew x y s = [] := by unfold slew; rw [h]; rfl
theorem slew_yes {x y : List Int} (h : okAB x y = true) (s : Int) : slew x y s = slewTo x y s x.length := if_pos h
theorem to_len (x y : List Int) (s : Int) (k : Nat) : (slewTo x y s k).length = k := by simp [slewTo]
theorem to_at {x y : List Int} {s : Int} {k j : Nat} (h : j < k) : nth (slewTo x y s k) j = one (nth x j) (nth y j) s := by
  rw [il.nth_lt (by rw [to_len]; exact h)]; simp [slewTo]
theorem to_succ (x y : List Int) (s : Int) (k : Nat) : slewTo x y s (k + 1) = slewTo x y s k ++ [one (nth x k) (nth y k) s] := by simp [slewTo, List.range_succ]
theorem ok_len {x y : List Int} (h : okAB x y = true) : x.length = y.length ∧ x.length ≤ 7 ∧ okA x = true ∧ okA y = true := by
  unfold okAB at h
  simp only [Bool.and_eq_true, decide_eq_true_eq] at h
  have h2 := h.2.1
  unfold okA at h2
  simp only [Bool.and_eq_true, decide_eq_true_eq] at h2
  exact ⟨h.1, h2.1, h.2.1, h.2.2⟩
theorem slew_len (x y : List Int) (s : Int) : (slew x y s).length ≤ 7 := by
  cases h : okAB x y
  · rw [slew_no h]; simp
  · rw [slew_yes h, to_len]; exact (ok_len h).2.1

theorem implOutOk (n : Int) (w : World) :
    Calls Try.prog 63 #[.int .i64 n] w fun e w' => e = .returned (.bool (okO n)) ∧ w = w' := sh.implOutOk n w

theorem implOne (a b s : Int) (w : World) :
    Calls Try.prog 52 #[.int .i64 a, .int .i64 b, .int .i64 s] w fun e w' => e = .returned (.int .i64 (one a b s)) ∧ w = w' := by
  by_cases h : b = 0
  · subst h
    rw [one_zero]
    go_enter Try.func52, Try.ntmps52
    go_wp2_with fail
    go_ret
    exact ⟨rfl, rfl⟩
  · rw [one_else a s h]
    have e : (b == 0) = false := by simpa using h
    go_enter Try.func52, Try.ntmps52
    go_wp2_with (go_at_call 64; refine (fix.implToward _ _ _ _).mono ?_; rintro e w' ⟨rfl, rfl⟩)
    go_ret
    exact ⟨rfl, rfl⟩

set_option maxHeartbeats 1000000 in
theorem implOutsOk (a : Option Addr) (cap : Nat) (l : List Int) (w : World) (h : Ints w a l) (hl : l.length ≤ maxLen) :
    Calls Try.prog 50 #[.slice a l.length cap] w fun e w' => e = .returned (.bool (okA l)) ∧ w = w' := by
  have hm : l.length ≤ 9223372036854775807 := by unfold maxLen at hl; exact hl
  clear hl
  by_cases h7 : l.length ≤ 7
  · have hd : decide (7 < (l.length : Int)) = false := by simp; omega
    go_enter Try.func50, Try.ntmps50
    go_wp2_with fail
    clear hd
    go_loopw [10] (fun i wr => wr = w ∧ ∃ k : Nat, k ≤ l.length ∧ i = .int .i64 k ∧ Hid (∀ j, j < k → okO (nth l j) = true)) (fun i _ => l.length - (intOf i).toNat)
    case atStart => exact ⟨rfl, 0, Nat.zero_le _, rfl, Lib.hid (fun j hj => by omega)⟩
    case round =>
      obtain ⟨rfl, k, hk, rfl, hs⟩ := hrel
      by_cases hlt : k < l.length
      · obtain ⟨x, rfl, hb, cx⟩ := h k hlt
        have cO := implOutOk (nth l k)
        obtain ⟨o, ho⟩ : ∃ o, okO (nth l k) = o := ⟨_, rfl⟩
        rw [ho] at cO
        have HO := Lib.hid ho
        clear ho
        cases o
        · go_wp2_with (go_at_call 63; refine (cO _).mono ?_; rintro e w' ⟨rfl, rfl⟩)
          go_ret
          exact ⟨by unfold okA; rw [all_not l k hlt HO.out]; simp, rfl⟩
        · go_wp2_with (go_at_call 63; refine (cO _).mono ?_; rintro e w' ⟨rfl, rfl⟩)
          go_roundw
          case rel => exact ⟨trivial, k + 1, by omega, by go_num, Lib.hid (fun j hj => by
            by_cases e : j = k
            · subst e; exact HO.out
            · exact hs.out j (by omega))⟩
          case measure => simp [intOf]; omega
      · obtain rfl : k = l.length := by omega
        go_wp2_with fail
        go_ret
        exact ⟨by unfold okA; rw [all_of hs.out]; simp [h7], rfl⟩
  · have hd : decide (7 < (l.length : Int)) = true := by simp; omega
    have ho : okA l = false := by unfold okA; simp [h7]
    rw [ho]
    clear ho
    go_enter Try.func50, Try.ntmps50
    go_wp2_with fail
    go_ret
    exact ⟨rfl, rfl⟩

theorem cut7 (g n : Nat) (hn : n ≤ 7) (W : World) : (Instr.sliceAt 74 (.pointer (some ⟨g, 0, none⟩)) none (some (.int .i64 (n : Int))) (some (.int .i64 (n : Int)))).run Try.prog W = .ok (.slice (some ⟨g, 0, none⟩) n n) W := by
  have hl : Try.prog.arrayLen 74 = 7 := by kernel_rfl
  have he : Try.prog.elem 74 = 2 := by kernel_rfl
  obtain ⟨i0, hi, hz0, hz1, hz2⟩ := info_parts il.infoInt
  rw [run_sliceAt_array_hm (P := Try.prog) W 74 ⟨g, 0, none⟩ (by rw [hl, he]; exact Try.underlying74) .i64 .i64 (n : Int) (n : Int) (by omega) (Int.le_refl _) (by rw [hl]; omega), he]
  simp [sizeOf, typeInfo, hi, hz1, slicedAt, il.add0]

/-- A copy in an array of one's own. -/
def CopyOf (l : List Int) (w : World) (e : Ending) (w' : World) : Prop :=
  e = .returned (.slice (some ⟨w.heap.size, 0, none⟩) l.length l.length) ∧ w.grownBy w' none ∧ ∃ cs, Has w' w.heap.size 74 cs ∧ ∀ k, k < l.length → cs[k]? = some (.int .i64 (nth l k))
abbrev zero7 : List Value := [.int .i64 0, .int .i64 0, .int .i64 0, .int .i64 0, .int .i64 0, .int .i64 0, .int .i64 0]
theorem splice_at {L : List Value} {l : List Int} {k : Nat} (h : k < l.length) : (splice L 0 (vals l)).toArray[k]? = some (.int .i64 (nth l k)) := by
  simp only [splice, List.take_zero, List.nil_append, List.getElem?_toArray]
  rw [List.getElem?_append_left (by simpa [vals] using h), il.nth_lt h]
  simp [vals, h]

set_option maxRecDepth 100000 in
set_option maxHeartbeats 2000000 in
theorem copied (a : Option Addr) (cap : Nat) (l : List Int) (w : World) (h : Ints w a l) (hl : l.length ≤ 7) : Calls Try.prog 51 #[.slice a l.length cap] w (CopyOf l w) := by
  have hcut := cut7 w.heap.size l.length hl
  obtain ⟨i0, hi, hz0, hz1, hz2⟩ := info_parts il.infoInt
  have hA := Has.fresh w 74 zero7.toArray
  have hI := h.kept (World.grownBy_alloc w (Obj.cells zero7.toArray 74) none)
  have hsrc : 0 < l.length → ∃ ad, a = some ad ∧ ∀ (j : Nat) (v : Value), (vals l)[j]? = some v → (w.alloc (Obj.cells zero7.toArray 74)).cell? (ad.add j) = some v := fun h0 => by
    obtain ⟨x, ex, _, _⟩ := hI 0 h0
    refine ⟨x, ex, fun j v hv => ?_⟩
    have hj : j < l.length := by have := (List.getElem?_eq_some_iff.1 hv).1; simpa [vals] using this
    obtain ⟨y, ey, _, cy⟩ := hI j hj
    rw [ex] at ey
    injection ey with ey
    subst ey
    rw [cy, ← hv, il.nth_lt hj]
    simp [vals, hj]
  have hB : Below w.heap.size w (w.alloc (Obj.cells zero7.toArray 74)) := below_of_none (World.grownBy_alloc _ _ _)
  go_enter Try.func51, Try.ntmps51
  go_wp2_with (refine wpList_copy_splice rfl (.tmp 10) (.tmp 11) 34 34 rfl 2 Try.underlying34 (by rw [hi]; simpa using hz1) (some ⟨w.heap.size, 0, none⟩) a l.length l.length l.length cap rfl rfl w.heap.size 0 zero7 74 hA (vals l) (by simp [vals]) (fun h0 => ⟨rfl, hsrc (by simpa [vals] using h0)⟩) (by simpa [vals] using hl) (il.vals_one l) w.heap.size w hB (Nat.le_refl _) ?_; intro w2 HG2 hB2)
  go_ret
  exact ⟨rfl, gr_of_below hB2 none, _, HG2.out, fun k hk => splice_at hk⟩
end Go.Proofs.Ytgclhjfjoiiclaa.bl
