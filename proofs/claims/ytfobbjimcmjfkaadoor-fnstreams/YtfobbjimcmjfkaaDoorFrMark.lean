/- Marks in the memory of an answer: markFrame, heldFrame. -/
import Derived.Test.YtfobbjimcmjfkaaDoorFrReadS
namespace Go.Proofs.YtfobbjimcmjfkaaDoor.frm
open Go.ChangeShapes Go.WideShapes Go.ChangeAt Go.RowKit
open Go.Proofs.YtfobbjimcmjfkaaDoor.nums Go.Proofs.YtfobbjimcmjfkaaDoor.mem Go.Proofs.YtfobbjimcmjfkaaDoor.txt Go.Proofs.YtfobbjimcmjfkaaDoor.fix
open Go.Proofs.YtfobbjimcmjfkaaDoor.tab (Ret quiet_w wpList_make_has)
set_option linter.unusedVariables false

def OwnE (base : Nat) (w : World) (a : Option Addr) (vs : List Int) : Prop := vs = [] ∨ Own base w a vs
theorem OwnE.ints {base : Nat} {w : World} {a : Option Addr} {vs : List Int} (h : OwnE base w a vs) : Ints w a vs := by
  rcases h with rfl | h
  · exact Ints.nil _ _
  · exact h.ints
theorem OwnE.grown {base : Nat} {w w' : World} {a : Option Addr} {vs : List Int} {row : Option Nat} (h : OwnE base w a vs) (hg : w.grownBy w' row) (hn : ∀ g, base ≤ g → some g ≠ row) : OwnE base w' a vs := h.imp id (fun h => h.grown hg hn)
theorem OwnE.kept {base : Nat} {w w' : World} {a : Option Addr} {vs : List Int} (h : OwnE base w a vs) (hg : w.grownBy w' none) : OwnE base w' a vs := h.imp id (fun h => h.kept hg)
/-- What is read, as the answer tells it. -/
def dec : Option (Int × Int × List Int) → Int × Int × List Int × Bool
  | some (k, sq, vs) => (k, sq, vs, true)
  | none => (0, 0, [], false)
theorem ReadOut.got {r : Option (Int × Int × List Int)} {w w' : World} {e : Ending} {k sq : Int} {vs : List Int} {is : Bool} (h : ReadOut r w e w') (hd : dec r = (k, sq, vs, is)) : ∃ a cap, e = .returned (.tuple #[fr k sq a vs.length cap, .bool is]) ∧ OwnE w.heap.size w' a vs ∧ w.grownBy w' none := by
  obtain ⟨hg, h⟩ := h
  match r with
  | some (k', sq', vs') =>
    simp only [dec, Prod.mk.injEq] at hd
    obtain ⟨rfl, rfl, rfl, rfl⟩ := hd
    obtain ⟨a, cap, he, ho⟩ := h
    exact ⟨a, cap, he, Or.inr ho, hg⟩
  | none =>
    simp only [dec, Prod.mk.injEq] at hd
    obtain ⟨rfl, rfl, rfl, rfl⟩ := hd
    exact ⟨none, 0, h, Or.inl rfl, hg⟩
theorem dec_len {l : List UInt8} {r : Option (Int × Int × List Int)} {k sq : Int} {vs : List Int} {is : Bool} (h : IsRead l r) (hd : dec r = (k, sq, vs, is)) : vs.length ≤ 6 := by
  match r with
  | some (k', sq', vs') =>
    simp only [dec, Prod.mk.injEq] at hd
    obtain ⟨rfl, rfl, rfl, rfl⟩ := hd
    exact okF_short h.1
  | none =>
    simp only [dec, Prod.mk.injEq] at hd
    obtain ⟨rfl, rfl, rfl, rfl⟩ := hd
    simp
def marks (n : Nat) : List Int := (List.range n).map fun (j : Nat) => (j : Int) + 1
theorem marks_len (n : Nat) : (marks n).length = n := by simp [marks]
theorem marks_at {n j : Nat} (h : j < n) : nth (marks n) j = (j : Int) + 1 := by rw [nth_lt (by rw [marks_len]; exact h)]; simp [marks]

/-- The marks are laid. -/
def Marked (base n : Nat) (a : Option Addr) (w : World) (e : Ending) (w' : World) : Prop := e = .returned (.int .i64 ((n : Int) + 1)) ∧ (∃ row, w.grownBy w' row ∧ ∀ q, row = some q → base ≤ q ∧ ∃ cs, Has w q 2 cs) ∧ OwnE base w' a (marks n)

set_option maxHeartbeats 1000000 in
theorem markInts (base : Nat) (a : Option Addr) (cap : Nat) (vs : List Int) (w : World) (h : OwnE base w a vs) (hl : vs.length ≤ 100) : Calls Tryd.prog 49 #[.slice a vs.length cap, .int .i64 1] w (Marked base vs.length a w) := by
  rcases h with rfl | ⟨g, o, cs, ha, hb, hc, hj⟩
  · go_enter Tryd.func49, Tryd.ntmps49
    go_wp2_with fail
    go_loopw [1, 5] (fun m i wr => w = wr ∧ m = .int .i64 1 ∧ i = .int .i64 0) (fun _ _ _ => 0)
    case atStart => exact ⟨rfl, rfl, rfl⟩
    case round =>
      obtain ⟨rfl, rfl, rfl⟩ := hrel
      go_wp2_with fail
      go_ret
      exact ⟨rfl, ⟨none, gr_refl _ _, fun q e => by cases e⟩, Or.inl rfl⟩
  · go_enter Tryd.func49, Tryd.ntmps49
    go_wp2_with fail
    go_loopw [1, 5] (fun m i wr => ∃ (k : Nat) (A : Array Value), k ≤ vs.length ∧ i = .int .i64 k ∧ m = .int .i64 ((k : Int) + 1) ∧ Has wr g 2 A ∧ Hid (∀ j, j < vs.length → ∃ u, A[o + j]? = some u) ∧ Hid (∀ j, j < k → A[o + j]? = some (.int .i64 ((j : Int) + 1))) ∧ w.grownBy wr (some g)) (fun m i _ => vs.length - (intOf i).toNat)
    case atStart => exact ⟨0, cs, Nat.zero_le _, rfl, rfl, hc, Lib.hid (fun j hj' => ⟨_, hj j hj'⟩), Lib.hid (fun j hj' => by omega), gr_refl _ _⟩
    case round =>
      obtain ⟨k, A, hk, rfl, rfl, hA, hs, hr, hg⟩ := hrel
      by_cases hlt : k < vs.length
      · have ha' := ha (fun e => by rw [e] at hlt; simp at hlt)
        subst ha'
        obtain ⟨u, hu⟩ := hs.out k hlt
        have d0 := (hA.cell (o + k)).trans hu
        have f0 := hA.frozen (o + k)
        have hsz : o + k < A.size := (Array.getElem?_eq_some_iff.1 hu).1
        clear hu
        go_wp2_with fail
        go_roundw
        case rel => exact ⟨k + 1, _, by omega, by go_num, by go_num, hA.set _ _, Lib.hid (fun j hj' => by
            by_cases e : j = k
            · subst e; exact ⟨_, Array.getElem?_setIfInBounds_self_of_lt hsz⟩
            · rw [Array.getElem?_setIfInBounds_ne (by omega)]; exact hs.out j hj'), Lib.hid (fun j hj' => by
            by_cases e : j = k
            · subst e; exact Array.getElem?_setIfInBounds_self_of_lt hsz
            · rw [Array.getElem?_setIfInBounds_ne (by omega)]; exact hr.out j (by omega)), gr_set hg _ _⟩
        case measure => simp [intOf]; omega
      · obtain rfl : k = vs.length := by omega
        go_wp2_with fail
        go_ret
        refine ⟨rfl, ⟨some g, hg, fun q e => by injection e with e; subst e; exact ⟨hb, cs, hc⟩⟩, Or.inr ⟨g, o, A, fun hn => ha (fun e => hn (by rw [e]; rfl)), hb, hA, fun j hj' => ?_⟩⟩
        rw [marks_len] at hj'
        rw [hr.out j hj', marks_at hj']

set_option maxHeartbeats 1000000 in
theorem heldInts (a : Option Addr) (cap n : Nat) (w : World) (h : Ints w a (marks n)) (hl : n ≤ 100) : Calls Tryd.prog 50 #[.slice a n cap, .int .i64 1] w (Ret (.int .i64 ((n : Int) + 1)) w) := by
  go_enter Tryd.func50, Tryd.ntmps50
  go_wp2_with fail
  go_loopw [1, 5] (fun m i wr => ∃ k : Nat, k ≤ n ∧ i = .int .i64 k ∧ m = .int .i64 ((k : Int) + 1) ∧ w.grownBy wr none) (fun m i _ => n - (intOf i).toNat)
  case atStart => exact ⟨0, Nat.zero_le _, rfl, rfl, gr_refl _ _⟩
  case round =>
    obtain ⟨k, hk, rfl, rfl, hg⟩ := hrel
    by_cases hlt : k < n
    · obtain ⟨x, rfl, _, cx⟩ := (h.kept hg) k (by rw [marks_len]; exact hlt)
      rw [marks_at hlt] at cx
      go_wp2_with fail
      go_roundw
      case rel => exact ⟨k + 1, by omega, by go_num, by go_num, hg⟩
      case measure => simp [intOf]; omega
    · obtain rfl : k = n := by omega
      go_wp2_with fail
      go_ret
      exact ⟨rfl, hg⟩

theorem markFrame (base : Nat) (k sq : Int) (a : Option Addr) (cap : Nat) (vs : List Int) (w : World) (h : OwnE base w a vs) (hb : base ≤ w.heap.size) (hl : vs.length ≤ 100) : Calls Tryd.prog 27 #[fr k sq a vs.length cap, .int .i64 1] w (Marked base vs.length a w) := by
  have g0 := World.grownBy_alloc w (Obj.cells #[.int .i64 k, .int .i64 sq, .slice a vs.length cap] 37) none
  go_enter Tryd.func27, Tryd.ntmps27
  go_wp2_with fail
  refine (markInts base a cap vs _ (h.kept g0) hl).mono ?_
  rintro e w1 ⟨rfl, ⟨row, hgr, hq⟩, hO⟩
  go_wp2_with fail
  go_ret
  refine ⟨rfl, ⟨row, gr_trans (gr_none g0 _) hgr, fun q e => ?_⟩, hO⟩
  obtain ⟨h1, cs, h2⟩ := hq q e
  refine ⟨h1, cs, ?_⟩
  have hlt := h2.lt
  by_cases hqs : q = w.heap.size
  · subst hqs
    have h3 := Has.fresh w 37 #[.int .i64 k, .int .i64 sq, .slice a vs.length cap]
    have h4 := h2.symm.trans h3
    simp at h4
  · have h5 : q < w.heap.size := by simp at hlt; omega
    exact (Below.heap_alloc w _ q h5).symm.trans h2
theorem Has.marked {w w' : World} {b base : Nat} {t : TypeId} {cs : Array Value} {row : Option Nat} (h : Has w b t cs) (hg : w.grownBy w' row) (hq : ∀ q, row = some q → base ≤ q ∧ ∃ cs, Has w q 2 cs) (hb : b < base ∨ t ≠ 2) : Has w' b t cs := by
  refine h.grown hg (fun e => ?_)
  obtain ⟨h1, cs', h2⟩ := hq b e.symm
  rcases hb with hb | hb
  · omega
  · have h4 := h.symm.trans h2
    simp at h4
    exact hb h4.2
theorem gr_marked {w0 w w' : World} {base : Nat} {row : Option Nat} (h0 : w0.grownBy w none) (hg : w.grownBy w' row) (hq : ∀ q, row = some q → base ≤ q ∧ ∃ cs, Has w q 2 cs) (hb : w0.heap.size ≤ base) : w0.grownBy w' none := by
  cases row with
  | none => exact gr_trans h0 hg
  | some q => exact gr_past h0 hg (by have := (hq q rfl).1; omega)
theorem heldFrame (k sq : Int) (a : Option Addr) (cap n : Nat) (w : World) (h : Ints w a (marks n)) (hl : n ≤ 100) : Calls Tryd.prog 28 #[fr k sq a n cap, .int .i64 1] w (Ret (.int .i64 ((n : Int) + 1)) w) := by
  have g0 := World.grownBy_alloc w (Obj.cells #[.int .i64 k, .int .i64 sq, .slice a n cap] 37) none
  go_enter Tryd.func28, Tryd.ntmps28
  go_wp2_with fail
  refine (heldInts a cap n _ (h.kept g0) hl).mono ?_
  rintro e w1 ⟨rfl, hgr⟩
  go_wp2_with fail
  go_ret
  exact ⟨rfl, gr_trans g0 hgr⟩
end Go.Proofs.YtfobbjimcmjfkaaDoor.frm
