/- The draws of chapter 6, continued: lists; a reading and a number. -/
import Derived.Test.YtdikhdfpcipdbaaGreatDoorRdDraw
namespace Go.Proofs.YtdikhdfpcipdbaaGreatDoor.rd
open Go.ChangeShapes Go.WideShapes Go.ChangeAt Go.RowKit
open Go.Proofs.YtdikhdfpcipdbaaGreatDoor.nums Go.Proofs.YtdikhdfpcipdbaaGreatDoor.mem Go.Proofs.YtdikhdfpcipdbaaGreatDoor.cur
open Go.Proofs.YtdikhdfpcipdbaaGreatDoor.tab (Ret quiet_w wpList_make_has add_off)
set_option linter.unusedVariables false

/-- All are numbers that a draw gives. -/
def RngL (l : List R) : Prop := ∀ r ∈ l, In64 r.1 ∧ -1 ≤ r.2.1 ∧ r.2.1 ≤ 1001
theorem RngL.snoc {l : List R} (h : RngL l) {r : R} (hr : In64 r.1 ∧ -1 ≤ r.2.1 ∧ r.2.1 ≤ 1001) : RngL (l ++ [r]) := fun s hs => by
  rcases List.mem_append.1 hs with h1 | h1
  · exact h s h1
  · have e : s = r := by simpa using h1
    rw [e]; exact hr
/-- A draw of m readings from the cursor in block q, in a row of new memory. -/
def DrawnL (m : Nat) (b : Option Addr) (n c : Nat) (w : World) (q : Nat) (e : Ending) (w' : World) : Prop :=
  ∃ (g cap : Nat) (l : List R), e = .returned (.slice (some ⟨g, 0, none⟩) l.length cap) ∧ l.length = m ∧ RngL l ∧ w.heap.size ≤ g ∧ w.grownBy w' (some q) ∧ Cur b n c w' q ∧ w'.ownsRow w.heap.size 42 3 (.slice (some ⟨g, 0, none⟩) l.length cap) l.length (rowR l)

theorem row_kept {w w' : World} {base k cap g q : Nat} {e : TypeId} {xs : List Value} (h : w.ownsRow base e 3 (.slice (some ⟨g, 0, none⟩) k cap) k xs) (hg : w.grownBy w' (some q)) (hq : q < base) : w'.ownsRow base e 3 (.slice (some ⟨g, 0, none⟩) k cap) k xs := by
  have := (h.lt g rfl).1
  exact h.kept hg (.inr (by simp [Value.ownBlock]; omega))

set_option maxRecDepth 100000 in
set_option maxHeartbeats 4000000 in
theorem drawList (b : Option Addr) (n c q m : Nat) (w : World) (hn : n ≤ 4096) (hm : m ≤ 1000) (h : Cur b n c w q) :
    Calls Tryz.prog 60 #[.pointer (some ⟨q, 0, none⟩), .int .i64 m] w (DrawnL m b n c w q) := by
  obtain ⟨i0, hi, hz0, hz1, hz2⟩ := info_parts infoReading
  have hq := h.lt
  have g0 : w.grownBy (w.alloc (Obj.cells #[] 42)) (some q) := World.grownBy_alloc _ _ _
  have o0 := World.ownsRow_made (base := w.heap.size) (e := 42) (size := 3) w #[] 0 (Nat.le_refl _) (Nat.zero_le _) rfl
  have h0 := h.alloc (Obj.cells #[] 42)
  go_enter Tryz.func60, Tryz.ntmps60
  go_wp2_with fail
  go_loopw [1, 5] (fun r t wr => ∃ (k g cap : Nat) (l : List R), k ≤ m ∧ r = .int .i64 (k : Int) ∧ t = .slice (some ⟨g, 0, none⟩) l.length cap ∧ l.length + k = m ∧ RngL l ∧ w.heap.size ≤ g ∧ wr.ownsRow w.heap.size 42 3 (.slice (some ⟨g, 0, none⟩) l.length cap) l.length (rowR l) ∧ w.grownBy wr (some q) ∧ Cur b n c wr q) (fun r _ _ => (intOf r).toNat)
  case atStart => exact ⟨m, _, _, [], Nat.le_refl _, rfl, rfl, by simp, fun r hr => by simp at hr, Nat.le_refl _, o0, g0, h0⟩
  case round =>
    clear o0 g0 h0
    obtain ⟨k, g, cap, l, hk, rfl, rfl, hlk, hR, hge, hown, hg, hcur⟩ := hrel
    have HLK := Lib.hid hlk
    have hl : l.length ≤ 1000 := by omega
    clear hlk
    have hsz := hg.size
    by_cases hm0 : 0 < k
    · have hd : decide (0 < (k : Int)) = true := by simp [hm0]
      go_wp2_with fail
      refine (drawAny b n c q _ hn hcur).mono ?_
      rintro e w2 ⟨v, a, o, hva, rfl, g2, h2⟩
      replace hg := gr_trans hg g2
      replace hown := row_kept hown g2 hq
      have hsz2 := g2.size
      have hRn := hR.snoc (r := (v, a, o)) hva
      clear g2 hcur hva
      go_wp2_with (at_builtin; refine wpList_append_lies _ rfl _ _ _ rfl w.heap.size 42 i0 _ 3 24 Tryz.underlying24 hi hz0 hz1 hz2 rfl (by omega) (.slice (some ⟨g, 0, none⟩) l.length cap) l.length _ rfl (hown.alloc _) ⟨w2.heap.size, 0, none⟩ 1 1 [.int .i64 v, .int .i64 a, .bool o] rfl rfl (World.news_of_block (cs := #[.int .i64 v, .int .i64 a, .bool o]) (t := 42) (fr := (0, 0)) (heap_alloc_new w2 _)) (by simp [Value.oneCell']) (by omega) (by unfold maxLen; omega) (by omega) (by simp; omega) (w2.heap.size + 1) (by simp) ?_; intro gg cap1 w3 hown3 hgrow hat hlt3)
      have hgw : w2.grownBy w3 (some g) := gr_trans (World.grownBy_alloc _ _ _) hgrow
      have hg03 := gr_past hg hgw hge
      have hc3 : Cur b n c w3 q := h2.kept hgw (fun r e => by injection e with e; omega)
      clear hgrow hgw hown h2
      go_wp2_with fail
      go_roundw
      case rel => exact ⟨k - 1, gg, cap1, l ++ [(v, a, o)], by omega, by congr 1; omega, by simp, by have := HLK.out; simp; omega, hRn, by
        rcases hat with hat | hat
        · simp [Value.ownBlock] at hat; omega
        · omega, by rw [rowR_snoc]; simpa using hown3, hg03, hc3⟩
      case measure => simp [intOf]; omega
    · have hd : decide (0 < (k : Int)) = false := by simp; omega
      go_wp2_with fail
      go_ret
      exact ⟨g, cap, l, rfl, by have := HLK.out; omega, hR, hge, hg, hcur, hown⟩

/-- The draw of a reading and a number. -/
def DrawnRN (lo hi : Int) (w : World) (e : Ending) (w' : World) : Prop :=
  ∃ (v a : Int) (o : Bool) (x : Int), e = .returned (.tuple #[.agg #[.int .i64 v, .int .i64 a, .bool o], .int .i64 x]) ∧ (In64 v ∧ -1 ≤ a ∧ a ≤ 1001) ∧ (lo ≤ x ∧ x ≤ hi) ∧ w.grownBy w' none

/-- The draw of a list. -/
def DrawnLs (w : World) (e : Ending) (w' : World) : Prop :=
  ∃ (a : Option Addr) (cap : Nat) (l : List R), e = .returned (.slice a l.length cap) ∧ l.length ≤ 4 ∧ RngL l ∧ w.grownBy w' none ∧ Arg w' a l

end Go.Proofs.YtdikhdfpcipdbaaGreatDoor.rd
