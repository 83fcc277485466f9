/- Chapter 6 on plain triples; a reading in memory; the functions on one reading, the model's and the program's. -/
import Derived.Test.YtnkimjmpjnhlnaaDoorRdEq
import Derived.Deep.RegionHeld3
import Derived.WalkMore
namespace Go.Proofs.YtnkimjmpjnhlnaaDoor.rd
open Go.ChangeShapes Go.WideShapes Go.ChangeAt Go.RowKit
open Go.Proofs.YtnkimjmpjnhlnaaDoor.nums Go.Proofs.YtnkimjmpjnhlnaaDoor.mem
open Go.Proofs.YtnkimjmpjnhlnaaDoor.tab (Ret quiet_w wpList_make_has)
set_option linter.unusedVariables false

def okR (r : R) : Bool := inb r.1 (-1000000) 1000000 && inb r.2.1 0 1000
def ageR (r : R) : R := (r.1, min 1000 (r.2.1 + 1), r.2.2)
def zR : R := (0, 0, false)
def aged (r : R) : R := if okR r = true then ageR r else zR
def got (r : R) (v : Int) : R := if (okR r && inb v (-1000000) 1000000) = true then (v, 0, true) else zR
def fresh (r : R) (m : Int) : Bool := okR r && (r.2.2 && decide (r.2.1 ≤ m))
theorem okR_iff {v a : Int} {o : Bool} : okR (v, a, o) = true ↔ (-1000000 ≤ v ∧ v ≤ 1000000) ∧ 0 ≤ a ∧ a ≤ 1000 := by unfold okR inb; simp
theorem okR_no {v a : Int} {o : Bool} (h : ¬ ((-1000000 ≤ v ∧ v ≤ 1000000) ∧ 0 ≤ a ∧ a ≤ 1000)) : okR (v, a, o) = false := by
  cases hk : okR (v, a, o) with
  | false => rfl
  | true => exact absurd (okR_iff.1 hk) h

/-- It returns this reading; of what was there nothing is another. -/
def RetR (r : R) (w : World) (e : Ending) (w' : World) : Prop := e = .returned (.agg #[.int .i64 r.1, .int .i64 r.2.1, .bool r.2.2]) ∧ w.grownBy w' none
theorem three {w : World} {g : Nat} {t : TypeId} {a b c : Value} (h : Has w g t #[a, b, c]) : w.cell? ⟨g, 0, none⟩ = some a ∧ w.cell? ⟨g, 1, none⟩ = some b ∧ w.cell? ⟨g, 2, none⟩ = some c ∧ w.frozen? ⟨g, 0, none⟩ = false ∧ w.frozen? ⟨g, 1, none⟩ = false ∧ w.frozen? ⟨g, 2, none⟩ = false :=
  ⟨h.cell 0, h.cell 1, h.cell 2, h.frozen 0, h.frozen 1, h.frozen 2⟩
theorem set3 {w : World} {g : Nat} {t : TypeId} {a b c : Value} (h : Has w g t #[a, b, c]) (a' b' c' : Value) : Has (((w.setCell ⟨g, 0, none⟩ a').setCell ⟨g, 1, none⟩ b').setCell ⟨g, 2, none⟩ c') g t #[a', b', c'] := ((h.put 0 a' rfl).put 1 b' rfl).put 2 c' rfl
theorem fresh1 (w : World) (o : Obj) (t : TypeId) (cs : Array Value) : Has ((w.alloc o).alloc (.cells cs t)) (w.heap.size + 1) t cs := by
  have := Has.fresh (w.alloc o) t cs
  simpa using this

theorem specReadingOk (v a : Int) (o : Bool) (w : World) : Calls Tryd.prog 61 #[.agg #[.int .i64 v, .int .i64 a, .bool o]] w (Ret (.bool (okR (v, a, o))) w) := by
  by_cases h0 : inb v (-1000000) 1000000 = true
  · go_enter Tryd.func61, Tryd.ntmps61
    go_wp2_with (first | (go_at_call 72; refine (fix.specSizeOk _ _).mono ?_; rintro e w' ⟨rfl, rfl⟩) | (go_at_call 19; refine (fix.specIn _ _ _ _).mono ?_; rintro e w' ⟨rfl, rfl⟩))
    go_ret
    exact ⟨fix.ret_bool (by unfold okR; simp [h0]), World.grownBy_alloc _ _ _⟩
  · have h0' : inb v (-1000000) 1000000 = false := by simpa using h0
    clear h0
    go_enter Tryd.func61, Tryd.ntmps61
    go_wp2_with (first | (go_at_call 72; refine (fix.specSizeOk _ _).mono ?_; rintro e w' ⟨rfl, rfl⟩) | (go_at_call 19; refine (fix.specIn _ _ _ _).mono ?_; rintro e w' ⟨rfl, rfl⟩))
    go_ret
    exact ⟨fix.ret_bool (by unfold okR; simp [h0']), World.grownBy_alloc _ _ _⟩

theorem implInRange (v a : Int) (o : Bool) (w : World) : Calls Tryd.prog 77 #[.agg #[.int .i64 v, .int .i64 a, .bool o]] w (RetR (btw v (-1000000) 1000000, btw a 0 1000, o) w) := by
  go_enter Tryd.func77, Tryd.ntmps77
  go_wp2_with fail
  refine (fix.implBetween _ _ _ _).mono ?_
  rintro e w' ⟨rfl, rfl⟩
  go_wp2_with fail
  refine (fix.implBetween _ _ _ _).mono ?_
  rintro e w' ⟨rfl, rfl⟩
  go_wp2_with fail
  exact bodyPost_ret (v := .agg #[.int .i64 (btw v (-1000000) 1000000), .int .i64 (btw a 0 1000), .bool o]) (by simp [results, Tryd.results77, go_sem]) rfl ⟨rfl, gr_alloc (World.grownBy_alloc _ _ _) _⟩

theorem eqR_range (v a : Int) (o : Bool) : eqR (v, a, o) (btw v (-1000000) 1000000, btw a 0 1000, o) = okR (v, a, o) := by
  by_cases h : (-1000000 ≤ v ∧ v ≤ 1000000) ∧ 0 ≤ a ∧ a ≤ 1000
  · rw [okR_iff.2 h]
    have e0 : btw v (-1000000) 1000000 = v := by unfold btw; omega
    have e1 : btw a 0 1000 = a := by unfold btw; omega
    rw [e0, e1]; simp [eqR]
  · rw [okR_no h]
    unfold eqR btw
    simp
    intro h1 h2
    omega

set_option maxRecDepth 100000 in
theorem implReadingOk (v a : Int) (o : Bool) (w : World) : Calls Tryd.prog 73 #[.agg #[.int .i64 v, .int .i64 a, .bool o]] w (Ret (.bool (okR (v, a, o))) w) := by
  have a0 := Has.fresh w 88 #[.int .i64 v, .int .i64 a, .bool o]
  have g0 := World.grownBy_alloc w (Obj.cells #[.int .i64 v, .int .i64 a, .bool o] 88) none
  have hq := fun W => eqlR W v a (btw v (-1000000) 1000000) (btw a 0 1000) o o
  have hG := guardR
  rw [eqR_range] at hq
  go_enter Tryd.func73, Tryd.ntmps73
  go_wp2_with fail
  generalize w.alloc (Obj.cells #[.int .i64 v, .int .i64 a, .bool o] 88) = w0 at *
  have b0 : Has w0.drew _ _ _ := a0
  obtain ⟨c0, c1, c2, _, _, _⟩ := three a0
  go_region_held3 (fun W => W.cell? ⟨w.heap.size, 0, none⟩ = some (.int .i64 v) ∧ W.cell? ⟨w.heap.size, 1, none⟩ = some (.int .i64 a) ∧ W.cell? ⟨w.heap.size, 2, none⟩ = some (.bool o))
    (first | exact ⟨(three b1).1, (three b1).2.1, (three b1).2.2.1⟩ | exact ⟨(three b0).1, (three b0).2.1, (three b0).2.2.1⟩)
    (first | (go_at_call 77; refine (implInRange _ _ _ _).mono ?_; rintro e w1 ⟨rfl, hg⟩; have b1 := b0.grown hg (by simp)))
  go_wp2_with fail
  go_ret
  exact ⟨rfl, gr_trans (gr_drewN g0 1) hg⟩

theorem aged_ok {v a : Int} {o : Bool} (h : okR (v, a, o) = true) : aged (v, a, o) = (v, min 1000 (a + 1), o) := if_pos h
theorem aged_no {v a : Int} {o : Bool} (h : okR (v, a, o) = false) : aged (v, a, o) = (0, 0, false) := if_neg (by rw [h]; simp)
theorem got_ok {v a x : Int} {o : Bool} (h : okR (v, a, o) = true) (hx : inb x (-1000000) 1000000 = true) : got (v, a, o) x = (x, 0, true) := if_pos (by rw [h, hx]; rfl)
theorem got_no {v a x : Int} {o : Bool} (h : okR (v, a, o) = false) : got (v, a, o) x = (0, 0, false) := if_neg (by rw [h]; simp)
theorem got_no' {v a x : Int} {o : Bool} (hx : inb x (-1000000) 1000000 = false) : got (v, a, o) x = (0, 0, false) := if_neg (by rw [hx]; simp)

theorem btw_age {a : Int} (h0 : 0 ≤ a) (h1 : a ≤ 1000) : btw (a + 1) 0 1000 = min 1000 (a + 1) := by unfold btw; omega
theorem btw_val {v : Int} (h0 : -1000000 ≤ v) (h1 : v ≤ 1000000) : btw v (-1000000) 1000000 = v := by unfold btw; omega
end Go.Proofs.YtnkimjmpjnhlnaaDoor.rd
