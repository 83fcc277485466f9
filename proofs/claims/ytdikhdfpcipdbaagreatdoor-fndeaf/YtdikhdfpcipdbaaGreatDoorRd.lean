/- Chapter 6 on plain triples; a reading in memory; the functions on one reading, the model's and the program's. -/
import Derived.Test.YtdikhdfpcipdbaaGreatDoorRdEq
import Derived.Deep.RegionHeld3
import Derived.WalkMore
namespace Go.Proofs.YtdikhdfpcipdbaaGreatDoor.rd
open Go.ChangeShapes Go.WideShapes Go.ChangeAt Go.RowKit
open Go.Proofs.YtdikhdfpcipdbaaGreatDoor.nums Go.Proofs.YtdikhdfpcipdbaaGreatDoor.mem
open Go.Proofs.YtdikhdfpcipdbaaGreatDoor.tab (Ret quiet_w wpList_make_has)
set_option linter.unusedVariables false

def okR (r : R) : Bool := inb r.1 (-1000000) 1000000 && inb r.2.1 0 1000
def ageR (r : R) : R := (r.1, min 1000 (r.2.1 + 1), r.2.2)
def zR : R := (0, 0, false)
def aged (r : R) : R := if okR r = true then ageR r else zR
def got (r : R) (v : Int) : R := if (okR r && inb v (-1000000) 1000000) = true then (v, 0, true) else zR
def fresh (r : R) (m : Int) : Bool := okR r && (r.2.2 && decide (r.2.1 ≤ m))
theorem okR_iff {v a : Int} {o : Bool} : okR (v, a, o) = true ↔ (-1000000 ≤ v ∧ v ≤ 1000000) ∧ 0 ≤ a ∧ a ≤ 1000 := by unfold okR inb; simp
theorem okR_no {v a : Int} {o : Bool} (h : ¬ ((-1000000 ≤ v ∧ v ≤ 1000000) ∧ 0 ≤ a ∧ a ≤ 1000)) : okR (v, a, o) = false := by
  cases hk : okR (v, a, o) with
  | false => rfl
  | true => exact absurd (okR_iff.1 hk) h

/-- It returns this reading; of what was there nothing is another. -/
def RetR (r : R) (w : World) (e : Ending) (w' : World) : Prop := e = .returned (.agg #[.int .i64 r.1, .int .i64 r.2.1, .bool r.2.2]) ∧ w.grownBy w' none
theorem three {w : World} {g : Nat} {t : TypeId} {a b c : Value} (h : Has w g t #[a, b, c]) : w.cell? ⟨g, 0, none⟩ = some a ∧ w.cell? ⟨g, 1, none⟩ = some b ∧ w.cell? ⟨g, 2, none⟩ = some c ∧ w.frozen? ⟨g, 0, none⟩ = false ∧ w.frozen? ⟨g, 1, none⟩ = false ∧ w.frozen? ⟨g, 2, none⟩ = false :=
  ⟨h.cell 0, h.cell 1, h.cell 2, h.frozen 0, h.frozen 1, h.frozen 2⟩
theorem set3 {w : World} {g : Nat} {t : TypeId} {a b c : Value} (h : Has w g t #[a, b, c]) (a' b' c' : Value) : Has (((w.setCell ⟨g, 0, none⟩ a').setCell ⟨g, 1, none⟩ b').setCell ⟨g, 2, none⟩ c') g t #[a', b', c'] := ((h.put 0 a' rfl).put 1 b' rfl).put 2 c' rfl
theorem fresh1 (w : World) (o : Obj) (t : TypeId) (cs : Array Value) : Has ((w.alloc o).alloc (.cells cs t)) (w.heap.size + 1) t cs := by
  have := Has.fresh (w.alloc o) t cs
  simpa using this

theorem specReadingOk (v a : Int) (o : Bool) (w : World) : Calls Tryz.prog 57 #[.agg #[.int .i64 v, .int .i64 a, .bool o]] w (Ret (.bool (okR (v, a, o))) w) := by
  by_cases h0 : inb v (-1000000) 1000000 = true
  · go_enter Tryz.func57, Tryz.ntmps57
    go_wp2_with (first | (go_at_call 78; refine (fix.specSizeOk _ _).mono ?_; rintro e w' ⟨rfl, rfl⟩) | (go_at_call 24; refine (fix.specIn _ _ _ _).mono ?_; rintro e w' ⟨rfl, rfl⟩))
    go_ret
    exact ⟨fix.ret_bool (by unfold okR; simp [h0]), World.grownBy_alloc _ _ _⟩
  · have h0' : inb v (-1000000) 1000000 = false := by simpa using h0
    clear h0
    go_enter Tryz.func57, Tryz.ntmps57
    go_wp2_with (first | (go_at_call 78; refine (fix.specSizeOk _ _).mono ?_; rintro e w' ⟨rfl, rfl⟩) | (go_at_call 24; refine (fix.specIn _ _ _ _).mono ?_; rintro e w' ⟨rfl, rfl⟩))
    go_ret
    exact ⟨fix.ret_bool (by unfold okR; simp [h0']), World.grownBy_alloc _ _ _⟩

theorem specAge (v a : Int) (o : Bool) (w : World) (h0 : 0 ≤ a) (h1 : a ≤ 1000) : Calls Tryz.prog 58 #[.agg #[.int .i64 v, .int .i64 a, .bool o]] w (RetR (v, min 1000 (a + 1), o) w) := by
  go_enter Tryz.func58, Tryz.ntmps58
  go_wp2_with fail
  refine (fix.specMin _ _ _).mono ?_
  rintro e w' ⟨rfl, rfl⟩
  go_wp2_with fail
  exact bodyPost_ret (v := .agg #[.int .i64 v, .int .i64 (min 1000 (a + 1)), .bool o]) (by simp [results, Tryz.results58, go_sem]) rfl ⟨rfl, gr_alloc (World.grownBy_alloc _ _ _) _⟩

theorem implInRange (v a : Int) (o : Bool) (w : World) : Calls Tryz.prog 105 #[.agg #[.int .i64 v, .int .i64 a, .bool o]] w (RetR (btw v (-1000000) 1000000, btw a 0 1000, o) w) := by
  go_enter Tryz.func105, Tryz.ntmps105
  go_wp2_with fail
  refine (fix.implBetween _ _ _ _).mono ?_
  rintro e w' ⟨rfl, rfl⟩
  go_wp2_with fail
  refine (fix.implBetween _ _ _ _).mono ?_
  rintro e w' ⟨rfl, rfl⟩
  go_wp2_with fail
  exact bodyPost_ret (v := .agg #[.int .i64 (btw v (-1000000) 1000000), .int .i64 (btw a 0 1000), .bool o]) (by simp [results, Tryz.results105, go_sem]) rfl ⟨rfl, gr_alloc (World.grownBy_alloc _ _ _) _⟩

theorem eqR_range (v a : Int) (o : Bool) : eqR (v, a, o) (btw v (-1000000) 1000000, btw a 0 1000, o) = okR (v, a, o) := by
  by_cases h : (-1000000 ≤ v ∧ v ≤ 1000000) ∧ 0 ≤ a ∧ a ≤ 1000
  · rw [okR_iff.2 h]
    have e0 : btw v (-1000000) 1000000 = v := by unfold btw; omega
    have e1 : btw a 0 1000 = a := by unfold btw; omega
    rw [e0, e1]; simp [eqR]
  · rw [okR_no h]
    unfold eqR btw
    simp
    intro h1 h2
    omega

set_option maxRecDepth 100000 in
theorem implReadingOk (v a : Int) (o : Bool) (w : World) : Calls Tryz.prog 83 #[.agg #[.int .i64 v, .int .i64 a, .bool o]] w (Ret (.bool (okR (v, a, o))) w) := by
  have a0 := Has.fresh w 42 #[.int .i64 v, .int .i64 a, .bool o]
  have g0 := World.grownBy_alloc w (Obj.cells #[.int .i64 v, .int .i64 a, .bool o] 42) none
  have hq := fun W => eqlR W v a (btw v (-1000000) 1000000) (btw a 0 1000) o o
  have hG := guardR
  rw [eqR_range] at hq
  go_enter Tryz.func83, Tryz.ntmps83
  go_wp2_with fail
  generalize w.alloc (Obj.cells #[.int .i64 v, .int .i64 a, .bool o] 42) = w0 at *
  have b0 : Has w0.drew _ _ _ := a0
  obtain ⟨c0, c1, c2, _, _, _⟩ := three a0
  go_region_held3 (fun W => W.cell? ⟨w.heap.size, 0, none⟩ = some (.int .i64 v) ∧ W.cell? ⟨w.heap.size, 1, none⟩ = some (.int .i64 a) ∧ W.cell? ⟨w.heap.size, 2, none⟩ = some (.bool o))
    (first | exact ⟨(three b1).1, (three b1).2.1, (three b1).2.2.1⟩ | exact ⟨(three b0).1, (three b0).2.1, (three b0).2.2.1⟩)
    (first | (go_at_call 105; refine (implInRange _ _ _ _).mono ?_; rintro e w1 ⟨rfl, hg⟩; have b1 := b0.grown hg (by simp)))
  go_wp2_with fail
  go_ret
  exact ⟨rfl, gr_trans (gr_drewN g0 1) hg⟩

theorem aged_ok {v a : Int} {o : Bool} (h : okR (v, a, o) = true) : aged (v, a, o) = (v, min 1000 (a + 1), o) := if_pos h
theorem aged_no {v a : Int} {o : Bool} (h : okR (v, a, o) = false) : aged (v, a, o) = (0, 0, false) := if_neg (by rw [h]; simp)
theorem got_ok {v a x : Int} {o : Bool} (h : okR (v, a, o) = true) (hx : inb x (-1000000) 1000000 = true) : got (v, a, o) x = (x, 0, true) := if_pos (by rw [h, hx]; rfl)
theorem got_no {v a x : Int} {o : Bool} (h : okR (v, a, o) = false) : got (v, a, o) x = (0, 0, false) := if_neg (by rw [h]; simp)
theorem got_no' {v a x : Int} {o : Bool} (hx : inb x (-1000000) 1000000 = false) : got (v, a, o) x = (0, 0, false) := if_neg (by rw [hx]; simp)

set_option maxHeartbeats 1000000 in
theorem specAged (v a : Int) (o : Bool) (w : World) : Calls Tryz.prog 18 #[.agg #[.int .i64 v, .int .i64 a, .bool o]] w (RetR (aged (v, a, o)) w) := by
  have a0 := (Has.fresh w 42 #[.int .i64 v, .int .i64 a, .bool o]).alloc (Obj.cells #[.int .i64 0, .int .i64 0, .bool false] 42)
  have a1 := fresh1 w (Obj.cells #[.int .i64 v, .int .i64 a, .bool o] 42) 42 #[.int .i64 0, .int .i64 0, .bool false]
  have g0 : w.grownBy ((w.alloc (Obj.cells #[.int .i64 v, .int .i64 a, .bool o] 42)).alloc (Obj.cells #[.int .i64 0, .int .i64 0, .bool false] 42)) none := gr_alloc (World.grownBy_alloc _ _ _) _
  by_cases h : okR (v, a, o) = true
  · obtain ⟨_, h0, h1⟩ := okR_iff.1 h
    rw [aged_ok h]
    go_enter Tryz.func18, Tryz.ntmps18
    go_wp2_with fail
    refine (specReadingOk _ _ _ _).mono ?_
    rintro e w1 ⟨rfl, hg⟩
    replace a0 := a0.grown hg (by simp)
    replace a1 := a1.grown hg (by simp)
    replace g0 := gr_trans g0 hg
    clear hg
    obtain ⟨c0, c1, c2, f0, f1, f2⟩ := three a0
    go_wp2_with fail
    refine (specAge _ _ _ _ h0 h1).mono ?_
    rintro e w2 ⟨rfl, hg⟩
    replace a1 := a1.grown hg (by simp)
    replace g0 := gr_trans g0 hg
    clear hg a0 c0 c1 c2 f0 f1 f2
    obtain ⟨c0, c1, c2, f0, f1, f2⟩ := three a1
    go_wp2_with fail
    obtain ⟨k0, k1, k2, _, _, _⟩ := three (set3 a1 (.int .i64 (v)) (.int .i64 (min 1000 (a + 1))) (.bool o))
    exact bodyPost_ret (v := .agg #[.int .i64 (v), .int .i64 (min 1000 (a + 1)), .bool o]) (by simp [results, Tryz.results18, go_sem, k0, k1, k2]) rfl ⟨rfl, gr_new (gr_new (gr_new g0 (by omega) _ _) (by omega) _ _) (by omega) _ _⟩
  · have h' : okR (v, a, o) = false := by simpa using h
    clear h
    rw [aged_no h']
    go_enter Tryz.func18, Tryz.ntmps18
    go_wp2_with fail
    refine (specReadingOk _ _ _ _).mono ?_
    rintro e w1 ⟨rfl, hg⟩
    replace a1 := a1.grown hg (by simp)
    replace g0 := gr_trans g0 hg
    obtain ⟨c0, c1, c2, f0, f1, f2⟩ := three a1
    go_wp2_with fail
    obtain ⟨k0, k1, k2, _, _, _⟩ := three (set3 a1 (.int .i64 (0)) (.int .i64 (0)) (.bool false))
    exact bodyPost_ret (v := .agg #[.int .i64 (0), .int .i64 (0), .bool false]) (by simp [results, Tryz.results18, go_sem, k0, k1, k2]) rfl ⟨rfl, gr_new (gr_new (gr_new g0 (by omega) _ _) (by omega) _ _) (by omega) _ _⟩

theorem btw_age {a : Int} (h0 : 0 ≤ a) (h1 : a ≤ 1000) : btw (a + 1) 0 1000 = min 1000 (a + 1) := by unfold btw; omega
theorem btw_val {v : Int} (h0 : -1000000 ≤ v) (h1 : v ≤ 1000000) : btw v (-1000000) 1000000 = v := by unfold btw; omega
set_option maxHeartbeats 1000000 in
theorem implAged (v a : Int) (o : Bool) (w : World) : Calls Tryz.prog 91 #[.agg #[.int .i64 v, .int .i64 a, .bool o]] w (RetR (aged (v, a, o)) w) := by
  have a0 := (Has.fresh w 42 #[.int .i64 v, .int .i64 a, .bool o]).alloc (Obj.cells #[.int .i64 0, .int .i64 0, .bool false] 42)
  have a1 := fresh1 w (Obj.cells #[.int .i64 v, .int .i64 a, .bool o] 42) 42 #[.int .i64 0, .int .i64 0, .bool false]
  have g0 : w.grownBy ((w.alloc (Obj.cells #[.int .i64 v, .int .i64 a, .bool o] 42)).alloc (Obj.cells #[.int .i64 0, .int .i64 0, .bool false] 42)) none := gr_alloc (World.grownBy_alloc _ _ _) _
  by_cases h : okR (v, a, o) = true
  · obtain ⟨⟨v0, v1⟩, h0, h1⟩ := okR_iff.1 h
    rw [aged_ok h]
    go_enter Tryz.func91, Tryz.ntmps91
    go_wp2_with fail
    refine (implReadingOk _ _ _ _).mono ?_
    rintro e w1 ⟨rfl, hg⟩
    replace a0 := a0.grown hg (by simp)
    replace a1 := (a1.grown hg (by simp)).set_other (g' := w.heap.size) (by simp) 1 (.int .i64 (a + 1))
    replace g0 := gr_new (gr_trans g0 hg) (Nat.le_refl _) 1 (.int .i64 (a + 1))
    clear hg
    obtain ⟨c0, c1, c2, f0, f1, f2⟩ := three a0
    go_wp2_with fail
    refine (implInRange _ _ _ _).mono ?_
    rintro e w2 ⟨rfl, hg⟩
    rw [btw_age h0 h1, btw_val v0 v1]
    replace a1 := a1.grown hg (by simp)
    replace g0 := gr_trans g0 hg
    clear hg a0 c0 c1 c2 f0 f1 f2
    obtain ⟨c0, c1, c2, f0, f1, f2⟩ := three a1
    go_wp2_with fail
    obtain ⟨k0, k1, k2, _, _, _⟩ := three (set3 a1 (.int .i64 (v)) (.int .i64 (min 1000 (a + 1))) (.bool o))
    exact bodyPost_ret (v := .agg #[.int .i64 (v), .int .i64 (min 1000 (a + 1)), .bool o]) (by simp [results, Tryz.results91, go_sem, k0, k1, k2]) rfl ⟨rfl, gr_new (gr_new (gr_new g0 (by omega) _ _) (by omega) _ _) (by omega) _ _⟩
  · have h' : okR (v, a, o) = false := by simpa using h
    clear h
    rw [aged_no h']
    go_enter Tryz.func91, Tryz.ntmps91
    go_wp2_with fail
    refine (implReadingOk _ _ _ _).mono ?_
    rintro e w1 ⟨rfl, hg⟩
    replace a1 := a1.grown hg (by simp)
    replace g0 := gr_trans g0 hg
    obtain ⟨c0, c1, c2, f0, f1, f2⟩ := three a1
    go_wp2_with fail
    obtain ⟨k0, k1, k2, _, _, _⟩ := three (set3 a1 (.int .i64 (0)) (.int .i64 (0)) (.bool false))
    exact bodyPost_ret (v := .agg #[.int .i64 (0), .int .i64 (0), .bool false]) (by simp [results, Tryz.results91, go_sem, k0, k1, k2]) rfl ⟨rfl, gr_new (gr_new (gr_new g0 (by omega) _ _) (by omega) _ _) (by omega) _ _⟩

set_option maxHeartbeats 1000000 in
theorem specGot (v a x : Int) (o : Bool) (w : World) : Calls Tryz.prog 43 #[.agg #[.int .i64 v, .int .i64 a, .bool o], .int .i64 x] w (RetR (got (v, a, o) x) w) := by
  have a0 := (Has.fresh w 42 #[.int .i64 v, .int .i64 a, .bool o]).alloc (Obj.cells #[.int .i64 0, .int .i64 0, .bool false] 42)
  have a1 := fresh1 w (Obj.cells #[.int .i64 v, .int .i64 a, .bool o] 42) 42 #[.int .i64 0, .int .i64 0, .bool false]
  have g0 : w.grownBy ((w.alloc (Obj.cells #[.int .i64 v, .int .i64 a, .bool o] 42)).alloc (Obj.cells #[.int .i64 0, .int .i64 0, .bool false] 42)) none := gr_alloc (World.grownBy_alloc _ _ _) _
  by_cases h : okR (v, a, o) = true
  · by_cases hx : inb x (-1000000) 1000000 = true
    · rw [got_ok h hx]
      go_enter Tryz.func43, Tryz.ntmps43
      go_wp2_with fail
      refine (specReadingOk _ _ _ _).mono ?_
      rintro e w1 ⟨rfl, hg⟩
      replace a1 := a1.grown hg (by simp)
      replace g0 := gr_trans g0 hg
      clear hg
      obtain ⟨c0, c1, c2, f0, f1, f2⟩ := three a1
      go_wp2_with (go_at_call 78; refine (fix.specSizeOk _ _).mono ?_; rintro e w' ⟨rfl, rfl⟩)
      obtain ⟨k0, k1, k2, _, _, _⟩ := three (set3 a1 (.int .i64 (x)) (.int .i64 (0)) (.bool true))
      exact bodyPost_ret (v := .agg #[.int .i64 (x), .int .i64 (0), .bool true]) (by simp [results, Tryz.results43, go_sem, k0, k1, k2]) rfl ⟨rfl, gr_new (gr_new (gr_new g0 (by omega) _ _) (by omega) _ _) (by omega) _ _⟩
    · have hx' : inb x (-1000000) 1000000 = false := by simpa using hx
      clear hx
      rw [got_no' hx']
      go_enter Tryz.func43, Tryz.ntmps43
      go_wp2_with fail
      refine (specReadingOk _ _ _ _).mono ?_
      rintro e w1 ⟨rfl, hg⟩
      replace a1 := a1.grown hg (by simp)
      replace g0 := gr_trans g0 hg
      clear hg
      obtain ⟨c0, c1, c2, f0, f1, f2⟩ := three a1
      go_wp2_with (go_at_call 78; refine (fix.specSizeOk _ _).mono ?_; rintro e w' ⟨rfl, rfl⟩)
      obtain ⟨k0, k1, k2, _, _, _⟩ := three (set3 a1 (.int .i64 (0)) (.int .i64 (0)) (.bool false))
      exact bodyPost_ret (v := .agg #[.int .i64 (0), .int .i64 (0), .bool false]) (by simp [results, Tryz.results43, go_sem, k0, k1, k2]) rfl ⟨rfl, gr_new (gr_new (gr_new g0 (by omega) _ _) (by omega) _ _) (by omega) _ _⟩
  · have h' : okR (v, a, o) = false := by simpa using h
    clear h
    rw [got_no h']
    go_enter Tryz.func43, Tryz.ntmps43
    go_wp2_with fail
    refine (specReadingOk _ _ _ _).mono ?_
    rintro e w1 ⟨rfl, hg⟩
    replace a1 := a1.grown hg (by simp)
    replace g0 := gr_trans g0 hg
    obtain ⟨c0, c1, c2, f0, f1, f2⟩ := three a1
    go_wp2_with fail
    obtain ⟨k0, k1, k2, _, _, _⟩ := three (set3 a1 (.int .i64 (0)) (.int .i64 (0)) (.bool false))
    exact bodyPost_ret (v := .agg #[.int .i64 (0), .int .i64 (0), .bool false]) (by simp [results, Tryz.results43, go_sem, k0, k1, k2]) rfl ⟨rfl, gr_new (gr_new (gr_new g0 (by omega) _ _) (by omega) _ _) (by omega) _ _⟩

set_option maxHeartbeats 1000000 in
theorem specIsFresh (v a m : Int) (o : Bool) (w : World) : Calls Tryz.prog 103 #[.agg #[.int .i64 v, .int .i64 a, .bool o], .int .i64 m] w (Ret (.bool (fresh (v, a, o) m)) w) := by
  have a0 := Has.fresh w 42 #[.int .i64 v, .int .i64 a, .bool o]
  have g0 := World.grownBy_alloc w (Obj.cells #[.int .i64 v, .int .i64 a, .bool o] 42) none
  by_cases h : okR (v, a, o) = true
  · cases o
    · go_enter Tryz.func103, Tryz.ntmps103
      go_wp2_with fail
      refine (specReadingOk _ _ _ _).mono ?_
      rintro e w1 ⟨rfl, hg⟩
      replace a0 := a0.grown hg (by simp)
      replace g0 := gr_trans g0 hg
      obtain ⟨c0, c1, c2, _, _, _⟩ := three a0
      go_wp2_with fail
      go_ret
      exact ⟨fix.ret_bool (by unfold fresh; simp), g0⟩
    · go_enter Tryz.func103, Tryz.ntmps103
      go_wp2_with fail
      refine (specReadingOk _ _ _ _).mono ?_
      rintro e w1 ⟨rfl, hg⟩
      replace a0 := a0.grown hg (by simp)
      replace g0 := gr_trans g0 hg
      obtain ⟨c0, c1, c2, _, _, _⟩ := three a0
      go_wp2_with fail
      go_ret
      exact ⟨fix.ret_bool (by unfold fresh; rw [h]; simp), g0⟩
  · have h' : okR (v, a, o) = false := by simpa using h
    clear h
    go_enter Tryz.func103, Tryz.ntmps103
    go_wp2_with fail
    refine (specReadingOk _ _ _ _).mono ?_
    rintro e w1 ⟨rfl, hg⟩
    replace g0 := gr_trans g0 hg
    go_wp2_with fail
    go_ret
    exact ⟨fix.ret_bool (by unfold fresh; rw [h']; rfl), g0⟩

set_option maxHeartbeats 1000000 in
theorem implGot (v a x : Int) (o : Bool) (w : World) : Calls Tryz.prog 95 #[.agg #[.int .i64 v, .int .i64 a, .bool o], .int .i64 x] w (RetR (got (v, a, o) x) w) := by
  have a0 := (Has.fresh w 42 #[.int .i64 v, .int .i64 a, .bool o]).alloc (Obj.cells #[.int .i64 0, .int .i64 0, .bool false] 42)
  have a1 := fresh1 w (Obj.cells #[.int .i64 v, .int .i64 a, .bool o] 42) 42 #[.int .i64 0, .int .i64 0, .bool false]
  have g0 : w.grownBy ((w.alloc (Obj.cells #[.int .i64 v, .int .i64 a, .bool o] 42)).alloc (Obj.cells #[.int .i64 0, .int .i64 0, .bool false] 42)) none := gr_alloc (World.grownBy_alloc _ _ _) _
  by_cases h : okR (v, a, o) = true
  · by_cases hx : inb x (-1000000) 1000000 = true
    · rw [got_ok h hx]
      go_enter Tryz.func95, Tryz.ntmps95
      go_wp2_with fail
      refine (implReadingOk _ _ _ _).mono ?_
      rintro e w1 ⟨rfl, hg⟩
      replace a1 := a1.grown hg (by simp)
      replace g0 := gr_trans g0 hg
      clear hg
      obtain ⟨c0, c1, c2, f0, f1, f2⟩ := three a1
      go_wp2_with (go_at_call 55; refine (fix.implSizeOk _ _).mono ?_; rintro e w' ⟨rfl, rfl⟩)
      obtain ⟨k0, k1, k2, _, _, _⟩ := three (set3 a1 (.int .i64 (x)) (.int .i64 (0)) (.bool true))
      exact bodyPost_ret (v := .agg #[.int .i64 (x), .int .i64 (0), .bool true]) (by simp [results, Tryz.results95, go_sem, k0, k1, k2]) rfl ⟨rfl, gr_new (gr_new (gr_new g0 (by omega) _ _) (by omega) _ _) (by omega) _ _⟩
    · have hx' : inb x (-1000000) 1000000 = false := by simpa using hx
      clear hx
      rw [got_no' hx']
      go_enter Tryz.func95, Tryz.ntmps95
      go_wp2_with fail
      refine (implReadingOk _ _ _ _).mono ?_
      rintro e w1 ⟨rfl, hg⟩
      replace a1 := a1.grown hg (by simp)
      replace g0 := gr_trans g0 hg
      clear hg
      obtain ⟨c0, c1, c2, f0, f1, f2⟩ := three a1
      go_wp2_with (go_at_call 55; refine (fix.implSizeOk _ _).mono ?_; rintro e w' ⟨rfl, rfl⟩)
      obtain ⟨k0, k1, k2, _, _, _⟩ := three (set3 a1 (.int .i64 (0)) (.int .i64 (0)) (.bool false))
      exact bodyPost_ret (v := .agg #[.int .i64 (0), .int .i64 (0), .bool false]) (by simp [results, Tryz.results95, go_sem, k0, k1, k2]) rfl ⟨rfl, gr_new (gr_new (gr_new g0 (by omega) _ _) (by omega) _ _) (by omega) _ _⟩
  · have h' : okR (v, a, o) = false := by simpa using h
    clear h
    rw [got_no h']
    go_enter Tryz.func95, Tryz.ntmps95
    go_wp2_with fail
    refine (implReadingOk _ _ _ _).mono ?_
    rintro e w1 ⟨rfl, hg⟩
    replace a1 := a1.grown hg (by simp)
    replace g0 := gr_trans g0 hg
    obtain ⟨c0, c1, c2, f0, f1, f2⟩ := three a1
    go_wp2_with fail
    obtain ⟨k0, k1, k2, _, _, _⟩ := three (set3 a1 (.int .i64 (0)) (.int .i64 (0)) (.bool false))
    exact bodyPost_ret (v := .agg #[.int .i64 (0), .int .i64 (0), .bool false]) (by simp [results, Tryz.results95, go_sem, k0, k1, k2]) rfl ⟨rfl, gr_new (gr_new (gr_new g0 (by omega) _ _) (by omega) _ _) (by omega) _ _⟩

set_option maxHeartbeats 1000000 in
theorem implIsFresh (v a m : Int) (o : Bool) (w : World) : Calls Tryz.prog 96 #[.agg #[.int .i64 v, .int .i64 a, .bool o], .int .i64 m] w (Ret (.bool (fresh (v, a, o) m)) w) := by
  have a0 := Has.fresh w 42 #[.int .i64 v, .int .i64 a, .bool o]
  have g0 := World.grownBy_alloc w (Obj.cells #[.int .i64 v, .int .i64 a, .bool o] 42) none
  by_cases h : okR (v, a, o) = true
  · cases o
    · go_enter Tryz.func96, Tryz.ntmps96
      go_wp2_with fail
      refine (implReadingOk _ _ _ _).mono ?_
      rintro e w1 ⟨rfl, hg⟩
      replace a0 := a0.grown hg (by simp)
      replace g0 := gr_trans g0 hg
      obtain ⟨c0, c1, c2, _, _, _⟩ := three a0
      go_wp2_with fail
      go_ret
      exact ⟨fix.ret_bool (by unfold fresh; simp), g0⟩
    · go_enter Tryz.func96, Tryz.ntmps96
      go_wp2_with fail
      refine (implReadingOk _ _ _ _).mono ?_
      rintro e w1 ⟨rfl, hg⟩
      replace a0 := a0.grown hg (by simp)
      replace g0 := gr_trans g0 hg
      obtain ⟨c0, c1, c2, _, _, _⟩ := three a0
      go_wp2_with fail
      go_ret
      exact ⟨fix.ret_bool (by unfold fresh; rw [h]; simp), g0⟩
  · have h' : okR (v, a, o) = false := by simpa using h
    clear h
    go_enter Tryz.func96, Tryz.ntmps96
    go_wp2_with fail
    refine (implReadingOk _ _ _ _).mono ?_
    rintro e w1 ⟨rfl, hg⟩
    replace g0 := gr_trans g0 hg
    go_wp2_with fail
    go_ret
    exact ⟨fix.ret_bool (by unfold fresh; rw [h']; rfl), g0⟩

end Go.Proofs.YtdikhdfpcipdbaaGreatDoor.rd
