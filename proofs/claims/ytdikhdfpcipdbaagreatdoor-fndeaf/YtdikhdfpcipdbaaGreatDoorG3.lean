/- Chapter 6 on plain triples; a reading in memory; the functions on one reading, the model's and the program's. What came in: a reading, a list of readings; read, copied into new memory, compared, marked. Lists of readings in memory: read, grown, copied, compared, marked. AgedAll, the model's and the program's. -/
import Derived.Test.YtdikhdfpcipdbaaGreatDoorG2
import Derived.Deep.RegionHeld3
import Derived.WalkMore
import Derived.ChangeSame
import Derived.Deep.Strs
import Derived.StillTailTactics
import Derived.Deep.AppendLies
/- Chapter 6 on plain triples; a reading in memory; the functions on one reading, the model's and the program's. -/
namespace Go.Proofs.YtdikhdfpcipdbaaGreatDoor.rd
open Go.ChangeShapes Go.WideShapes Go.ChangeAt Go.RowKit
open Go.Proofs.YtdikhdfpcipdbaaGreatDoor.nums Go.Proofs.YtdikhdfpcipdbaaGreatDoor.mem
open Go.Proofs.YtdikhdfpcipdbaaGreatDoor.tab (Ret quiet_w wpList_make_has)
set_option linter.unusedVariables false

def okR (r : R) : Bool := inb r.1 (-1000000) 1000000 && inb r.2.1 0 1000
def ageR (r : R) : R := (r.1, min 1000 (r.2.1 + 1), r.2.2)
def zR : R := (0, 0, false)
def aged (r : R) : R := if okR r = true then ageR r else zR
def got (r : R) (v : Int) : R := if (okR r && inb v (-1000000) 1000000) = true then (v, 0, true) else zR
def fresh (r : R) (m : Int) : Bool := okR r && (r.2.2 && decide (r.2.1 ≤ m))
theorem okR_iff {v a : Int} {o : Bool} : okR (v, a, o) = true ↔ (-1000000 ≤ v ∧ v ≤ 1000000) ∧ 0 ≤ a ∧ a ≤ 1000 := by unfold okR inb; simp
theorem okR_no {v a : Int} {o : Bool} (h : ¬ ((-1000000 ≤ v ∧ v ≤ 1000000) ∧ 0 ≤ a ∧ a ≤ 1000)) : okR (v, a, o) = false := by
  cases hk : okR (v, a, o) with
  | false => rfl
  | true => exact absurd (okR_iff.1 hk) h

/-- It returns this reading; of what was there nothing is another. -/
def RetR (r : R) (w : World) (e : Ending) (w' : World) : Prop := e = .returned (.agg #[.int .i64 r.1, .int .i64 r.2.1, .bool r.2.2]) ∧ w.grownBy w' none
theorem three {w : World} {g : Nat} {t : TypeId} {a b c : Value} (h : Has w g t #[a, b, c]) : w.cell? ⟨g, 0, none⟩ = some a ∧ w.cell? ⟨g, 1, none⟩ = some b ∧ w.cell? ⟨g, 2, none⟩ = some c ∧ w.frozen? ⟨g, 0, none⟩ = false ∧ w.frozen? ⟨g, 1, none⟩ = false ∧ w.frozen? ⟨g, 2, none⟩ = false :=
  ⟨h.cell 0, h.cell 1, h.cell 2, h.frozen 0, h.frozen 1, h.frozen 2⟩
theorem set3 {w : World} {g : Nat} {t : TypeId} {a b c : Value} (h : Has w g t #[a, b, c]) (a' b' c' : Value) : Has (((w.setCell ⟨g, 0, none⟩ a').setCell ⟨g, 1, none⟩ b').setCell ⟨g, 2, none⟩ c') g t #[a', b', c'] := ((h.put 0 a' rfl).put 1 b' rfl).put 2 c' rfl
theorem fresh1 (w : World) (o : Obj) (t : TypeId) (cs : Array Value) : Has ((w.alloc o).alloc (.cells cs t)) (w.heap.size + 1) t cs := by
  have := Has.fresh (w.alloc o) t cs
  simpa using this

theorem specReadingOk (v a : Int) (o : Bool) (w : World) : Calls Tryz.prog 57 #[.agg #[.int .i64 v, .int .i64 a, .bool o]] w (Ret (.bool (okR (v, a, o))) w) := by
  by_cases h0 : inb v (-1000000) 1000000 = true
  · go_enter Tryz.func57, Tryz.ntmps57
    go_wp2_with (first | (go_at_call 78; refine (fix.specSizeOk _ _).mono ?_; rintro e w' ⟨rfl, rfl⟩) | (go_at_call 24; refine (fix.specIn _ _ _ _).mono ?_; rintro e w' ⟨rfl, rfl⟩))
    go_ret
    exact ⟨fix.ret_bool (by unfold okR; simp [h0]), World.grownBy_alloc _ _ _⟩
  · have h0' : inb v (-1000000) 1000000 = false := by simpa using h0
    clear h0
    go_enter Tryz.func57, Tryz.ntmps57
    go_wp2_with (first | (go_at_call 78; refine (fix.specSizeOk _ _).mono ?_; rintro e w' ⟨rfl, rfl⟩) | (go_at_call 24; refine (fix.specIn _ _ _ _).mono ?_; rintro e w' ⟨rfl, rfl⟩))
    go_ret
    exact ⟨fix.ret_bool (by unfold okR; simp [h0']), World.grownBy_alloc _ _ _⟩

theorem specAge (v a : Int) (o : Bool) (w : World) (h0 : 0 ≤ a) (h1 : a ≤ 1000) : Calls Tryz.prog 58 #[.agg #[.int .i64 v, .int .i64 a, .bool o]] w (RetR (v, min 1000 (a + 1), o) w) := by
  go_enter Tryz.func58, Tryz.ntmps58
  go_wp2_with fail
  refine (fix.specMin _ _ _).mono ?_
  rintro e w' ⟨rfl, rfl⟩
  go_wp2_with fail
  exact bodyPost_ret (v := .agg #[.int .i64 v, .int .i64 (min 1000 (a + 1)), .bool o]) (by simp [results, Tryz.results58, go_sem]) rfl ⟨rfl, gr_alloc (World.grownBy_alloc _ _ _) _⟩

theorem implInRange (v a : Int) (o : Bool) (w : World) : Calls Tryz.prog 105 #[.agg #[.int .i64 v, .int .i64 a, .bool o]] w (RetR (btw v (-1000000) 1000000, btw a 0 1000, o) w) := by
  go_enter Tryz.func105, Tryz.ntmps105
  go_wp2_with fail
  refine (fix.implBetween _ _ _ _).mono ?_
  rintro e w' ⟨rfl, rfl⟩
  go_wp2_with fail
  refine (fix.implBetween _ _ _ _).mono ?_
  rintro e w' ⟨rfl, rfl⟩
  go_wp2_with fail
  exact bodyPost_ret (v := .agg #[.int .i64 (btw v (-1000000) 1000000), .int .i64 (btw a 0 1000), .bool o]) (by simp [results, Tryz.results105, go_sem]) rfl ⟨rfl, gr_alloc (World.grownBy_alloc _ _ _) _⟩

theorem eqR_range (v a : Int) (o : Bool) : eqR (v, a, o) (btw v (-1000000) 1000000, btw a 0 1000, o) = okR (v, a, o) := by
  by_cases h : (-1000000 ≤ v ∧ v ≤ 1000000) ∧ 0 ≤ a ∧ a ≤ 1000
  · rw [okR_iff.2 h]
    have e0 : btw v (-1000000) 1000000 = v := by unfold btw; omega
    have e1 : btw a 0 1000 = a := by unfold btw; omega
    rw [e0, e1]; simp [eqR]
  · rw [okR_no h]
    unfold eqR btw
    simp
    intro h1 h2
    omega

set_option maxRecDepth 100000 in
theorem implReadingOk (v a : Int) (o : Bool) (w : World) : Calls Tryz.prog 83 #[.agg #[.int .i64 v, .int .i64 a, .bool o]] w (Ret (.bool (okR (v, a, o))) w) := by
  have a0 := Has.fresh w 42 #[.int .i64 v, .int .i64 a, .bool o]
  have g0 := World.grownBy_alloc w (Obj.cells #[.int .i64 v, .int .i64 a, .bool o] 42) none
  have hq := fun W => eqlR W v a (btw v (-1000000) 1000000) (btw a 0 1000) o o
  have hG := guardR
  rw [eqR_range] at hq
  go_enter Tryz.func83, Tryz.ntmps83
  go_wp2_with fail
  generalize w.alloc (Obj.cells #[.int .i64 v, .int .i64 a, .bool o] 42) = w0 at *
  have b0 : Has w0.drew _ _ _ := a0
  obtain ⟨c0, c1, c2, _, _, _⟩ := three a0
  go_region_held3 (fun W => W.cell? ⟨w.heap.size, 0, none⟩ = some (.int .i64 v) ∧ W.cell? ⟨w.heap.size, 1, none⟩ = some (.int .i64 a) ∧ W.cell? ⟨w.heap.size, 2, none⟩ = some (.bool o))
    (first | exact ⟨(three b1).1, (three b1).2.1, (three b1).2.2.1⟩ | exact ⟨(three b0).1, (three b0).2.1, (three b0).2.2.1⟩)
    (first | (go_at_call 105; refine (implInRange _ _ _ _).mono ?_; rintro e w1 ⟨rfl, hg⟩; have b1 := b0.grown hg (by simp)))
  go_wp2_with fail
  go_ret
  exact ⟨rfl, gr_trans (gr_drewN g0 1) hg⟩

theorem aged_ok {v a : Int} {o : Bool} (h : okR (v, a, o) = true) : aged (v, a, o) = (v, min 1000 (a + 1), o) := if_pos h
theorem aged_no {v a : Int} {o : Bool} (h : okR (v, a, o) = false) : aged (v, a, o) = (0, 0, false) := if_neg (by rw [h]; simp)
theorem got_ok {v a x : Int} {o : Bool} (h : okR (v, a, o) = true) (hx : inb x (-1000000) 1000000 = true) : got (v, a, o) x = (x, 0, true) := if_pos (by rw [h, hx]; rfl)
theorem got_no {v a x : Int} {o : Bool} (h : okR (v, a, o) = false) : got (v, a, o) x = (0, 0, false) := if_neg (by rw [h]; simp)
theorem got_no' {v a x : Int} {o : Bool} (hx : inb x (-1000000) 1000000 = false) : got (v, a, o) x = (0, 0, false) := if_neg (by rw [hx]; simp)

set_option maxHeartbeats 1000000 in
theorem specAged (v a : Int) (o : Bool) (w : World) : Calls Tryz.prog 18 #[.agg #[.int .i64 v, .int .i64 a, .bool o]] w (RetR (aged (v, a, o)) w) := by
  have a0 := (Has.fresh w 42 #[.int .i64 v, .int .i64 a, .bool o]).alloc (Obj.cells #[.int .i64 0, .int .i64 0, .bool false] 42)
  have a1 := fresh1 w (Obj.cells #[.int .i64 v, .int .i64 a, .bool o] 42) 42 #[.int .i64 0, .int .i64 0, .bool false]
  have g0 : w.grownBy ((w.alloc (Obj.cells #[.int .i64 v, .int .i64 a, .bool o] 42)).alloc (Obj.cells #[.int .i64 0, .int .i64 0, .bool false] 42)) none := gr_alloc (World.grownBy_alloc _ _ _) _
  by_cases h : okR (v, a, o) = true
  · obtain ⟨_, h0, h1⟩ := okR_iff.1 h
    rw [aged_ok h]
    go_enter Tryz.func18, Tryz.ntmps18
    go_wp2_with fail
    refine (specReadingOk _ _ _ _).mono ?_
    rintro e w1 ⟨rfl, hg⟩
    replace a0 := a0.grown hg (by simp)
    replace a1 := a1.grown hg (by simp)
    replace g0 := gr_trans g0 hg
    clear hg
    obtain ⟨c0, c1, c2, f0, f1, f2⟩ := three a0
    go_wp2_with fail
    refine (specAge _ _ _ _ h0 h1).mono ?_
    rintro e w2 ⟨rfl, hg⟩
    replace a1 := a1.grown hg (by simp)
    replace g0 := gr_trans g0 hg
    clear hg a0 c0 c1 c2 f0 f1 f2
    obtain ⟨c0, c1, c2, f0, f1, f2⟩ := three a1
    go_wp2_with fail
    obtain ⟨k0, k1, k2, _, _, _⟩ := three (set3 a1 (.int .i64 (v)) (.int .i64 (min 1000 (a + 1))) (.bool o))
    exact bodyPost_ret (v := .agg #[.int .i64 (v), .int .i64 (min 1000 (a + 1)), .bool o]) (by simp [results, Tryz.results18, go_sem, k0, k1, k2]) rfl ⟨rfl, gr_new (gr_new (gr_new g0 (by omega) _ _) (by omega) _ _) (by omega) _ _⟩
  · have h' : okR (v, a, o) = false := by simpa using h
    clear h
    rw [aged_no h']
    go_enter Tryz.func18, Tryz.ntmps18
    go_wp2_with fail
    refine (specReadingOk _ _ _ _).mono ?_
    rintro e w1 ⟨rfl, hg⟩
    replace a1 := a1.grown hg (by simp)
    replace g0 := gr_trans g0 hg
    obtain ⟨c0, c1, c2, f0, f1, f2⟩ := three a1
    go_wp2_with fail
    obtain ⟨k0, k1, k2, _, _, _⟩ := three (set3 a1 (.int .i64 (0)) (.int .i64 (0)) (.bool false))
    exact bodyPost_ret (v := .agg #[.int .i64 (0), .int .i64 (0), .bool false]) (by simp [results, Tryz.results18, go_sem, k0, k1, k2]) rfl ⟨rfl, gr_new (gr_new (gr_new g0 (by omega) _ _) (by omega) _ _) (by omega) _ _⟩

theorem btw_age {a : Int} (h0 : 0 ≤ a) (h1 : a ≤ 1000) : btw (a + 1) 0 1000 = min 1000 (a + 1) := by unfold btw; omega
theorem btw_val {v : Int} (h0 : -1000000 ≤ v) (h1 : v ≤ 1000000) : btw v (-1000000) 1000000 = v := by unfold btw; omega
set_option maxHeartbeats 1000000 in
theorem implAged (v a : Int) (o : Bool) (w : World) : Calls Tryz.prog 91 #[.agg #[.int .i64 v, .int .i64 a, .bool o]] w (RetR (aged (v, a, o)) w) := by
  have a0 := (Has.fresh w 42 #[.int .i64 v, .int .i64 a, .bool o]).alloc (Obj.cells #[.int .i64 0, .int .i64 0, .bool false] 42)
  have a1 := fresh1 w (Obj.cells #[.int .i64 v, .int .i64 a, .bool o] 42) 42 #[.int .i64 0, .int .i64 0, .bool false]
  have g0 : w.grownBy ((w.alloc (Obj.cells #[.int .i64 v, .int .i64 a, .bool o] 42)).alloc (Obj.cells #[.int .i64 0, .int .i64 0, .bool false] 42)) none := gr_alloc (World.grownBy_alloc _ _ _) _
  by_cases h : okR (v, a, o) = true
  · obtain ⟨⟨v0, v1⟩, h0, h1⟩ := okR_iff.1 h
    rw [aged_ok h]
    go_enter Tryz.func91, Tryz.ntmps91
    go_wp2_with fail
    refine (implReadingOk _ _ _ _).mono ?_
    rintro e w1 ⟨rfl, hg⟩
    replace a0 := a0.grown hg (by simp)
    replace a1 := (a1.grown hg (by simp)).set_other (g' := w.heap.size) (by simp) 1 (.int .i64 (a + 1))
    replace g0 := gr_new (gr_trans g0 hg) (Nat.le_refl _) 1 (.int .i64 (a + 1))
    clear hg
    obtain ⟨c0, c1, c2, f0, f1, f2⟩ := three a0
    go_wp2_with fail
    refine (implInRange _ _ _ _).mono ?_
    rintro e w2 ⟨rfl, hg⟩
    rw [btw_age h0 h1, btw_val v0 v1]
    replace a1 := a1.grown hg (by simp)
    replace g0 := gr_trans g0 hg
    clear hg a0 c0 c1 c2 f0 f1 f2
    obtain ⟨c0, c1, c2, f0, f1, f2⟩ := three a1
    go_wp2_with fail
    obtain ⟨k0, k1, k2, _, _, _⟩ := three (set3 a1 (.int .i64 (v)) (.int .i64 (min 1000 (a + 1))) (.bool o))
    exact bodyPost_ret (v := .agg #[.int .i64 (v), .int .i64 (min 1000 (a + 1)), .bool o]) (by simp [results, Tryz.results91, go_sem, k0, k1, k2]) rfl ⟨rfl, gr_new (gr_new (gr_new g0 (by omega) _ _) (by omega) _ _) (by omega) _ _⟩
  · have h' : okR (v, a, o) = false := by simpa using h
    clear h
    rw [aged_no h']
    go_enter Tryz.func91, Tryz.ntmps91
    go_wp2_with fail
    refine (implReadingOk _ _ _ _).mono ?_
    rintro e w1 ⟨rfl, hg⟩
    replace a1 := a1.grown hg (by simp)
    replace g0 := gr_trans g0 hg
    obtain ⟨c0, c1, c2, f0, f1, f2⟩ := three a1
    go_wp2_with fail
    obtain ⟨k0, k1, k2, _, _, _⟩ := three (set3 a1 (.int .i64 (0)) (.int .i64 (0)) (.bool false))
    exact bodyPost_ret (v := .agg #[.int .i64 (0), .int .i64 (0), .bool false]) (by simp [results, Tryz.results91, go_sem, k0, k1, k2]) rfl ⟨rfl, gr_new (gr_new (gr_new g0 (by omega) _ _) (by omega) _ _) (by omega) _ _⟩

set_option maxHeartbeats 1000000 in
theorem specGot (v a x : Int) (o : Bool) (w : World) : Calls Tryz.prog 43 #[.agg #[.int .i64 v, .int .i64 a, .bool o], .int .i64 x] w (RetR (got (v, a, o) x) w) := by
  have a0 := (Has.fresh w 42 #[.int .i64 v, .int .i64 a, .bool o]).alloc (Obj.cells #[.int .i64 0, .int .i64 0, .bool false] 42)
  have a1 := fresh1 w (Obj.cells #[.int .i64 v, .int .i64 a, .bool o] 42) 42 #[.int .i64 0, .int .i64 0, .bool false]
  have g0 : w.grownBy ((w.alloc (Obj.cells #[.int .i64 v, .int .i64 a, .bool o] 42)).alloc (Obj.cells #[.int .i64 0, .int .i64 0, .bool false] 42)) none := gr_alloc (World.grownBy_alloc _ _ _) _
  by_cases h : okR (v, a, o) = true
  · by_cases hx : inb x (-1000000) 1000000 = true
    · rw [got_ok h hx]
      go_enter Tryz.func43, Tryz.ntmps43
      go_wp2_with fail
      refine (specReadingOk _ _ _ _).mono ?_
      rintro e w1 ⟨rfl, hg⟩
      replace a1 := a1.grown hg (by simp)
      replace g0 := gr_trans g0 hg
      clear hg
      obtain ⟨c0, c1, c2, f0, f1, f2⟩ := three a1
      go_wp2_with (go_at_call 78; refine (fix.specSizeOk _ _).mono ?_; rintro e w' ⟨rfl, rfl⟩)
      obtain ⟨k0, k1, k2, _, _, _⟩ := three (set3 a1 (.int .i64 (x)) (.int .i64 (0)) (.bool true))
      exact bodyPost_ret (v := .agg #[.int .i64 (x), .int .i64 (0), .bool true]) (by simp [results, Tryz.results43, go_sem, k0, k1, k2]) rfl ⟨rfl, gr_new (gr_new (gr_new g0 (by omega) _ _) (by omega) _ _) (by omega) _ _⟩
    · have hx' : inb x (-1000000) 1000000 = false := by simpa using hx
      clear hx
      rw [got_no' hx']
      go_enter Tryz.func43, Tryz.ntmps43
      go_wp2_with fail
      refine (specReadingOk _ _ _ _).mono ?_
      rintro e w1 ⟨rfl, hg⟩
      replace a1 := a1.grown hg (by simp)
      replace g0 := gr_trans g0 hg
      clear hg
      obtain ⟨c0, c1, c2, f0, f1, f2⟩ := three a1
      go_wp2_with (go_at_call 78; refine (fix.specSizeOk _ _).mono ?_; rintro e w' ⟨rfl, rfl⟩)
      obtain ⟨k0, k1, k2, _, _, _⟩ := three (set3 a1 (.int .i64 (0)) (.int .i64 (0)) (.bool false))
      exact bodyPost_ret (v := .agg #[.int .i64 (0), .int .i64 (0), .bool false]) (by simp [results, Tryz.results43, go_sem, k0, k1, k2]) rfl ⟨rfl, gr_new (gr_new (gr_new g0 (by omega) _ _) (by omega) _ _) (by omega) _ _⟩
  · have h' : okR (v, a, o) = false := by simpa using h
    clear h
    rw [got_no h']
    go_enter Tryz.func43, Tryz.ntmps43
    go_wp2_with fail
    refine (specReadingOk _ _ _ _).mono ?_
    rintro e w1 ⟨rfl, hg⟩
    replace a1 := a1.grown hg (by simp)
    replace g0 := gr_trans g0 hg
    obtain ⟨c0, c1, c2, f0, f1, f2⟩ := three a1
    go_wp2_with fail
    obtain ⟨k0, k1, k2, _, _, _⟩ := three (set3 a1 (.int .i64 (0)) (.int .i64 (0)) (.bool false))
    exact bodyPost_ret (v := .agg #[.int .i64 (0), .int .i64 (0), .bool false]) (by simp [results, Tryz.results43, go_sem, k0, k1, k2]) rfl ⟨rfl, gr_new (gr_new (gr_new g0 (by omega) _ _) (by omega) _ _) (by omega) _ _⟩

set_option maxHeartbeats 1000000 in
theorem specIsFresh (v a m : Int) (o : Bool) (w : World) : Calls Tryz.prog 103 #[.agg #[.int .i64 v, .int .i64 a, .bool o], .int .i64 m] w (Ret (.bool (fresh (v, a, o) m)) w) := by
  have a0 := Has.fresh w 42 #[.int .i64 v, .int .i64 a, .bool o]
  have g0 := World.grownBy_alloc w (Obj.cells #[.int .i64 v, .int .i64 a, .bool o] 42) none
  by_cases h : okR (v, a, o) = true
  · cases o
    · go_enter Tryz.func103, Tryz.ntmps103
      go_wp2_with fail
      refine (specReadingOk _ _ _ _).mono ?_
      rintro e w1 ⟨rfl, hg⟩
      replace a0 := a0.grown hg (by simp)
      replace g0 := gr_trans g0 hg
      obtain ⟨c0, c1, c2, _, _, _⟩ := three a0
      go_wp2_with fail
      go_ret
      exact ⟨fix.ret_bool (by unfold fresh; simp), g0⟩
    · go_enter Tryz.func103, Tryz.ntmps103
      go_wp2_with fail
      refine (specReadingOk _ _ _ _).mono ?_
      rintro e w1 ⟨rfl, hg⟩
      replace a0 := a0.grown hg (by simp)
      replace g0 := gr_trans g0 hg
      obtain ⟨c0, c1, c2, _, _, _⟩ := three a0
      go_wp2_with fail
      go_ret
      exact ⟨fix.ret_bool (by unfold fresh; rw [h]; simp), g0⟩
  · have h' : okR (v, a, o) = false := by simpa using h
    clear h
    go_enter Tryz.func103, Tryz.ntmps103
    go_wp2_with fail
    refine (specReadingOk _ _ _ _).mono ?_
    rintro e w1 ⟨rfl, hg⟩
    replace g0 := gr_trans g0 hg
    go_wp2_with fail
    go_ret
    exact ⟨fix.ret_bool (by unfold fresh; rw [h']; rfl), g0⟩

set_option maxHeartbeats 1000000 in
theorem implGot (v a x : Int) (o : Bool) (w : World) : Calls Tryz.prog 95 #[.agg #[.int .i64 v, .int .i64 a, .bool o], .int .i64 x] w (RetR (got (v, a, o) x) w) := by
  have a0 := (Has.fresh w 42 #[.int .i64 v, .int .i64 a, .bool o]).alloc (Obj.cells #[.int .i64 0, .int .i64 0, .bool false] 42)
  have a1 := fresh1 w (Obj.cells #[.int .i64 v, .int .i64 a, .bool o] 42) 42 #[.int .i64 0, .int .i64 0, .bool false]
  have g0 : w.grownBy ((w.alloc (Obj.cells #[.int .i64 v, .int .i64 a, .bool o] 42)).alloc (Obj.cells #[.int .i64 0, .int .i64 0, .bool false] 42)) none := gr_alloc (World.grownBy_alloc _ _ _) _
  by_cases h : okR (v, a, o) = true
  · by_cases hx : inb x (-1000000) 1000000 = true
    · rw [got_ok h hx]
      go_enter Tryz.func95, Tryz.ntmps95
      go_wp2_with fail
      refine (implReadingOk _ _ _ _).mono ?_
      rintro e w1 ⟨rfl, hg⟩
      replace a1 := a1.grown hg (by simp)
      replace g0 := gr_trans g0 hg
      clear hg
      obtain ⟨c0, c1, c2, f0, f1, f2⟩ := three a1
      go_wp2_with (go_at_call 55; refine (fix.implSizeOk _ _).mono ?_; rintro e w' ⟨rfl, rfl⟩)
      obtain ⟨k0, k1, k2, _, _, _⟩ := three (set3 a1 (.int .i64 (x)) (.int .i64 (0)) (.bool true))
      exact bodyPost_ret (v := .agg #[.int .i64 (x), .int .i64 (0), .bool true]) (by simp [results, Tryz.results95, go_sem, k0, k1, k2]) rfl ⟨rfl, gr_new (gr_new (gr_new g0 (by omega) _ _) (by omega) _ _) (by omega) _ _⟩
    · have hx' : inb x (-1000000) 1000000 = false := by simpa using hx
      clear hx
      rw [got_no' hx']
      go_enter Tryz.func95, Tryz.ntmps95
      go_wp2_with fail
      refine (implReadingOk _ _ _ _).mono ?_
      rintro e w1 ⟨rfl, hg⟩
      replace a1 := a1.grown hg (by simp)
      replace g0 := gr_trans g0 hg
      clear hg
      obtain ⟨c0, c1, c2, f0, f1, f2⟩ := three a1
      go_wp2_with (go_at_call 55; refine (fix.implSizeOk _ _).mono ?_; rintro e w' ⟨rfl, rfl⟩)
      obtain ⟨k0, k1, k2, _, _, _⟩ := three (set3 a1 (.int .i64 (0)) (.int .i64 (0)) (.bool false))
      exact bodyPost_ret (v := .agg #[.int .i64 (0), .int .i64 (0), .bool false]) (by simp [results, Tryz.results95, go_sem, k0, k1, k2]) rfl ⟨rfl, gr_new (gr_new (gr_new g0 (by omega) _ _) (by omega) _ _) (by omega) _ _⟩
  · have h' : okR (v, a, o) = false := by simpa using h
    clear h
    rw [got_no h']
    go_enter Tryz.func95, Tryz.ntmps95
    go_wp2_with fail
    refine (implReadingOk _ _ _ _).mono ?_
    rintro e w1 ⟨rfl, hg⟩
    replace a1 := a1.grown hg (by simp)
    replace g0 := gr_trans g0 hg
    obtain ⟨c0, c1, c2, f0, f1, f2⟩ := three a1
    go_wp2_with fail
    obtain ⟨k0, k1, k2, _, _, _⟩ := three (set3 a1 (.int .i64 (0)) (.int .i64 (0)) (.bool false))
    exact bodyPost_ret (v := .agg #[.int .i64 (0), .int .i64 (0), .bool false]) (by simp [results, Tryz.results95, go_sem, k0, k1, k2]) rfl ⟨rfl, gr_new (gr_new (gr_new g0 (by omega) _ _) (by omega) _ _) (by omega) _ _⟩

set_option maxHeartbeats 1000000 in
theorem implIsFresh (v a m : Int) (o : Bool) (w : World) : Calls Tryz.prog 96 #[.agg #[.int .i64 v, .int .i64 a, .bool o], .int .i64 m] w (Ret (.bool (fresh (v, a, o) m)) w) := by
  have a0 := Has.fresh w 42 #[.int .i64 v, .int .i64 a, .bool o]
  have g0 := World.grownBy_alloc w (Obj.cells #[.int .i64 v, .int .i64 a, .bool o] 42) none
  by_cases h : okR (v, a, o) = true
  · cases o
    · go_enter Tryz.func96, Tryz.ntmps96
      go_wp2_with fail
      refine (implReadingOk _ _ _ _).mono ?_
      rintro e w1 ⟨rfl, hg⟩
      replace a0 := a0.grown hg (by simp)
      replace g0 := gr_trans g0 hg
      obtain ⟨c0, c1, c2, _, _, _⟩ := three a0
      go_wp2_with fail
      go_ret
      exact ⟨fix.ret_bool (by unfold fresh; simp), g0⟩
    · go_enter Tryz.func96, Tryz.ntmps96
      go_wp2_with fail
      refine (implReadingOk _ _ _ _).mono ?_
      rintro e w1 ⟨rfl, hg⟩
      replace a0 := a0.grown hg (by simp)
      replace g0 := gr_trans g0 hg
      obtain ⟨c0, c1, c2, _, _, _⟩ := three a0
      go_wp2_with fail
      go_ret
      exact ⟨fix.ret_bool (by unfold fresh; rw [h]; simp), g0⟩
  · have h' : okR (v, a, o) = false := by simpa using h
    clear h
    go_enter Tryz.func96, Tryz.ntmps96
    go_wp2_with fail
    refine (implReadingOk _ _ _ _).mono ?_
    rintro e w1 ⟨rfl, hg⟩
    replace g0 := gr_trans g0 hg
    go_wp2_with fail
    go_ret
    exact ⟨fix.ret_bool (by unfold fresh; rw [h']; rfl), g0⟩

end Go.Proofs.YtdikhdfpcipdbaaGreatDoor.rd

/- What came in: a reading, a list of readings; read, copied into new memory, compared, marked. -/
namespace Go.Proofs.YtdikhdfpcipdbaaGreatDoor.rd
open Go.ChangeShapes Go.WideShapes Go.ChangeAt Go.RowKit
open Go.Proofs.YtdikhdfpcipdbaaGreatDoor.nums Go.Proofs.YtdikhdfpcipdbaaGreatDoor.mem
open Go.Proofs.YtdikhdfpcipdbaaGreatDoor.tab (Ret quiet_w wpList_make_has add_off)
set_option linter.unusedVariables false

end Go.Proofs.YtdikhdfpcipdbaaGreatDoor.rd

/- Lists of readings in memory: read, grown, copied, compared, marked. -/
namespace Go.Proofs.YtdikhdfpcipdbaaGreatDoor.rd
open Go.ChangeShapes Go.WideShapes Go.ChangeAt Go.RowKit
open Go.Proofs.YtdikhdfpcipdbaaGreatDoor.nums Go.Proofs.YtdikhdfpcipdbaaGreatDoor.mem
open Go.Proofs.YtdikhdfpcipdbaaGreatDoor.tab (Ret quiet_w wpList_make_has add_off)
set_option linter.unusedVariables false

def rx (l : List R) (k : Nat) : Int := (l.getD k zR).1
def ra (l : List R) (k : Nat) : Int := (l.getD k zR).2.1
def ro (l : List R) (k : Nat) : Bool := (l.getD k zR).2.2
theorem rr (l : List R) (k : Nat) : l.getD k zR = (rx l k, ra l k, ro l k) := rfl
theorem getD_lt {l : List R} {k : Nat} (h : k < l.length) : l.getD k zR = l[k] := by simp [List.getD, h]
theorem rx_map {f : R → R} {l : List R} {k : Nat} (h : k < l.length) : (l.map f).getD k zR = f (rx l k, ra l k, ro l k) := by
  rw [← rr, getD_lt (by simpa using h), getD_lt h, List.getElem_map]
/-- The cells of a list of readings. -/
def rowR : List R → List Value
  | [] => []
  | r :: l => .int .i64 r.1 :: .int .i64 r.2.1 :: .bool r.2.2 :: rowR l
theorem rowR_snoc (l : List R) (r : R) : rowR (l ++ [r]) = rowR l ++ [.int .i64 r.1, .int .i64 r.2.1, .bool r.2.2] := by
  induction l with
  | nil => rfl
  | cons x l ih => simp only [List.cons_append, rowR, ih]
theorem rowR_at : ∀ (l : List R) (k : Nat), k < l.length → (rowR l)[k * 3]? = some (.int .i64 (rx l k)) ∧ (rowR l)[k * 3 + 1]? = some (.int .i64 (ra l k)) ∧ (rowR l)[k * 3 + 2]? = some (.bool (ro l k)) := by
  intro l
  induction l with
  | nil => intro k h; simp at h
  | cons x l ih =>
    intro k hk
    cases k with
    | zero => exact ⟨rfl, rfl, rfl⟩
    | succ k =>
      obtain ⟨h0, h1, h2⟩ := ih k (by simpa using hk)
      rw [show (k + 1) * 3 = k * 3 + 1 + 1 + 1 by omega]
      refine ⟨?_, ?_, ?_⟩
      · simp only [rowR, List.getElem?_cons_succ]; exact h0
      · simp only [rowR, List.getElem?_cons_succ]; exact h1
      · simp only [rowR, List.getElem?_cons_succ]; exact h2

/-- The slice holds these readings, each in three cells, in a block of the world. -/
def Arg (w : World) (a : Option Addr) (l : List R) : Prop :=
  ∀ k, k < l.length → ∃ x : Addr, a = some x ∧ x.block < w.heap.size ∧ w.cell? (x.add (k * 3)) = some (.int .i64 (rx l k)) ∧ w.cell? ⟨(x.add (k * 3)).block, (x.add (k * 3)).off + 1, none⟩ = some (.int .i64 (ra l k)) ∧ w.cell? ⟨(x.add (k * 3)).block, (x.add (k * 3)).off + 2, none⟩ = some (.bool (ro l k))
theorem Arg.nil (w : World) (a : Option Addr) : Arg w a [] := fun k hk => by simp at hk
theorem Arg.grown {w w' : World} {a : Option Addr} {l : List R} {row : Option Nat} (h : Arg w a l) (hg : w.grownBy w' row) (hn : ∀ x : Addr, a = some x → some x.block ≠ row) : Arg w' a l := by
  intro k hk
  obtain ⟨x, e, hb, h1, h2, h3⟩ := h k hk
  have hne : some (x.add (k * 3)).block ≠ row := by rw [block_add]; exact hn x e
  refine ⟨x, e, Nat.lt_of_lt_of_le hb hg.size, ?_, ?_, ?_⟩
  · rw [← h1]; exact World.cell?_of_block (hg.block _ (by rw [block_add]; omega) hne)
  · rw [← h2]; exact World.cell?_of_block (hg.block _ (by show (x.add (k * 3)).block < _; rw [block_add]; omega) hne)
  · rw [← h3]; exact World.cell?_of_block (hg.block _ (by show (x.add (k * 3)).block < _; rw [block_add]; omega) hne)
theorem Arg.kept {w w' : World} {a : Option Addr} {l : List R} (h : Arg w a l) (hg : w.grownBy w' none) : Arg w' a l := h.grown hg (fun x e => by simp)
theorem add0 (g m : Nat) : (⟨g, 0, none⟩ : Addr).add m = ⟨g, m, none⟩ := by unfold Addr.add; split <;> simp_all
/-- A row of one's own that holds them. -/
theorem arg_of_row {w : World} {base m cap : Nat} {a : Option Addr} {l : List R} (h : w.ownsRow base 42 3 (.slice a m cap) l.length (rowR l)) : Arg w a l := by
  intro k hk
  rcases h.2 with ⟨_, hn⟩ | ⟨g, cap', cur, hv, _, hc, _⟩
  · omega
  · injection hv with hv1 hv2 hv3
    subst hv1
    have hrow := h
    obtain ⟨h0, h1, h2⟩ := rowR_at l k hk
    rw [hv2] at hrow
    refine ⟨_, rfl, Has.lt hc, ?_, ?_, ?_⟩
    · rw [add0, hrow.cellAt (k * 3) (by omega)]; exact h0
    · rw [add0]; show w.cell? ⟨g, k * 3 + 1, none⟩ = _; rw [hrow.cellAt (k * 3 + 1) (by omega)]; exact h1
    · rw [add0]; show w.cell? ⟨g, k * 3 + 2, none⟩ = _; rw [hrow.cellAt (k * 3 + 2) (by omega)]; exact h2
/-- The block of a slice, where there is one. -/
def blk (a : Option Addr) : Option Nat := a.map Addr.block
/-- The readings lie in a block of their own that is known whole, or there are none. -/
def OwnR (w : World) (a : Option Addr) (l : List R) : Prop :=
  (a = none ∧ l = []) ∨ ∃ (g : Nat) (cs : Array Value), a = some ⟨g, 0, none⟩ ∧ Has w g 42 cs ∧ ∀ k, k < l.length → cs[k * 3]? = some (.int .i64 (rx l k)) ∧ cs[k * 3 + 1]? = some (.int .i64 (ra l k)) ∧ cs[k * 3 + 2]? = some (.bool (ro l k))
theorem OwnR.arg {w : World} {a : Option Addr} {l : List R} (h : OwnR w a l) : Arg w a l := by
  rcases h with ⟨rfl, rfl⟩ | ⟨g, cs, rfl, hc, hj⟩
  · exact Arg.nil _ _
  · intro k hk
    obtain ⟨h0, h1, h2⟩ := hj k hk
    refine ⟨_, rfl, hc.lt, ?_, ?_, ?_⟩
    · rw [add0, hc.cell]; exact h0
    · rw [add0]; show w.cell? ⟨g, k * 3 + 1, none⟩ = _; rw [hc.cell]; exact h1
    · rw [add0]; show w.cell? ⟨g, k * 3 + 2, none⟩ = _; rw [hc.cell]; exact h2
theorem OwnR.grown {w w' : World} {a : Option Addr} {l : List R} {row : Option Nat} (h : OwnR w a l) (hg : w.grownBy w' row) (hn : ∀ x : Addr, a = some x → some x.block ≠ row) : OwnR w' a l := by
  rcases h with h | ⟨g, cs, rfl, hc, hj⟩
  · exact Or.inl h
  · exact Or.inr ⟨g, cs, rfl, hc.grown hg (hn _ rfl), hj⟩
theorem OwnR.kept {w w' : World} {a : Option Addr} {l : List R} (h : OwnR w a l) (hg : w.grownBy w' none) : OwnR w' a l := h.grown hg (fun x e => by simp)
theorem OwnR.lt {w : World} {a : Option Addr} {l : List R} (h : OwnR w a l) {x : Addr} (e : a = some x) : x.block < w.heap.size := by
  rcases h with ⟨h, _⟩ | ⟨g, cs, h, hc, hj⟩
  · rw [h] at e; cases e
  · rw [h] at e; injection e with e; subst e; exact hc.lt

theorem infoReading : (Tryz.prog.info? 42).map (fun i => (i.zero, i.size, i.bytes)) = some (some (.agg #[.int .i64 0, .int .i64 0, .bool false]), 3, 24) := by kernel_rfl

/-- A list of its own comes back: of what was there nothing is another. -/
def RetO (l : List R) (w : World) (e : Ending) (w' : World) : Prop := ∃ a cap, e = .returned (.slice a l.length cap) ∧ w.grownBy w' none ∧ OwnR w' a l ∧ ∀ x : Addr, a = some x → w.heap.size ≤ x.block
theorem set3at {A : Array Value} {n k : Nat} {u v s : Value} (hs : n * 3 ≤ A.size) (hk : k < n) :
    let B := ((A.setIfInBounds (k * 3) u).setIfInBounds (k * 3 + 1) v).setIfInBounds (k * 3 + 2) s
    B[k * 3]? = some u ∧ B[k * 3 + 1]? = some v ∧ B[k * 3 + 2]? = some s ∧ B.size = A.size ∧ ∀ j, j ≠ k → B[j * 3]? = A[j * 3]? ∧ B[j * 3 + 1]? = A[j * 3 + 1]? ∧ B[j * 3 + 2]? = A[j * 3 + 2]? := by
  intro B
  refine ⟨?_, ?_, ?_, by simp [B], fun j hj => ⟨?_, ?_, ?_⟩⟩
  · simp [B, Array.getElem?_setIfInBounds]; omega
  · simp [B, Array.getElem?_setIfInBounds]; omega
  · simp [B, Array.getElem?_setIfInBounds]; omega
  all_goals
    simp only [B]
    rw [Array.getElem?_setIfInBounds_ne (by omega), Array.getElem?_setIfInBounds_ne (by omega), Array.getElem?_setIfInBounds_ne (by omega)]

/-- So far k of them are laid. -/
def Laid (A : Array Value) (l : List R) (k : Nat) : Prop := ∀ j, j < k → A[j * 3]? = some (.int .i64 (rx l j)) ∧ A[j * 3 + 1]? = some (.int .i64 (ra l j)) ∧ A[j * 3 + 2]? = some (.bool (ro l j))
theorem Laid.next {A : Array Value} {l : List R} {n k : Nat} {r : R} (h : Laid A l k) (hs : n * 3 ≤ A.size) (hk : k < n) (hr : l.getD k zR = r) :
    Laid (((A.setIfInBounds (k * 3) (.int .i64 r.1)).setIfInBounds (k * 3 + 1) (.int .i64 r.2.1)).setIfInBounds (k * 3 + 2) (.bool r.2.2)) l (k + 1) := by
  obtain ⟨h0, h1, h2, _, h4⟩ := set3at (u := .int .i64 r.1) (v := .int .i64 r.2.1) (s := .bool r.2.2) hs hk
  intro j hj
  by_cases e : j = k
  · subst e; subst hr; exact ⟨h0, h1, h2⟩
  · obtain ⟨e0, e1, e2⟩ := h4 j e
    obtain ⟨f0, f1, f2⟩ := h j (by omega)
    exact ⟨e0.trans f0, e1.trans f1, e2.trans f2⟩

end Go.Proofs.YtdikhdfpcipdbaaGreatDoor.rd

/- AgedAll, the model's and the program's. -/
namespace Go.Proofs.YtdikhdfpcipdbaaGreatDoor.rd
open Go.ChangeShapes Go.WideShapes Go.ChangeAt Go.RowKit
open Go.Proofs.YtdikhdfpcipdbaaGreatDoor.nums Go.Proofs.YtdikhdfpcipdbaaGreatDoor.mem
open Go.Proofs.YtdikhdfpcipdbaaGreatDoor.tab (Ret quiet_w wpList_make_has add_off)
set_option linter.unusedVariables false

theorem all_at {l : List R} (h : l.all okR = true) {k : Nat} (hk : k < l.length) : okR (rx l k, ra l k, ro l k) = true := by
  rw [← rr, getD_lt hk]
  exact List.all_eq_true.1 h _ (List.getElem_mem _)
theorem all_no {l : List R} {k : Nat} (hk : k < l.length) (h : okR (rx l k, ra l k, ro l k) = false) : l.all okR = false := by
  cases ha : l.all okR with
  | false => rfl
  | true => rw [all_at ha hk] at h; cases h
theorem all_yes {l : List R} (h : ∀ k, k < l.length → okR (rx l k, ra l k, ro l k) = true) : l.all okR = true := by
  rw [List.all_eq_true]
  intro r hr
  obtain ⟨k, hk, rfl⟩ := List.getElem_of_mem hr
  have := h k hk
  rwa [← rr, getD_lt hk] at this

theorem specRight (a : Option Addr) (cap : Nat) (l : List R) (w : World) (h : Arg w a l) (hl : l.length ≤ 1048576) : Calls Tryz.prog 52 #[.slice a l.length cap] w (Ret (.bool (l.all okR)) w) := by
  go_enter Tryz.func52, Tryz.ntmps52
  go_wp2_with fail
  go_loopw [3] (fun i wr => ∃ k : Nat, k ≤ l.length ∧ i = .int .i64 k ∧ Hid (∀ j, j < k → okR (rx l j, ra l j, ro l j) = true) ∧ w.grownBy wr none) (fun i _ => l.length - (intOf i).toNat)
  case atStart => exact ⟨0, Nat.zero_le _, rfl, Lib.hid (fun j hj => by omega), gr_refl _ _⟩
  case round =>
    obtain ⟨k, hk, rfl, hr, hg⟩ := hrel
    by_cases hlt : k < l.length
    · obtain ⟨x, rfl, hb, cx, cy, cz⟩ := (h.kept hg) k hlt
      by_cases ho : okR (rx l k, ra l k, ro l k) = true
      · go_wp2_with fail
        refine (specReadingOk _ _ _ _).mono ?_
        rintro e w1 ⟨rfl, hg1⟩
        have HO := Lib.hid ho
        go_wp2_with fail
        go_roundw
        case rel => exact ⟨k + 1, by omega, by go_num, Lib.hid (fun j hj => by
          by_cases e : j = k
          · subst e; exact HO.out
          · exact hr.out j (by omega)), gr_trans hg hg1⟩
        case measure => simp [intOf]; omega
      · have ho' : okR (rx l k, ra l k, ro l k) = false := by simpa using ho
        clear ho
        have HA := Lib.hid (all_no hlt ho')
        go_wp2_with fail
        refine (specReadingOk _ _ _ _).mono ?_
        rintro e w1 ⟨rfl, hg1⟩
        go_wp2_with fail
        go_ret
        exact ⟨fix.ret_bool HA.out.symm, gr_trans hg hg1⟩
    · obtain rfl : k = l.length := by omega
      have HA := Lib.hid (all_yes hr.out)
      go_wp2_with fail
      go_ret
      exact ⟨fix.ret_bool HA.out.symm, hg⟩

theorem map_take_snoc {l : List R} {k : Nat} (h : k < l.length) : (l.map ageR).take (k + 1) = (l.map ageR).take k ++ [ageR (rx l k, ra l k, ro l k)] := by
  have hk : k < (l.map ageR).length := by simpa using h
  rw [List.take_succ_eq_append_getElem hk, List.getElem_map, ← rr, getD_lt h]

theorem map_age {l : List R} {k : Nat} (h : k < l.length) : (l.map ageR).getD k zR = (rx l k, min 1000 (ra l k + 1), ro l k) := by rw [rx_map h, ageR]

end Go.Proofs.YtdikhdfpcipdbaaGreatDoor.rd

