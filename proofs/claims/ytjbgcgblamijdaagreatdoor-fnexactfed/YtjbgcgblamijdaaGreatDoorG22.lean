/- Chapter 8 of the program: isTooFast and whyNot. Chapter 8: errors.As at a refusal and a variable of that type; Go's own text of errors.As and errors.as is walked. -/
import Derived.Test.YtjbgcgblamijdaaGreatDoorG21
import Derived.Test.YtjbgcgblamijdaaGreatDoorG9
import Derived.Laws.CopyRow
import Derived.Laws.Cells
/- Chapter 8 of the program: isTooFast and whyNot. -/
namespace Go.Proofs.YtjbgcgblamijdaaGreatDoor.sane
open Go.ChangeShapes Go.WideShapes Go.ChangeAt Go.RowKit
open Go.Proofs.YtjbgcgblamijdaaGreatDoor.nums Go.Proofs.YtjbgcgblamijdaaGreatDoor.mem
open Go.Proofs.YtjbgcgblamijdaaGreatDoor.tab (Ret quiet_w)
open Go.Proofs.YtjbgcgblamijdaaGreatDoor.rd (okR okR_iff RetR)
set_option linter.unusedVariables false

theorem fast_near (ra v a x : Int) : decide (max v x - min v x > ra * (a + 1)) = !nearB ra v a x := by
  unfold nearB
  have h : max v x - min v x = max (x - v) (-(x - v)) := by omega
  rw [h]
  by_cases hh : max (x - v) (-(x - v)) ≤ ra * (a + 1)
  · simp [hh]
  · simp [hh]; omega
theorem fast_of {ra v a x d : Int} (h : d = max v x - min v x) : decide (d > ra * (a + 1)) = (true && !nearB ra v a x) := by
  rw [h, fast_near]; rfl
set_option maxHeartbeats 1000000 in
theorem implTooFast (ra v a x : Int) (o : Bool) (w : World) (hra : 1 ≤ ra ∧ ra ≤ 1000000) (hv : -1000000 ≤ v ∧ v ≤ 1000000) (ha : 0 ≤ a ∧ a ≤ 1000) (hx : -1000000 ≤ x ∧ x ≤ 1000000) : Calls Tryz.prog 150 #[.int .i64 ra, .agg #[.int .i64 v, .int .i64 a, .bool o], .int .i64 x] w (Ret (.bool (o && !nearB ra v a x)) w) := by
  have aR := Has.fresh w 42 #[.int .i64 v, .int .i64 a, .bool o]
  have g0 : w.grownBy (w.alloc (Obj.cells #[.int .i64 v, .int .i64 a, .bool o] 42)) none := World.grownBy_alloc _ _ _
  obtain ⟨d0, d1, d2, df0, df1, df2⟩ := rd.three aR
  obtain ⟨p0, p1⟩ := prod_bd hra.1 hra.2 ha.1 ha.2
  obtain ⟨ra0, ra1⟩ := hra
  obtain ⟨v0, v1⟩ := hv
  obtain ⟨a0, a1⟩ := ha
  obtain ⟨x0, x1⟩ := hx
  cases o
  · go_enter Tryz.func150, Tryz.ntmps150
    go_wp2_with fail
    all_goals (go_ret; exact ⟨fix.ret_bool (by simp), g0⟩)
  · go_enter Tryz.func150, Tryz.ntmps150
    go_wp2_with fail
    all_goals (go_ret; exact ⟨fix.ret_bool (fast_of (by omega)), g0⟩)
/-- The three package variables hold errors at n, f and q. -/
structure Errs (w : World) (n f q : Addr) : Prop where
  cn : w.cell? ⟨3, 0, none⟩ = some (.iface 276 (.pointer (some n)))
  cf : w.cell? ⟨4, 0, none⟩ = some (.iface 276 (.pointer (some f)))
  cq : w.cell? ⟨5, 0, none⟩ = some (.iface 276 (.pointer (some q)))
theorem cell_kept {w w' : World} {a : Addr} {v : Value} (h : w.cell? a = some v) (hg : w.grownBy w' none) : w'.cell? a = some v := by
  have hl : a.block < w.heap.size := by
    rcases Nat.lt_or_ge a.block w.heap.size with h1 | h1
    · exact h1
    · simp [World.cell?, Array.getElem?_eq_none h1] at h
  rw [← h]; unfold World.cell?; rw [hg.block a.block hl (by simp)]
theorem Errs.kept {w w' : World} {n f q : Addr} (h : Errs w n f q) (hg : w.grownBy w' none) : Errs w' n f q := ⟨cell_kept h.cn hg, cell_kept h.cf hg, cell_kept h.cq hg⟩
/-- Why a value is refused, or nil. -/
def whyE (lo hi ra v a x : Int) (o : Bool) (n f q : Addr) : Value :=
  if (okG lo hi ra && okR (v, a, o)) = false then refE v a o n else if inb x lo hi = false then refE v a o f else if (o && !nearB ra v a x) = true then refE v a o q else .nilIface

set_option maxHeartbeats 1000000 in
theorem implWhyNot (lo hi ra v a x : Int) (o : Bool) (n f q : Addr) (w : World) (he : Errs w n f q) : Calls Tryz.prog 140 #[.agg #[.int .i64 lo, .int .i64 hi, .int .i64 ra], .agg #[.int .i64 v, .int .i64 a, .bool o], .int .i64 x] w (Ret (whyE lo hi ra v a x o n f q) w) := by
  have aG := (Has.fresh w 84 #[.int .i64 lo, .int .i64 hi, .int .i64 ra]).alloc (Obj.cells #[.int .i64 v, .int .i64 a, .bool o] 42)
  have aR := rd.fresh1 w (Obj.cells #[.int .i64 lo, .int .i64 hi, .int .i64 ra] 84) 42 #[.int .i64 v, .int .i64 a, .bool o]
  have g0 : w.grownBy ((w.alloc (Obj.cells #[.int .i64 lo, .int .i64 hi, .int .i64 ra] 84)).alloc (Obj.cells #[.int .i64 v, .int .i64 a, .bool o] 42)) none := gr_alloc (World.grownBy_alloc _ _ _) _
  have hE := he.kept g0
  rcases Bool.eq_false_or_eq_true (okG lo hi ra) with h0 | h0
  rotate_left
  · go_enter Tryz.func140, Tryz.ntmps140
    go_wp2_with fail
    refine (implRangeOk _ _ _ _).mono ?_
    rintro e w1 ⟨rfl, hg⟩
    replace aG := aG.grown hg (by simp)
    replace aR := aR.grown hg (by simp)
    replace g0 := gr_trans g0 hg
    replace hE := hE.kept hg
    clear hg
    obtain ⟨c0, c1, c2, cf0, cf1, cf2⟩ := rd.three aG
    obtain ⟨d0, d1, d2, df0, df1, df2⟩ := rd.three aR
    have en := hE.cn
    have ef := hE.cf
    have eq := hE.cq
    go_wp2_with fail
    go_ret
    exact ⟨by unfold whyE refE; simp [h0], g0⟩
  rcases Bool.eq_false_or_eq_true (okR (v, a, o)) with h1 | h1
  rotate_left
  · go_enter Tryz.func140, Tryz.ntmps140
    go_wp2_with fail
    refine (implRangeOk _ _ _ _).mono ?_
    rintro e w1 ⟨rfl, hg⟩
    replace aG := aG.grown hg (by simp)
    replace aR := aR.grown hg (by simp)
    replace g0 := gr_trans g0 hg
    replace hE := hE.kept hg
    clear hg
    obtain ⟨c0, c1, c2, cf0, cf1, cf2⟩ := rd.three aG
    obtain ⟨d0, d1, d2, df0, df1, df2⟩ := rd.three aR
    have en := hE.cn
    have ef := hE.cf
    have eq := hE.cq
    go_wp2_with fail
    refine (rd.implReadingOk _ _ _ _).mono ?_
    rintro e w2 ⟨rfl, hg⟩
    replace aG := aG.grown hg (by simp)
    replace aR := aR.grown hg (by simp)
    replace g0 := gr_trans g0 hg
    replace hE := hE.kept hg
    clear hg
    clear c0 c1 c2 cf0 cf1 cf2 d0 d1 d2 df0 df1 df2 en ef eq
    obtain ⟨c0, c1, c2, cf0, cf1, cf2⟩ := rd.three aG
    obtain ⟨d0, d1, d2, df0, df1, df2⟩ := rd.three aR
    have en := hE.cn
    have ef := hE.cf
    have eq := hE.cq
    go_wp2_with fail
    go_ret
    exact ⟨by unfold whyE refE; simp [h0, h1], g0⟩
  obtain ⟨⟨lo0, lo1⟩, ⟨hi0, hi1⟩, _, ra0, ra1⟩ := okG_iff.1 h0
  obtain ⟨⟨v0, v1⟩, a0, a1⟩ := okR_iff.1 h1
  rcases Bool.eq_false_or_eq_true (inb x lo hi) with h2 | h2
  rotate_left
  · go_enter Tryz.func140, Tryz.ntmps140
    go_wp2_with fail
    refine (implRangeOk _ _ _ _).mono ?_
    rintro e w1 ⟨rfl, hg⟩
    replace aG := aG.grown hg (by simp)
    replace aR := aR.grown hg (by simp)
    replace g0 := gr_trans g0 hg
    replace hE := hE.kept hg
    clear hg
    obtain ⟨c0, c1, c2, cf0, cf1, cf2⟩ := rd.three aG
    obtain ⟨d0, d1, d2, df0, df1, df2⟩ := rd.three aR
    have en := hE.cn
    have ef := hE.cf
    have eq := hE.cq
    go_wp2_with fail
    refine (rd.implReadingOk _ _ _ _).mono ?_
    rintro e w2 ⟨rfl, hg⟩
    replace aG := aG.grown hg (by simp)
    replace aR := aR.grown hg (by simp)
    replace g0 := gr_trans g0 hg
    replace hE := hE.kept hg
    clear hg
    clear c0 c1 c2 cf0 cf1 cf2 d0 d1 d2 df0 df1 df2 en ef eq
    obtain ⟨c0, c1, c2, cf0, cf1, cf2⟩ := rd.three aG
    obtain ⟨d0, d1, d2, df0, df1, df2⟩ := rd.three aR
    have en := hE.cn
    have ef := hE.cf
    have eq := hE.cq
    have h3 := inb_no.1 h2
    go_wp2_with fail
    all_goals (go_ret; exact ⟨by unfold whyE refE; simp [h0, h1, h2], g0⟩)
  obtain ⟨x0, x1⟩ := inb_iff.1 h2
  rcases Bool.eq_false_or_eq_true (o && !nearB ra v a x) with h3 | h3
  · go_enter Tryz.func140, Tryz.ntmps140
    go_wp2_with fail
    refine (implRangeOk _ _ _ _).mono ?_
    rintro e w1 ⟨rfl, hg⟩
    replace aG := aG.grown hg (by simp)
    replace aR := aR.grown hg (by simp)
    replace g0 := gr_trans g0 hg
    replace hE := hE.kept hg
    clear hg
    obtain ⟨c0, c1, c2, cf0, cf1, cf2⟩ := rd.three aG
    obtain ⟨d0, d1, d2, df0, df1, df2⟩ := rd.three aR
    have en := hE.cn
    have ef := hE.cf
    have eq := hE.cq
    go_wp2_with fail
    refine (rd.implReadingOk _ _ _ _).mono ?_
    rintro e w2 ⟨rfl, hg⟩
    replace aG := aG.grown hg (by simp)
    replace aR := aR.grown hg (by simp)
    replace g0 := gr_trans g0 hg
    replace hE := hE.kept hg
    clear hg
    clear c0 c1 c2 cf0 cf1 cf2 d0 d1 d2 df0 df1 df2 en ef eq
    obtain ⟨c0, c1, c2, cf0, cf1, cf2⟩ := rd.three aG
    obtain ⟨d0, d1, d2, df0, df1, df2⟩ := rd.three aR
    have en := hE.cn
    have ef := hE.cf
    have eq := hE.cq
    go_wp2_with fail
    refine (implTooFast ra v a x o _ ⟨ra0, ra1⟩ ⟨v0, v1⟩ ⟨a0, a1⟩ ⟨by omega, by omega⟩).mono ?_
    rintro e w3 ⟨rfl, hg⟩
    replace aG := aG.grown hg (by simp)
    replace aR := aR.grown hg (by simp)
    replace g0 := gr_trans g0 hg
    replace hE := hE.kept hg
    clear hg
    clear c0 c1 c2 cf0 cf1 cf2 d0 d1 d2 df0 df1 df2 en ef eq
    obtain ⟨c0, c1, c2, cf0, cf1, cf2⟩ := rd.three aG
    obtain ⟨d0, d1, d2, df0, df1, df2⟩ := rd.three aR
    have en := hE.cn
    have ef := hE.cf
    have eq := hE.cq
    rw [h3]
    go_wp2_with fail
    go_ret
    exact ⟨by unfold whyE refE; simp [h0, h1, h2, h3], g0⟩
  · go_enter Tryz.func140, Tryz.ntmps140
    go_wp2_with fail
    refine (implRangeOk _ _ _ _).mono ?_
    rintro e w1 ⟨rfl, hg⟩
    replace aG := aG.grown hg (by simp)
    replace aR := aR.grown hg (by simp)
    replace g0 := gr_trans g0 hg
    replace hE := hE.kept hg
    clear hg
    obtain ⟨c0, c1, c2, cf0, cf1, cf2⟩ := rd.three aG
    obtain ⟨d0, d1, d2, df0, df1, df2⟩ := rd.three aR
    have en := hE.cn
    have ef := hE.cf
    have eq := hE.cq
    go_wp2_with fail
    refine (rd.implReadingOk _ _ _ _).mono ?_
    rintro e w2 ⟨rfl, hg⟩
    replace aG := aG.grown hg (by simp)
    replace aR := aR.grown hg (by simp)
    replace g0 := gr_trans g0 hg
    replace hE := hE.kept hg
    clear hg
    clear c0 c1 c2 cf0 cf1 cf2 d0 d1 d2 df0 df1 df2 en ef eq
    obtain ⟨c0, c1, c2, cf0, cf1, cf2⟩ := rd.three aG
    obtain ⟨d0, d1, d2, df0, df1, df2⟩ := rd.three aR
    have en := hE.cn
    have ef := hE.cf
    have eq := hE.cq
    go_wp2_with fail
    refine (implTooFast ra v a x o _ ⟨ra0, ra1⟩ ⟨v0, v1⟩ ⟨a0, a1⟩ ⟨by omega, by omega⟩).mono ?_
    rintro e w3 ⟨rfl, hg⟩
    replace aG := aG.grown hg (by simp)
    replace aR := aR.grown hg (by simp)
    replace g0 := gr_trans g0 hg
    replace hE := hE.kept hg
    clear hg
    clear c0 c1 c2 cf0 cf1 cf2 d0 d1 d2 df0 df1 df2 en ef eq
    obtain ⟨c0, c1, c2, cf0, cf1, cf2⟩ := rd.three aG
    obtain ⟨d0, d1, d2, df0, df1, df2⟩ := rd.three aR
    have en := hE.cn
    have ef := hE.cf
    have eq := hE.cq
    rw [h3]
    go_wp2_with fail
    go_ret
    exact ⟨by unfold whyE refE; simp [h0, h1, h2, h3], g0⟩
end Go.Proofs.YtjbgcgblamijdaaGreatDoor.sane

/- Chapter 8: errors.As at a refusal and a variable of that type; Go's own text of errors.As and errors.as is walked. -/
namespace Go.Proofs.YtjbgcgblamijdaaGreatDoor.sane
open Go.ChangeShapes Go.WideShapes Go.ChangeAt Go.RowKit
open Go.Extern.Stop Go.Stop Go.Extern
open Go.Proofs.YtjbgcgblamijdaaGreatDoor.nums Go.Proofs.YtjbgcgblamijdaaGreatDoor.mem
open Go.Proofs.YtjbgcgblamijdaaGreatDoor.tab (Ret)
set_option linter.unusedVariables false

/-- errors.As(nil, target). -/
theorem as_nil (t : Value) (w : World) : Calls Tryz.prog 142 #[.nilIface, t] w (Ret (.bool false) w) := by
  go_enter Tryz.func142, Tryz.ntmps142
  go_wp2
  go_ret
  exact ⟨rfl, gr_refl _ _⟩

/-! ### closed facts on the model's entries -/
abbrev hd (t : TypeId) : Value := .pointer (some ⟨7, t, none⟩)
/-- reflectlite's Type of a type. -/
abbrev ty (t : TypeId) : Value := .iface 219 (.agg #[hd t])
/-- The Value that ValueOf makes of a pointer to a refusal. -/
abbrev vp (a : Addr) : Value := .agg #[hd 176, .pointer (some a), .int .u64 150]
abbrev ve (a : Addr) : Value := .agg #[hd 173, .pointer (some a), .int .u64 409]
abbrev vr (a : Addr) : Value := .agg #[hd 173, .pointer (some a), .int .u64 153]

theorem asValueOfP (t : Addr) (w : World) : (ReflectliteValue.unpack (.iface 176 (.pointer (some t)))).run Tryz.prog w
    = .ok (vp ⟨w.heap.size, 0, none⟩) (w.alloc (.cells #[.pointer (some t)] 176)) := by kernel_rfl
theorem asValueOfR (a b c d : Value) (w : World) : (ReflectliteValue.unpack (.iface 173 (.agg #[a, b, c, d]))).run Tryz.prog w
    = .ok (vr ⟨w.heap.size, 0, none⟩) (w.alloc (.cells #[a, b, c, d] 173)) := by kernel_rfl
theorem asType : ∃ g : Array Value → Sem Value, Extern.find Tryz.f154 = some g ∧ ∀ (a : Addr) (w : World), (g #[vp a]).run Tryz.prog w = .ok (ty 176) w :=
  ⟨(Extern.find Tryz.f154).get (by kernel_rfl), (Option.some_get _).symm, fun a w => by kernel_rfl⟩
theorem asMethodKind (h : Value) (w : World) : (Go.method 415 219 (.agg #[h]) "Kind").run Tryz.prog w = .ok (236, h) w := by kernel_rfl
theorem asKind : ∃ g : Array Value → Sem Value, Extern.find Tryz.f236 = some g ∧ (∀ w : World, (g #[hd 176]).run Tryz.prog w = .ok (.int .u8 22) w) ∧ ∀ w : World, (g #[hd 173]).run Tryz.prog w = .ok (.int .u8 25) w :=
  ⟨(Extern.find Tryz.f236).get (by kernel_rfl), (Option.some_get _).symm, fun w => by kernel_rfl, fun w => by kernel_rfl⟩
theorem asMethodElem (h : Value) (w : World) : (Go.method 415 219 (.agg #[h]) "Elem").run Tryz.prog w = .ok (250, .agg #[h]) w := by kernel_rfl
theorem asMethodImplements (h : Value) (w : World) : (Go.method 415 219 (.agg #[h]) "Implements").run Tryz.prog w = .ok (251, .agg #[h]) w := by kernel_rfl
theorem asMethodAssignable (h : Value) (w : World) : (Go.method 415 219 (.agg #[h]) "AssignableTo").run Tryz.prog w = .ok (248, .agg #[h]) w := by kernel_rfl
theorem asElem : ∃ g : Array Value → Sem Value, Extern.find Tryz.f250 = some g ∧ ∀ w : World, (g #[.agg #[hd 176]]).run Tryz.prog w = .ok (ty 173) w :=
  ⟨(Extern.find Tryz.f250).get (by kernel_rfl), (Option.some_get _).symm, fun w => by kernel_rfl⟩
theorem asImplements : ∃ g : Array Value → Sem Value, Extern.find Tryz.f251 = some g ∧ ∀ w : World, (g #[.agg #[hd 173], ty 170]).run Tryz.prog w = .ok (.bool true) w :=
  ⟨(Extern.find Tryz.f251).get (by kernel_rfl), (Option.some_get _).symm, fun w => by kernel_rfl⟩
theorem asAssignable : ∃ g : Array Value → Sem Value, Extern.find Tryz.f248 = some g ∧ ∀ w : World, (g #[.agg #[hd 173], ty 173]).run Tryz.prog w = .ok (.bool true) w :=
  ⟨(Extern.find Tryz.f248).get (by kernel_rfl), (Option.some_get _).symm, fun w => by kernel_rfl⟩
theorem asTypeOf (v : Value) (w : World) : (Extern.ReflectliteType.typeOf #[.iface 173 v]).run Tryz.prog w = .ok (ty 173) w := by kernel_rfl

/-! ### the entries that read or write memory -/
theorem asPartsP (a : Addr) (w : World) : (ReflectliteValue.parts (vp a)).run Tryz.prog w = .ok (some (176, a, 150)) w := by kernel_rfl
theorem asPartsE (a : Addr) (w : World) : (ReflectliteValue.parts (ve a)).run Tryz.prog w = .ok (some (173, a, 409)) w := by kernel_rfl
theorem asPartsR (a : Addr) (w : World) : (ReflectliteValue.parts (vr a)).run Tryz.prog w = .ok (some (173, a, 153)) w := by kernel_rfl
theorem asElemOf (w : World) : (Rtype.elem? 176).run Tryz.prog w = .ok (some 173) w := by kernel_rfl
theorem asMk (p : Addr) (w : World) : (ReflectliteValue.mk 173 p ReflectliteValue.flagAddr).run Tryz.prog w = .ok (ve p) w := by kernel_rfl
theorem asDirect (w : World) : (Rtype.directlyAssignable 173 173).run Tryz.prog w = .ok true w := by kernel_rfl
theorem asSize (w : World) : (sizeOf 173).run Tryz.prog w = .ok 4 w := by kernel_rfl
/-- (Value).IsNil at the Value of a pointer that is not nil. -/
theorem asIsNil (a p : Addr) (W : World) (ha : W.cell? a = some (.pointer (some p))) :
    (ReflectliteValue.method (ReflectliteValue.valueError "reflectlite.Value.IsNil" 0) ReflectliteValue.isNil #[vp a]).run Tryz.prog W = .ok (.bool false) W := by
  show Sem.run Tryz.prog (Bind.bind (ReflectliteValue.parts (vp a)) _) W = _
  simp only [Sem.run_bind, asPartsP, Result.andThen]
  simp [ReflectliteValue.isNil, loadVar, isAgg, underlying, Tryz.underlying176, ha, Result.andThen]
/-- (Value).Elem at the Value of a pointer that is not nil. -/
theorem asElemV (a p : Addr) (W : World) (ha : W.cell? a = some (.pointer (some p))) :
    (ReflectliteValue.method (ReflectliteValue.valueError "reflectlite.Value.Elem" 0) ReflectliteValue.elem #[vp a]).run Tryz.prog W = .ok (ve p) W := by
  show Sem.run Tryz.prog (Bind.bind (ReflectliteValue.parts (vp a)) _) W = _
  simp only [Sem.run_bind, asPartsP, Result.andThen]
  simp [ReflectliteValue.elem, loadVar, isAgg, underlying, Tryz.underlying176, ha, Result.andThen, asElemOf, asMk]
theorem add_at (b j : Nat) : (⟨b, 0, none⟩ : Addr).add j = ⟨b, j, none⟩ := by
  unfold Addr.add; split <;> simp_all
theorem asLoad (b : Nat) (t : TypeId) (x0 x1 x2 x3 : Value) (W : World) (hb : Has W b t #[x0, x1, x2, x3]) : (loadVar 173 ⟨b, 0, none⟩).run Tryz.prog W = .ok (.agg #[x0, x1, x2, x3]) W := by
  have h := run_loadCells_list (P := Tryz.prog) (w := W) ⟨b, 0, none⟩ [x0, x1, x2, x3] (by
    intro j v hj
    rw [add_at, hb.cell j]
    simpa using hj)
  have h' : (loadCells ⟨b, 0, none⟩ 4).run Tryz.prog W = .ok #[x0, x1, x2, x3] W := by simpa using h
  simp [loadVar, isAgg, underlying, Tryz.underlying173, Result.andThen, h']
theorem asStore (g : Nat) (t : TypeId) (y0 y1 y2 y3 x0 x1 x2 x3 : Value) (W : World) (hg : Has W g t #[y0, y1, y2, y3]) (h1 : ∀ v ∈ [x0, x1, x2, x3], v.oneCell' = true) :
    (storeVar 173 ⟨g, 0, none⟩ (.agg #[x0, x1, x2, x3])).run Tryz.prog W = .ok () (W.setRow g #[x0, x1, x2, x3]) := by
  have h := run_storeCells_at (P := Tryz.prog) g 0 t [x0, x1, x2, x3] 0 #[y0, y1, y2, y3] W hg (by simp) h1
  have h' : (storeCells ⟨g, 0, none⟩ [x0, x1, x2, x3]).run Tryz.prog W = .ok () (W.setRow g #[x0, x1, x2, x3]) := by simpa using h
  simp [storeVar, Value.cells, Result.andThen, h']
/-- (Value).Set: the refusal's variable gets what the Value's own variable holds. -/
theorem asSet (g b : Nat) (t t' : TypeId) (y0 y1 y2 y3 x0 x1 x2 x3 : Value) (W : World) (hb : Has W b t' #[x0, x1, x2, x3]) (hg : Has W g t #[y0, y1, y2, y3]) (h1 : ∀ v ∈ [x0, x1, x2, x3], v.oneCell' = true) :
    (ReflectliteValue.set #[ve ⟨g, 0, none⟩, vr ⟨b, 0, none⟩]).run Tryz.prog W = .ok (.tuple #[]) (W.setRow g #[x0, x1, x2, x3]) := by
  show Sem.run Tryz.prog (Bind.bind (ReflectliteValue.parts (ve ⟨g, 0, none⟩)) fun p => Bind.bind (ReflectliteValue.parts (vr ⟨b, 0, none⟩)) _) W = _
  simp only [Sem.run_bind, asPartsE, asPartsR, Result.andThen]
  simp [ReflectliteValue.flagAddr, Result.andThen, asDirect, asLoad b t' x0 x1 x2 x3 W hb, asStore g t y0 y1 y2 y3 x0 x1 x2 x3 W hg h1]
end Go.Proofs.YtjbgcgblamijdaaGreatDoor.sane

