/- Chapter 15 on plain senses: what is fed. Chapter 8: errors.Is at a refusal that wraps one of the program's three errors; Go's own text of errors.Is and errors.is is walked. Chapter 8 of the program: isTooFast and whyNot. Chapter 8: errors.As at a refusal and a variable of that type; Go's own text of errors.As and errors.as is walked. -/
import Derived.Test.YtdikhdfpcipdbaaGreatDoorG4
import Derived.Test.YtdikhdfpcipdbaaGreatDoorG5
import Derived.Test.YtdikhdfpcipdbaaGreatDoorG10
import Derived.Test.YtdikhdfpcipdbaaGreatDoorG3
import Derived.LaidEql
import Derived.Stop.Asserts
import Derived.RowKitTokens
import Derived.Laws.CopyRow
import Derived.Laws.Cells
/- Chapter 15 on plain senses: what is fed. -/
namespace Go.Proofs.YtdikhdfpcipdbaaGreatDoor.se
open Go.ChangeShapes Go.WideShapes Go.ChangeAt Go.RowKit
open Go.Proofs.YtdikhdfpcipdbaaGreatDoor.nums Go.Proofs.YtdikhdfpcipdbaaGreatDoor.mem
open Go.Proofs.YtdikhdfpcipdbaaGreatDoor.tab (Ret)
open Go.Proofs.YtdikhdfpcipdbaaGreatDoor.rd (R okR ageR zR rx ra ro rx_map getD_lt OwnR)
open Go.Proofs.YtdikhdfpcipdbaaGreatDoor.il (nth Ints Own)
open Go.Proofs.YtdikhdfpcipdbaaGreatDoor.stm (Fr heard)
set_option linter.unusedVariables false

/-- What each value makes of its reading. -/
def each (f : R → Int → R) (l : List R) (vs : List Int) : List R := (List.range l.length).map fun i => f (rx l i, ra l i, ro l i) (nth vs i)
theorem each_len (f : R → Int → R) (l : List R) (vs : List Int) : (each f l vs).length = l.length := by simp [each]
theorem each_at {f : R → Int → R} {l : List R} {vs : List Int} {k : Nat} (h : k < l.length) : (each f l vs).getD k zR = f (rx l k, ra l k, ro l k) (nth vs k) := by simp [each, List.getD, h]
def tk (lo hi rt : Int) (r : R) (x : Int) : R := sane.taken lo hi rt r.1 r.2.1 x r.2.2
def gt (r : R) (x : Int) : R := rd.got r (btw x 0 1000)
/-- A list by what was heard of it. -/
def part (f : R → Int → R) (l : List R) (o : Option Fr) : List R := match o with
  | none => l.map ageR
  | some v => each f l v.2.2
theorem part_len (f : R → Int → R) (l : List R) (o : Option Fr) : (part f l o).length = l.length := by
  cases o
  · simp [part]
  · exact each_len _ _ _
def hd (s : S) (fs : List Fr) (k : Nat) : Option Fr := heard ((k : Int) + 1) (nth s.sq k) fs
def sqOf (s : S) (fs : List Fr) (k : Nat) : Int := match hd s fs k with
  | none => nth s.sq k
  | some f => f.2.1
def wnOf (s : S) (fs : List Fr) : Int := match hd s fs 3 with
  | none => s.wn
  | some f => if inb (nth f.2.2 0) 0 2 = true then nth f.2.2 0 else s.wn
def arOf (s : S) (fs : List Fr) : Bool := match hd s fs 3 with
  | none => s.ar
  | some f => !decide (nth f.2.2 1 = 0)
/-- Where k Kinds have been heard; what is not yet heard is aged. -/
def upto (s : S) (fs : List Fr) (k : Nat) : S where
  sp := part (tk 0 400 20) s.sp (if 0 < k then hd s fs 0 else none)
  he := part (tk 0 2000 60) s.he (if 1 < k then hd s fs 1 else none)
  fa := part gt s.fa (if 2 < k then hd s fs 2 else none)
  wn := if 3 < k then wnOf s fs else s.wn
  ar := if 3 < k then arOf s fs else s.ar
  sq := [if 0 < k then sqOf s fs 0 else nth s.sq 0, if 1 < k then sqOf s fs 1 else nth s.sq 1, if 2 < k then sqOf s fs 2 else nth s.sq 2, if 3 < k then sqOf s fs 3 else nth s.sq 3]
def fed (s : S) (fs : List Fr) : S := if ok s = true then upto s fs 4 else zS
theorem fed_ok {s : S} {fs : List Fr} (h : ok s = true) : fed s fs = upto s fs 4 := if_pos h
theorem fed_no {s : S} {fs : List Fr} (h : ok s = false) : fed s fs = zS := if_neg (by rw [h]; simp)
end Go.Proofs.YtdikhdfpcipdbaaGreatDoor.se

/- Chapter 8: errors.Is at a refusal that wraps one of the program's three errors; Go's own text of errors.Is and errors.is is walked. -/
namespace Go.Proofs.YtdikhdfpcipdbaaGreatDoor.sane
open Go.ChangeShapes Go.WideShapes Go.ChangeAt Go.RowKit
open Go.Extern.Stop Go.Stop Go.Extern
open Go.Proofs.YtdikhdfpcipdbaaGreatDoor.nums Go.Proofs.YtdikhdfpcipdbaaGreatDoor.mem
open Go.Proofs.YtdikhdfpcipdbaaGreatDoor.tab (Ret)
set_option linter.unusedVariables false

/-! ### closed facts: the target's type, its comparability, the method sets -/
theorem isTypeOf (v : Value) (w : World) : (Extern.ReflectliteType.typeOf #[.iface 253 v]).run Tryz.prog w = .ok (.iface 196 (.agg #[.pointer (some ⟨7, 253, none⟩)])) w := by kernel_rfl
/-- What the model has for Comparable: at this type it answers yes. -/
theorem isComparable : ∃ g : Array Value → Sem Value, Extern.find Tryz.f225 = some g ∧ ∀ w : World, (g #[.agg #[.pointer (some ⟨7, 253, none⟩)]]).run Tryz.prog w = .ok (.bool true) w :=
  ⟨(Extern.find Tryz.f225).get (by kernel_rfl), (Option.some_get _).symm, fun w => by kernel_rfl⟩
theorem isMethodComparable (v : Value) (w : World) : (Go.method 392 196 v "Comparable").run Tryz.prog w = .ok (225, v) w := by kernel_rfl
theorem isComp : (Tryz.prog.info? 253).map (·.comparable) = some true := by kernel_rfl
theorem isSize : (Tryz.prog.info? 276).map (·.size) = some 1 := by kernel_rfl
theorem noIsE (v : Value) (xT : TypeId) (w : World) : (Instr.typeAssert (.iface 253 v) xT 198 true).run Tryz.prog w = .ok (.tuple #[.nilIface, .bool false]) w := run_typeAssert_lacksB Tryz.underlying198 (by kernel_rfl) (by kernel_rfl) v xT w
theorem noUnwrapE (v : Value) (xT : TypeId) (w : World) : (Instr.typeAssert (.iface 253 v) xT 201 true).run Tryz.prog w = .ok (.tuple #[.nilIface, .bool false]) w := run_typeAssert_lacksB Tryz.underlying201 (by kernel_rfl) (by kernel_rfl) v xT w
theorem noUnwrapsE (v : Value) (xT : TypeId) (w : World) : (Instr.typeAssert (.iface 253 v) xT 203 true).run Tryz.prog w = .ok (.tuple #[.nilIface, .bool false]) w := run_typeAssert_lacksB Tryz.underlying203 (by kernel_rfl) (by kernel_rfl) v xT w
theorem noIsW (v : Value) (xT : TypeId) (w : World) : (Instr.typeAssert (.iface 150 v) xT 198 true).run Tryz.prog w = .ok (.tuple #[.nilIface, .bool false]) w := run_typeAssert_lacksB Tryz.underlying198 (by kernel_rfl) (by kernel_rfl) v xT w
theorem hasUnwrapW (v : Value) (xT : TypeId) (w : World) : (Instr.typeAssert (.iface 150 v) xT 201 true).run Tryz.prog w = .ok (.tuple #[.iface 150 v, .bool true]) w := run_typeAssert_hasB Tryz.underlying201 (by kernel_rfl) v xT w
theorem methodUnwrap (v : Value) (w : World) : (Go.method 392 150 v "Unwrap").run Tryz.prog w = .ok (218, v) w := by kernel_rfl

/-- A refusal as an error: what it keeps and what it wraps. -/
def refE (v a : Int) (o : Bool) (why : Addr) : Value := .iface 150 (.agg #[.int .i64 v, .int .i64 a, .bool o, .iface 253 (.pointer (some why))])

/-- errors.Is(nil, x). -/
theorem is_nil (b : Addr) (w : World) : Calls Tryz.prog 116 #[.nilIface, .iface 253 (.pointer (some b))] w (Ret (.bool false) w) := by
  have hn := run_eql_iface_nil_left (P := Tryz.prog) w 253 (.pointer (some b)) Tryz.underlying147
  go_enter Tryz.func116, Tryz.ntmps116
  go_wp2
  go_ret
  exact ⟨rfl, gr_refl _ _⟩

set_option maxHeartbeats 2000000 in
/-- errors.Is of a refusal that wraps x itself: one Unwrap, then equal. -/
theorem is_same (v a : Int) (o : Bool) (b : Addr) (w : World) : Calls Tryz.prog 116 #[refE v a o b, .iface 253 (.pointer (some b))] w (Ret (.bool true) w) := by
  unfold refE
  obtain ⟨i, hi, hcmp⟩ := Option.map_eq_some_iff.1 isComp
  obtain ⟨j, hj, hjs⟩ := Option.map_eq_some_iff.1 isSize
  obtain ⟨gC, fC, cT⟩ := isComparable
  have h8 := @run_callFunc_extern Tryz.prog 126 _ Extern.ReflectliteType.typeOf Tryz.func126 (by kernel_rfl) (by kernel_rfl) (by kernel_rfl) (by kernel_rfl)
  have h32 := @run_callFunc_extern Tryz.prog 225 _ gC Tryz.func225 (by kernel_rfl) (by kernel_rfl) (by kernel_rfl) fC
  have tT := isTypeOf
  have mR := isMethodComparable
  have nE := noIsE
  have uE := noUnwrapE
  have vE := noUnwrapsE
  have nW := noIsW
  have uW := hasUnwrapW
  have mU := methodUnwrap
  have heq := fun W : World => run_eql_iface_ptr_same (P := Tryz.prog) W b Tryz.underlying147 Tryz.underlying253 hi hcmp hj
  have hty := fun (W : World) (x : Value) => run_eql_iface_types (P := Tryz.prog) 150 253 x (.pointer (some b)) Tryz.underlying147 (by decide) W
  go_enter Tryz.func116, Tryz.ntmps116
  go_wp2
  refine wp_loop_rounds 2 ?_
  rw [rounds_succ]
  go_wp2
  rw [rounds_succ]
  go_wp2
  go_ret
  exact ⟨rfl, World.grownBy_alloc _ _ _⟩

set_option maxHeartbeats 2000000 in
/-- errors.Is of a refusal that wraps another error of errors.New's make: one Unwrap, then none. -/
theorem is_other (v a : Int) (o : Bool) (y b : Addr) (cy cb : Array Value) (ty tb : TypeId) (w : World) (hne : y ≠ b) (hy : Has w y.block ty cy) (hb : Has w b.block tb cb) : Calls Tryz.prog 116 #[refE v a o y, .iface 253 (.pointer (some b))] w (Ret (.bool false) w) := by
  unfold refE
  obtain ⟨i, hi, hcmp⟩ := Option.map_eq_some_iff.1 isComp
  obtain ⟨j, hj, hjs⟩ := Option.map_eq_some_iff.1 isSize
  obtain ⟨gC, fC, cT⟩ := isComparable
  have h8 := @run_callFunc_extern Tryz.prog 126 _ Extern.ReflectliteType.typeOf Tryz.func126 (by kernel_rfl) (by kernel_rfl) (by kernel_rfl) (by kernel_rfl)
  have h32 := @run_callFunc_extern Tryz.prog 225 _ gC Tryz.func225 (by kernel_rfl) (by kernel_rfl) (by kernel_rfl) fC
  have tT := isTypeOf
  have mR := isMethodComparable
  have nE := noIsE
  have uE := noUnwrapE
  have vE := noUnwrapsE
  have nW := noIsW
  have uW := hasUnwrapW
  have mU := methodUnwrap
  have heq := run_eql_iface_ptr_other (P := Tryz.prog) (w.alloc (Obj.cells #[.int .i64 v, .int .i64 a, .bool o, .iface 253 (.pointer (some y))] 150)) Tryz.underlying147 Tryz.underlying253 hi hcmp hj (by rw [hjs]; decide) hne (hy.alloc _) (hb.alloc _)
  have hty := fun (W : World) (x : Value) => run_eql_iface_types (P := Tryz.prog) 150 253 x (.pointer (some b)) Tryz.underlying147 (by decide) W
  go_enter Tryz.func116, Tryz.ntmps116
  go_wp2
  refine wp_loop_rounds 2 ?_
  rw [rounds_succ]
  go_wp2
  rw [rounds_succ]
  go_wp2
  go_ret
  exact ⟨rfl, World.grownBy_alloc _ _ _⟩
end Go.Proofs.YtdikhdfpcipdbaaGreatDoor.sane

/- Chapter 8 of the program: isTooFast and whyNot. -/
namespace Go.Proofs.YtdikhdfpcipdbaaGreatDoor.sane
open Go.ChangeShapes Go.WideShapes Go.ChangeAt Go.RowKit
open Go.Proofs.YtdikhdfpcipdbaaGreatDoor.nums Go.Proofs.YtdikhdfpcipdbaaGreatDoor.mem
open Go.Proofs.YtdikhdfpcipdbaaGreatDoor.tab (Ret quiet_w)
open Go.Proofs.YtdikhdfpcipdbaaGreatDoor.rd (okR okR_iff RetR)
set_option linter.unusedVariables false

theorem fast_near (ra v a x : Int) : decide (max v x - min v x > ra * (a + 1)) = !nearB ra v a x := by
  unfold nearB
  have h : max v x - min v x = max (x - v) (-(x - v)) := by omega
  rw [h]
  by_cases hh : max (x - v) (-(x - v)) ≤ ra * (a + 1)
  · simp [hh]
  · simp [hh]; omega
theorem fast_of {ra v a x d : Int} (h : d = max v x - min v x) : decide (d > ra * (a + 1)) = (true && !nearB ra v a x) := by
  rw [h, fast_near]; rfl
set_option maxHeartbeats 1000000 in
theorem implTooFast (ra v a x : Int) (o : Bool) (w : World) (hra : 1 ≤ ra ∧ ra ≤ 1000000) (hv : -1000000 ≤ v ∧ v ≤ 1000000) (ha : 0 ≤ a ∧ a ≤ 1000) (hx : -1000000 ≤ x ∧ x ≤ 1000000) : Calls Tryz.prog 125 #[.int .i64 ra, .agg #[.int .i64 v, .int .i64 a, .bool o], .int .i64 x] w (Ret (.bool (o && !nearB ra v a x)) w) := by
  have aR := Has.fresh w 42 #[.int .i64 v, .int .i64 a, .bool o]
  have g0 : w.grownBy (w.alloc (Obj.cells #[.int .i64 v, .int .i64 a, .bool o] 42)) none := World.grownBy_alloc _ _ _
  obtain ⟨d0, d1, d2, df0, df1, df2⟩ := rd.three aR
  obtain ⟨p0, p1⟩ := prod_bd hra.1 hra.2 ha.1 ha.2
  obtain ⟨ra0, ra1⟩ := hra
  obtain ⟨v0, v1⟩ := hv
  obtain ⟨a0, a1⟩ := ha
  obtain ⟨x0, x1⟩ := hx
  cases o
  · go_enter Tryz.func125, Tryz.ntmps125
    go_wp2_with fail
    all_goals (go_ret; exact ⟨fix.ret_bool (by simp), g0⟩)
  · go_enter Tryz.func125, Tryz.ntmps125
    go_wp2_with fail
    all_goals (go_ret; exact ⟨fix.ret_bool (fast_of (by omega)), g0⟩)
/-- The three package variables hold errors at n, f and q. -/
structure Errs (w : World) (n f q : Addr) : Prop where
  cn : w.cell? ⟨3, 0, none⟩ = some (.iface 253 (.pointer (some n)))
  cf : w.cell? ⟨4, 0, none⟩ = some (.iface 253 (.pointer (some f)))
  cq : w.cell? ⟨5, 0, none⟩ = some (.iface 253 (.pointer (some q)))
theorem cell_kept {w w' : World} {a : Addr} {v : Value} (h : w.cell? a = some v) (hg : w.grownBy w' none) : w'.cell? a = some v := by
  have hl : a.block < w.heap.size := by
    rcases Nat.lt_or_ge a.block w.heap.size with h1 | h1
    · exact h1
    · simp [World.cell?, Array.getElem?_eq_none h1] at h
  rw [← h]; unfold World.cell?; rw [hg.block a.block hl (by simp)]
theorem Errs.kept {w w' : World} {n f q : Addr} (h : Errs w n f q) (hg : w.grownBy w' none) : Errs w' n f q := ⟨cell_kept h.cn hg, cell_kept h.cf hg, cell_kept h.cq hg⟩
/-- Why a value is refused, or nil. -/
def whyE (lo hi ra v a x : Int) (o : Bool) (n f q : Addr) : Value :=
  if (okG lo hi ra && okR (v, a, o)) = false then refE v a o n else if inb x lo hi = false then refE v a o f else if (o && !nearB ra v a x) = true then refE v a o q else .nilIface

set_option maxHeartbeats 1000000 in
theorem implWhyNot (lo hi ra v a x : Int) (o : Bool) (n f q : Addr) (w : World) (he : Errs w n f q) : Calls Tryz.prog 115 #[.agg #[.int .i64 lo, .int .i64 hi, .int .i64 ra], .agg #[.int .i64 v, .int .i64 a, .bool o], .int .i64 x] w (Ret (whyE lo hi ra v a x o n f q) w) := by
  have aG := (Has.fresh w 72 #[.int .i64 lo, .int .i64 hi, .int .i64 ra]).alloc (Obj.cells #[.int .i64 v, .int .i64 a, .bool o] 42)
  have aR := rd.fresh1 w (Obj.cells #[.int .i64 lo, .int .i64 hi, .int .i64 ra] 72) 42 #[.int .i64 v, .int .i64 a, .bool o]
  have g0 : w.grownBy ((w.alloc (Obj.cells #[.int .i64 lo, .int .i64 hi, .int .i64 ra] 72)).alloc (Obj.cells #[.int .i64 v, .int .i64 a, .bool o] 42)) none := gr_alloc (World.grownBy_alloc _ _ _) _
  have hE := he.kept g0
  rcases Bool.eq_false_or_eq_true (okG lo hi ra) with h0 | h0
  rotate_left
  · go_enter Tryz.func115, Tryz.ntmps115
    go_wp2_with fail
    refine (implRangeOk _ _ _ _).mono ?_
    rintro e w1 ⟨rfl, hg⟩
    replace aG := aG.grown hg (by simp)
    replace aR := aR.grown hg (by simp)
    replace g0 := gr_trans g0 hg
    replace hE := hE.kept hg
    clear hg
    obtain ⟨c0, c1, c2, cf0, cf1, cf2⟩ := rd.three aG
    obtain ⟨d0, d1, d2, df0, df1, df2⟩ := rd.three aR
    have en := hE.cn
    have ef := hE.cf
    have eq := hE.cq
    go_wp2_with fail
    go_ret
    exact ⟨by unfold whyE refE; simp [h0], g0⟩
  rcases Bool.eq_false_or_eq_true (okR (v, a, o)) with h1 | h1
  rotate_left
  · go_enter Tryz.func115, Tryz.ntmps115
    go_wp2_with fail
    refine (implRangeOk _ _ _ _).mono ?_
    rintro e w1 ⟨rfl, hg⟩
    replace aG := aG.grown hg (by simp)
    replace aR := aR.grown hg (by simp)
    replace g0 := gr_trans g0 hg
    replace hE := hE.kept hg
    clear hg
    obtain ⟨c0, c1, c2, cf0, cf1, cf2⟩ := rd.three aG
    obtain ⟨d0, d1, d2, df0, df1, df2⟩ := rd.three aR
    have en := hE.cn
    have ef := hE.cf
    have eq := hE.cq
    go_wp2_with fail
    refine (rd.implReadingOk _ _ _ _).mono ?_
    rintro e w2 ⟨rfl, hg⟩
    replace aG := aG.grown hg (by simp)
    replace aR := aR.grown hg (by simp)
    replace g0 := gr_trans g0 hg
    replace hE := hE.kept hg
    clear hg
    clear c0 c1 c2 cf0 cf1 cf2 d0 d1 d2 df0 df1 df2 en ef eq
    obtain ⟨c0, c1, c2, cf0, cf1, cf2⟩ := rd.three aG
    obtain ⟨d0, d1, d2, df0, df1, df2⟩ := rd.three aR
    have en := hE.cn
    have ef := hE.cf
    have eq := hE.cq
    go_wp2_with fail
    go_ret
    exact ⟨by unfold whyE refE; simp [h0, h1], g0⟩
  obtain ⟨⟨lo0, lo1⟩, ⟨hi0, hi1⟩, _, ra0, ra1⟩ := okG_iff.1 h0
  obtain ⟨⟨v0, v1⟩, a0, a1⟩ := okR_iff.1 h1
  rcases Bool.eq_false_or_eq_true (inb x lo hi) with h2 | h2
  rotate_left
  · go_enter Tryz.func115, Tryz.ntmps115
    go_wp2_with fail
    refine (implRangeOk _ _ _ _).mono ?_
    rintro e w1 ⟨rfl, hg⟩
    replace aG := aG.grown hg (by simp)
    replace aR := aR.grown hg (by simp)
    replace g0 := gr_trans g0 hg
    replace hE := hE.kept hg
    clear hg
    obtain ⟨c0, c1, c2, cf0, cf1, cf2⟩ := rd.three aG
    obtain ⟨d0, d1, d2, df0, df1, df2⟩ := rd.three aR
    have en := hE.cn
    have ef := hE.cf
    have eq := hE.cq
    go_wp2_with fail
    refine (rd.implReadingOk _ _ _ _).mono ?_
    rintro e w2 ⟨rfl, hg⟩
    replace aG := aG.grown hg (by simp)
    replace aR := aR.grown hg (by simp)
    replace g0 := gr_trans g0 hg
    replace hE := hE.kept hg
    clear hg
    clear c0 c1 c2 cf0 cf1 cf2 d0 d1 d2 df0 df1 df2 en ef eq
    obtain ⟨c0, c1, c2, cf0, cf1, cf2⟩ := rd.three aG
    obtain ⟨d0, d1, d2, df0, df1, df2⟩ := rd.three aR
    have en := hE.cn
    have ef := hE.cf
    have eq := hE.cq
    have h3 := inb_no.1 h2
    go_wp2_with fail
    all_goals (go_ret; exact ⟨by unfold whyE refE; simp [h0, h1, h2], g0⟩)
  obtain ⟨x0, x1⟩ := inb_iff.1 h2
  rcases Bool.eq_false_or_eq_true (o && !nearB ra v a x) with h3 | h3
  · go_enter Tryz.func115, Tryz.ntmps115
    go_wp2_with fail
    refine (implRangeOk _ _ _ _).mono ?_
    rintro e w1 ⟨rfl, hg⟩
    replace aG := aG.grown hg (by simp)
    replace aR := aR.grown hg (by simp)
    replace g0 := gr_trans g0 hg
    replace hE := hE.kept hg
    clear hg
    obtain ⟨c0, c1, c2, cf0, cf1, cf2⟩ := rd.three aG
    obtain ⟨d0, d1, d2, df0, df1, df2⟩ := rd.three aR
    have en := hE.cn
    have ef := hE.cf
    have eq := hE.cq
    go_wp2_with fail
    refine (rd.implReadingOk _ _ _ _).mono ?_
    rintro e w2 ⟨rfl, hg⟩
    replace aG := aG.grown hg (by simp)
    replace aR := aR.grown hg (by simp)
    replace g0 := gr_trans g0 hg
    replace hE := hE.kept hg
    clear hg
    clear c0 c1 c2 cf0 cf1 cf2 d0 d1 d2 df0 df1 df2 en ef eq
    obtain ⟨c0, c1, c2, cf0, cf1, cf2⟩ := rd.three aG
    obtain ⟨d0, d1, d2, df0, df1, df2⟩ := rd.three aR
    have en := hE.cn
    have ef := hE.cf
    have eq := hE.cq
    go_wp2_with fail
    refine (implTooFast ra v a x o _ ⟨ra0, ra1⟩ ⟨v0, v1⟩ ⟨a0, a1⟩ ⟨by omega, by omega⟩).mono ?_
    rintro e w3 ⟨rfl, hg⟩
    replace aG := aG.grown hg (by simp)
    replace aR := aR.grown hg (by simp)
    replace g0 := gr_trans g0 hg
    replace hE := hE.kept hg
    clear hg
    clear c0 c1 c2 cf0 cf1 cf2 d0 d1 d2 df0 df1 df2 en ef eq
    obtain ⟨c0, c1, c2, cf0, cf1, cf2⟩ := rd.three aG
    obtain ⟨d0, d1, d2, df0, df1, df2⟩ := rd.three aR
    have en := hE.cn
    have ef := hE.cf
    have eq := hE.cq
    rw [h3]
    go_wp2_with fail
    go_ret
    exact ⟨by unfold whyE refE; simp [h0, h1, h2, h3], g0⟩
  · go_enter Tryz.func115, Tryz.ntmps115
    go_wp2_with fail
    refine (implRangeOk _ _ _ _).mono ?_
    rintro e w1 ⟨rfl, hg⟩
    replace aG := aG.grown hg (by simp)
    replace aR := aR.grown hg (by simp)
    replace g0 := gr_trans g0 hg
    replace hE := hE.kept hg
    clear hg
    obtain ⟨c0, c1, c2, cf0, cf1, cf2⟩ := rd.three aG
    obtain ⟨d0, d1, d2, df0, df1, df2⟩ := rd.three aR
    have en := hE.cn
    have ef := hE.cf
    have eq := hE.cq
    go_wp2_with fail
    refine (rd.implReadingOk _ _ _ _).mono ?_
    rintro e w2 ⟨rfl, hg⟩
    replace aG := aG.grown hg (by simp)
    replace aR := aR.grown hg (by simp)
    replace g0 := gr_trans g0 hg
    replace hE := hE.kept hg
    clear hg
    clear c0 c1 c2 cf0 cf1 cf2 d0 d1 d2 df0 df1 df2 en ef eq
    obtain ⟨c0, c1, c2, cf0, cf1, cf2⟩ := rd.three aG
    obtain ⟨d0, d1, d2, df0, df1, df2⟩ := rd.three aR
    have en := hE.cn
    have ef := hE.cf
    have eq := hE.cq
    go_wp2_with fail
    refine (implTooFast ra v a x o _ ⟨ra0, ra1⟩ ⟨v0, v1⟩ ⟨a0, a1⟩ ⟨by omega, by omega⟩).mono ?_
    rintro e w3 ⟨rfl, hg⟩
    replace aG := aG.grown hg (by simp)
    replace aR := aR.grown hg (by simp)
    replace g0 := gr_trans g0 hg
    replace hE := hE.kept hg
    clear hg
    clear c0 c1 c2 cf0 cf1 cf2 d0 d1 d2 df0 df1 df2 en ef eq
    obtain ⟨c0, c1, c2, cf0, cf1, cf2⟩ := rd.three aG
    obtain ⟨d0, d1, d2, df0, df1, df2⟩ := rd.three aR
    have en := hE.cn
    have ef := hE.cf
    have eq := hE.cq
    rw [h3]
    go_wp2_with fail
    go_ret
    exact ⟨by unfold whyE refE; simp [h0, h1, h2, h3], g0⟩
end Go.Proofs.YtdikhdfpcipdbaaGreatDoor.sane

/- Chapter 8: errors.As at a refusal and a variable of that type; Go's own text of errors.As and errors.as is walked. -/
namespace Go.Proofs.YtdikhdfpcipdbaaGreatDoor.sane
open Go.ChangeShapes Go.WideShapes Go.ChangeAt Go.RowKit
open Go.Extern.Stop Go.Stop Go.Extern
open Go.Proofs.YtdikhdfpcipdbaaGreatDoor.nums Go.Proofs.YtdikhdfpcipdbaaGreatDoor.mem
open Go.Proofs.YtdikhdfpcipdbaaGreatDoor.tab (Ret)
set_option linter.unusedVariables false

/-- errors.As(nil, target). -/
theorem as_nil (t : Value) (w : World) : Calls Tryz.prog 117 #[.nilIface, t] w (Ret (.bool false) w) := by
  go_enter Tryz.func117, Tryz.ntmps117
  go_wp2
  go_ret
  exact ⟨rfl, gr_refl _ _⟩

/-! ### closed facts on the model's entries -/
abbrev hd (t : TypeId) : Value := .pointer (some ⟨7, t, none⟩)
/-- reflectlite's Type of a type. -/
abbrev ty (t : TypeId) : Value := .iface 196 (.agg #[hd t])
/-- The Value that ValueOf makes of a pointer to a refusal. -/
abbrev vp (a : Addr) : Value := .agg #[hd 153, .pointer (some a), .int .u64 150]
abbrev ve (a : Addr) : Value := .agg #[hd 150, .pointer (some a), .int .u64 409]
abbrev vr (a : Addr) : Value := .agg #[hd 150, .pointer (some a), .int .u64 153]

theorem asValueOfP (t : Addr) (w : World) : (ReflectliteValue.unpack (.iface 153 (.pointer (some t)))).run Tryz.prog w
    = .ok (vp ⟨w.heap.size, 0, none⟩) (w.alloc (.cells #[.pointer (some t)] 153)) := by kernel_rfl
theorem asValueOfR (a b c d : Value) (w : World) : (ReflectliteValue.unpack (.iface 150 (.agg #[a, b, c, d]))).run Tryz.prog w
    = .ok (vr ⟨w.heap.size, 0, none⟩) (w.alloc (.cells #[a, b, c, d] 150)) := by kernel_rfl
theorem asType : ∃ g : Array Value → Sem Value, Extern.find Tryz.f129 = some g ∧ ∀ (a : Addr) (w : World), (g #[vp a]).run Tryz.prog w = .ok (ty 153) w :=
  ⟨(Extern.find Tryz.f129).get (by kernel_rfl), (Option.some_get _).symm, fun a w => by kernel_rfl⟩
theorem asMethodKind (h : Value) (w : World) : (Go.method 392 196 (.agg #[h]) "Kind").run Tryz.prog w = .ok (211, h) w := by kernel_rfl
theorem asKind : ∃ g : Array Value → Sem Value, Extern.find Tryz.f211 = some g ∧ (∀ w : World, (g #[hd 153]).run Tryz.prog w = .ok (.int .u8 22) w) ∧ ∀ w : World, (g #[hd 150]).run Tryz.prog w = .ok (.int .u8 25) w :=
  ⟨(Extern.find Tryz.f211).get (by kernel_rfl), (Option.some_get _).symm, fun w => by kernel_rfl, fun w => by kernel_rfl⟩
theorem asMethodElem (h : Value) (w : World) : (Go.method 392 196 (.agg #[h]) "Elem").run Tryz.prog w = .ok (226, .agg #[h]) w := by kernel_rfl
theorem asMethodImplements (h : Value) (w : World) : (Go.method 392 196 (.agg #[h]) "Implements").run Tryz.prog w = .ok (227, .agg #[h]) w := by kernel_rfl
theorem asMethodAssignable (h : Value) (w : World) : (Go.method 392 196 (.agg #[h]) "AssignableTo").run Tryz.prog w = .ok (224, .agg #[h]) w := by kernel_rfl
theorem asElem : ∃ g : Array Value → Sem Value, Extern.find Tryz.f226 = some g ∧ ∀ w : World, (g #[.agg #[hd 153]]).run Tryz.prog w = .ok (ty 150) w :=
  ⟨(Extern.find Tryz.f226).get (by kernel_rfl), (Option.some_get _).symm, fun w => by kernel_rfl⟩
theorem asImplements : ∃ g : Array Value → Sem Value, Extern.find Tryz.f227 = some g ∧ ∀ w : World, (g #[.agg #[hd 150], ty 147]).run Tryz.prog w = .ok (.bool true) w :=
  ⟨(Extern.find Tryz.f227).get (by kernel_rfl), (Option.some_get _).symm, fun w => by kernel_rfl⟩
theorem asAssignable : ∃ g : Array Value → Sem Value, Extern.find Tryz.f224 = some g ∧ ∀ w : World, (g #[.agg #[hd 150], ty 150]).run Tryz.prog w = .ok (.bool true) w :=
  ⟨(Extern.find Tryz.f224).get (by kernel_rfl), (Option.some_get _).symm, fun w => by kernel_rfl⟩
theorem asTypeOf (v : Value) (w : World) : (Extern.ReflectliteType.typeOf #[.iface 150 v]).run Tryz.prog w = .ok (ty 150) w := by kernel_rfl

/-! ### the entries that read or write memory -/
theorem asPartsP (a : Addr) (w : World) : (ReflectliteValue.parts (vp a)).run Tryz.prog w = .ok (some (153, a, 150)) w := by kernel_rfl
theorem asPartsE (a : Addr) (w : World) : (ReflectliteValue.parts (ve a)).run Tryz.prog w = .ok (some (150, a, 409)) w := by kernel_rfl
theorem asPartsR (a : Addr) (w : World) : (ReflectliteValue.parts (vr a)).run Tryz.prog w = .ok (some (150, a, 153)) w := by kernel_rfl
theorem asElemOf (w : World) : (Rtype.elem? 153).run Tryz.prog w = .ok (some 150) w := by kernel_rfl
theorem asMk (p : Addr) (w : World) : (ReflectliteValue.mk 150 p ReflectliteValue.flagAddr).run Tryz.prog w = .ok (ve p) w := by kernel_rfl
theorem asDirect (w : World) : (Rtype.directlyAssignable 150 150).run Tryz.prog w = .ok true w := by kernel_rfl
/-- (Value).IsNil at the Value of a pointer that is not nil. -/
theorem asIsNil (a p : Addr) (W : World) (ha : W.cell? a = some (.pointer (some p))) :
    (ReflectliteValue.method (ReflectliteValue.valueError "reflectlite.Value.IsNil" 0) ReflectliteValue.isNil #[vp a]).run Tryz.prog W = .ok (.bool false) W := by
  show Sem.run Tryz.prog (Bind.bind (ReflectliteValue.parts (vp a)) _) W = _
  simp only [Sem.run_bind, asPartsP, Result.andThen]
  simp [ReflectliteValue.isNil, loadVar, isAgg, underlying, Tryz.underlying153, ha, Result.andThen]
/-- (Value).Elem at the Value of a pointer that is not nil. -/
theorem asElemV (a p : Addr) (W : World) (ha : W.cell? a = some (.pointer (some p))) :
    (ReflectliteValue.method (ReflectliteValue.valueError "reflectlite.Value.Elem" 0) ReflectliteValue.elem #[vp a]).run Tryz.prog W = .ok (ve p) W := by
  show Sem.run Tryz.prog (Bind.bind (ReflectliteValue.parts (vp a)) _) W = _
  simp only [Sem.run_bind, asPartsP, Result.andThen]
  simp [ReflectliteValue.elem, loadVar, isAgg, underlying, Tryz.underlying153, ha, Result.andThen, asElemOf, asMk]
theorem add_at (b j : Nat) : (⟨b, 0, none⟩ : Addr).add j = ⟨b, j, none⟩ := by
  unfold Addr.add; split <;> simp_all
theorem asLoad (b : Nat) (t : TypeId) (x0 x1 x2 x3 : Value) (W : World) (hb : Has W b t #[x0, x1, x2, x3]) : (loadVar 150 ⟨b, 0, none⟩).run Tryz.prog W = .ok (.agg #[x0, x1, x2, x3]) W := by
  have h := run_loadCells_list (P := Tryz.prog) (w := W) ⟨b, 0, none⟩ [x0, x1, x2, x3] (by
    intro j v hj
    rw [add_at, hb.cell j]
    simpa using hj)
  have h' : (loadCells ⟨b, 0, none⟩ 4).run Tryz.prog W = .ok #[x0, x1, x2, x3] W := by simpa using h
  simp [loadVar, isAgg, underlying, Tryz.underlying150, Result.andThen, h']
theorem asStore (g : Nat) (t : TypeId) (y0 y1 y2 y3 x0 x1 x2 x3 : Value) (W : World) (hg : Has W g t #[y0, y1, y2, y3]) (h1 : ∀ v ∈ [x0, x1, x2, x3], v.oneCell' = true) :
    (storeVar 150 ⟨g, 0, none⟩ (.agg #[x0, x1, x2, x3])).run Tryz.prog W = .ok () (W.setRow g #[x0, x1, x2, x3]) := by
  have h := run_storeCells_at (P := Tryz.prog) g 0 t [x0, x1, x2, x3] 0 #[y0, y1, y2, y3] W hg (by simp) h1
  have h' : (storeCells ⟨g, 0, none⟩ [x0, x1, x2, x3]).run Tryz.prog W = .ok () (W.setRow g #[x0, x1, x2, x3]) := by simpa using h
  simp [storeVar, Value.cells, Result.andThen, h']
/-- (Value).Set: the refusal's variable gets what the Value's own variable holds. -/
theorem asSet (g b : Nat) (t t' : TypeId) (y0 y1 y2 y3 x0 x1 x2 x3 : Value) (W : World) (hb : Has W b t' #[x0, x1, x2, x3]) (hg : Has W g t #[y0, y1, y2, y3]) (h1 : ∀ v ∈ [x0, x1, x2, x3], v.oneCell' = true) :
    (ReflectliteValue.set #[ve ⟨g, 0, none⟩, vr ⟨b, 0, none⟩]).run Tryz.prog W = .ok (.tuple #[]) (W.setRow g #[x0, x1, x2, x3]) := by
  show Sem.run Tryz.prog (Bind.bind (ReflectliteValue.parts (ve ⟨g, 0, none⟩)) fun p => Bind.bind (ReflectliteValue.parts (vr ⟨b, 0, none⟩)) _) W = _
  simp only [Sem.run_bind, asPartsE, asPartsR, Result.andThen]
  simp [ReflectliteValue.flagAddr, Result.andThen, asDirect, asLoad b t' x0 x1 x2 x3 W hb, asStore g t y0 y1 y2 y3 x0 x1 x2 x3 W hg h1]
end Go.Proofs.YtdikhdfpcipdbaaGreatDoor.sane

