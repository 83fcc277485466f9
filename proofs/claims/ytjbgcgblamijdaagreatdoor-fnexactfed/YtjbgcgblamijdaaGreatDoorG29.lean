/- shapeOf and told of the program. Chapter 7 on plain numbers; lists of numbers of one's own in memory. -/
import Derived.Test.YtjbgcgblamijdaaGreatDoorG27
import Derived.Test.YtjbgcgblamijdaaGreatDoorG28
import Derived.Test.YtjbgcgblamijdaaGreatDoorG6
/- shapeOf and told of the program. -/
namespace Go.Proofs.YtjbgcgblamijdaaGreatDoor.se
open Go.ChangeShapes Go.WideShapes Go.ChangeAt Go.RowKit
open Go.Proofs.YtjbgcgblamijdaaGreatDoor.nums Go.Proofs.YtjbgcgblamijdaaGreatDoor.mem
open Go.Proofs.YtjbgcgblamijdaaGreatDoor.tab (Ret)
open Go.Proofs.YtjbgcgblamijdaaGreatDoor.rd (R okR ageR zR rx ra ro OwnR)
open Go.Proofs.YtjbgcgblamijdaaGreatDoor.il (nth Ints Own)
set_option linter.unusedVariables false

/-- The program's two ranges. -/
structure Rgs (w : World) : Prop where
  s0 : w.cell? ⟨1, 0, none⟩ = some (.int .i64 0)
  s1 : w.cell? ⟨1, 1, none⟩ = some (.int .i64 400)
  s2 : w.cell? ⟨1, 2, none⟩ = some (.int .i64 20)
  h0 : w.cell? ⟨2, 0, none⟩ = some (.int .i64 0)
  h1 : w.cell? ⟨2, 1, none⟩ = some (.int .i64 2000)
  h2 : w.cell? ⟨2, 2, none⟩ = some (.int .i64 60)
theorem Rgs.kept {w w' : World} (h : Rgs w) (hg : w.grownBy w' none) : Rgs w' :=
  ⟨sane.cell_kept h.s0 hg, sane.cell_kept h.s1 hg, sane.cell_kept h.s2 hg, sane.cell_kept h.h0 hg, sane.cell_kept h.h1 hg, sane.cell_kept h.h2 hg⟩

set_option maxHeartbeats 1000000 in
theorem shape1 (sq : Int) (a : Option Addr) (n cap : Nat) (w : World) : Calls Tryz.prog 40 #[frm.fr 1 sq a n cap] w (Ret (.iface 120 (.slice a n cap)) w) := by
  have K := Has.fresh w 62 #[.int .i64 1, .int .i64 sq, .slice a n cap]
  obtain ⟨c0, c1, c2, _, _, _⟩ := frm.three K
  go_enter Tryz.func40, Tryz.ntmps40
  go_wp2_with fail
  go_ret
  exact ⟨rfl, World.grownBy_alloc _ _ _⟩
set_option maxHeartbeats 1000000 in
theorem shape2 (sq : Int) (a : Option Addr) (n cap : Nat) (w : World) : Calls Tryz.prog 40 #[frm.fr 2 sq a n cap] w (Ret (.iface 122 (.slice a n cap)) w) := by
  have K := Has.fresh w 62 #[.int .i64 2, .int .i64 sq, .slice a n cap]
  obtain ⟨c0, c1, c2, _, _, _⟩ := frm.three K
  go_enter Tryz.func40, Tryz.ntmps40
  go_wp2_with fail
  go_ret
  exact ⟨rfl, World.grownBy_alloc _ _ _⟩
set_option maxHeartbeats 1000000 in
theorem shape3 (sq : Int) (a : Option Addr) (n cap : Nat) (w : World) : Calls Tryz.prog 40 #[frm.fr 3 sq a n cap] w (Ret (.iface 123 (.slice a n cap)) w) := by
  have K := Has.fresh w 62 #[.int .i64 3, .int .i64 sq, .slice a n cap]
  obtain ⟨c0, c1, c2, _, _, _⟩ := frm.three K
  go_enter Tryz.func40, Tryz.ntmps40
  go_wp2_with fail
  go_ret
  exact ⟨rfl, World.grownBy_alloc _ _ _⟩
set_option maxHeartbeats 1000000 in
theorem shape4 (sq : Int) (a : Option Addr) (cap : Nat) (vs : List Int) (w : World) (h : Ints w a vs) (hl : vs.length = 2) : Calls Tryz.prog 40 #[frm.fr 4 sq a vs.length cap] w (Ret (.iface 126 (.agg #[.int .i64 (nth vs 0), .bool (!decide (nth vs 1 = 0))])) w) := by
  rw [hl]
  have g0 := World.grownBy_alloc w (Obj.cells #[.int .i64 4, .int .i64 sq, .slice a 2 cap] 62) none
  have K := Has.fresh w 62 #[.int .i64 4, .int .i64 sq, .slice a 2 cap]
  obtain ⟨c0, c1, c2, _, _, _⟩ := frm.three K
  obtain ⟨x, rfl, _, d0⟩ := (h.kept g0) 0 (by omega)
  obtain ⟨x', e, _, d1⟩ := (h.kept g0) 1 (by omega)
  injection e with e; subst e
  have x0 : x.add 0 = x := by unfold Addr.add; split <;> simp_all
  have d0' := d0
  rw [x0] at d0'
  have d1' := d1
  rw [show (1 : Nat) = 0 + (0 + 1) by rfl, tab.add_off, x0] at d1'
  have hb : (!(nth vs 1 == 0)) = (!decide (nth vs 1 = 0)) := by rfl
  go_enter Tryz.func40, Tryz.ntmps40
  go_wp2_with fail
  go_quiet (fail)
  go_wp2_with fail
  go_ret
  exact ⟨rfl, gr_drewN g0 _⟩
/-- What an assertion to a type of the program's own answers: the very type, or another one. -/
theorem as_slice {t e : TypeId} (hu : Tryz.prog.underlying t = some (.slice e)) (v : Value) (xT : TypeId) (w : World) : (Instr.typeAssert (.iface t v) xT t true).run Tryz.prog w = .ok (.tuple #[v, .bool true]) w := by
  simp [Instr.typeAssert, run_underlying hu, go_sem, Result.andThen]
theorem as_no {t t' e : TypeId} (hu : Tryz.prog.underlying t = some (.slice e)) (hz : (Tryz.prog.info? t).map (·.zero) = some (some (.slice none 0 0))) (hn : t' ≠ t) (v : Value) (xT : TypeId) (w : World) : (Instr.typeAssert (.iface t' v) xT t true).run Tryz.prog w = .ok (.tuple #[.slice none 0 0, .bool false]) w := by
  cases hj : Tryz.prog.info? t with
  | none => rw [hj] at hz; cases hz
  | some j =>
    have h0 : j.zero = some (.slice none 0 0) := by rw [hj] at hz; simpa using hz
    simp [Instr.typeAssert, run_underlying hu, hn, zeroValue, typeInfo, hj, h0, go_sem, Result.andThen]
theorem as1 (v : Value) (xT : TypeId) (w : World) : (Instr.typeAssert (.iface 120 v) xT 120 true).run Tryz.prog w = .ok (.tuple #[v, .bool true]) w := as_slice Tryz.underlying120 v xT w
theorem as2 (v : Value) (xT : TypeId) (w : World) : (Instr.typeAssert (.iface 122 v) xT 122 true).run Tryz.prog w = .ok (.tuple #[v, .bool true]) w := as_slice Tryz.underlying122 v xT w
theorem as3 (v : Value) (xT : TypeId) (w : World) : (Instr.typeAssert (.iface 123 v) xT 123 true).run Tryz.prog w = .ok (.tuple #[v, .bool true]) w := as_slice Tryz.underlying123 v xT w
theorem as21 (v : Value) (xT : TypeId) (w : World) : (Instr.typeAssert (.iface 122 v) xT 120 true).run Tryz.prog w = .ok (.tuple #[.slice none 0 0, .bool false]) w := as_no (t' := 122) Tryz.underlying120 (by kernel_rfl) (by decide) v xT w
theorem as31 (v : Value) (xT : TypeId) (w : World) : (Instr.typeAssert (.iface 123 v) xT 120 true).run Tryz.prog w = .ok (.tuple #[.slice none 0 0, .bool false]) w := as_no (t' := 123) Tryz.underlying120 (by kernel_rfl) (by decide) v xT w
theorem as32 (v : Value) (xT : TypeId) (w : World) : (Instr.typeAssert (.iface 123 v) xT 122 true).run Tryz.prog w = .ok (.tuple #[.slice none 0 0, .bool false]) w := as_no (t' := 123) Tryz.underlying122 (by kernel_rfl) (by decide) v xT w
theorem as41 (v : Value) (xT : TypeId) (w : World) : (Instr.typeAssert (.iface 126 v) xT 120 true).run Tryz.prog w = .ok (.tuple #[.slice none 0 0, .bool false]) w := as_no (t' := 126) Tryz.underlying120 (by kernel_rfl) (by decide) v xT w
theorem as42 (v : Value) (xT : TypeId) (w : World) : (Instr.typeAssert (.iface 126 v) xT 122 true).run Tryz.prog w = .ok (.tuple #[.slice none 0 0, .bool false]) w := as_no (t' := 126) Tryz.underlying122 (by kernel_rfl) (by decide) v xT w
theorem as43 (v : Value) (xT : TypeId) (w : World) : (Instr.typeAssert (.iface 126 v) xT 123 true).run Tryz.prog w = .ok (.tuple #[.slice none 0 0, .bool false]) w := as_no (t' := 126) Tryz.underlying123 (by kernel_rfl) (by decide) v xT w
theorem as4 (v : Value) (xT : TypeId) (w : World) : (Instr.typeAssert (.iface 126 v) xT 126 true).run Tryz.prog w = .ok (.tuple #[v, .bool true]) w := by
  simp [Instr.typeAssert, run_underlying Tryz.underlying126, go_sem, Result.andThen]
/-- One list is another one, in a block of its own. -/
def NewR (w : World) (x : Option Addr) (m : List R) (w' : World) : Prop := w.grownBy w' none ∧ OwnR w' x m ∧ ∀ y : Addr, x = some y → w.heap.size ≤ y.block
theorem taken_call (lo hi rt : Int) (a b : Option Addr) (cap cap2 : Nat) (l : List R) (vs : List Int) (n f q : Addr) (w : World) (h : rd.Arg w a l) (hv : Ints w b vs) (hl : l.length ≤ 1048576) (hlen : vs.length = l.length) (he : sane.ErrB w n f q) (ht : sane.ErrT w) :
    Calls Tryz.prog 91 #[.agg #[.int .i64 lo, .int .i64 hi, .int .i64 rt], .slice a l.length cap, .slice b vs.length cap2] w fun e w' => ∃ x k, e = .returned (.slice x l.length k) ∧ NewR w x (each (tk lo hi rt) l vs) w' := by
  refine (implTakenAll lo hi rt a b cap cap2 l vs n f q w h hv hl hlen he ht).mono ?_
  rintro e w' ⟨x, k, rfl, h1, h2, h3⟩
  exact ⟨x, k, by rw [each_len], h1, h2, h3⟩
theorem got_call (a b : Option Addr) (cap cap2 : Nat) (l : List R) (vs : List Int) (w : World) (h : rd.Arg w a l) (hv : Ints w b vs) (hl : l.length ≤ 1048576) (hlen : vs.length = l.length) :
    Calls Tryz.prog 92 #[.slice a l.length cap, .slice b vs.length cap2] w fun e w' => ∃ x k, e = .returned (.slice x l.length k) ∧ NewR w x (each gt l vs) w' := by
  refine (implGotAll a b cap cap2 l vs w h hv hl hlen).mono ?_
  rintro e w' ⟨x, k, rfl, h1, h2, h3⟩
  exact ⟨x, k, by rw [each_len], h1, h2, h3⟩

set_option maxRecDepth 100000 in
set_option maxHeartbeats 800000 in
theorem told1 (cur s : S) (pc ps : P) (b : Option Addr) (cap2 : Nat) (vs : List Int) (n f q : Addr) (w : World) (h : rd.Arg w ps.a1 s.sp) (hv : Ints w b vs) (hl : s.sp.length ≤ 1048576) (hlen : vs.length = s.sp.length) (he : sane.ErrB w n f q) (ht : sane.ErrT w) (hr : Rgs w) :
    Calls Tryz.prog 39 #[sv cur pc, sv s ps, .iface 120 (.slice b vs.length cap2)] w fun e w' => ∃ x j, e = .returned (.agg #[.slice x s.sp.length j, .slice pc.a2 cur.he.length pc.c2, .slice pc.a3 cur.fa.length pc.c3, .int .i64 cur.wn, .bool cur.ar, .slice pc.a4 cur.sq.length pc.c4]) ∧ NewR w x (each (tk 0 400 20) s.sp vs) w' := by
  have KA := ((Has.fresh w 27 (cs6 cur pc)).alloc (Obj.cells (cs6 s ps) 27)).alloc (Obj.cells #[.slice none 0 0, .slice none 0 0, .slice none 0 0, .int .i64 0, .bool false, .slice none 0 0] 27)
  have KB := (Has.fresh (w.alloc (Obj.cells (cs6 cur pc) 27)) 27 (cs6 s ps)).alloc (Obj.cells #[.slice none 0 0, .slice none 0 0, .slice none 0 0, .int .i64 0, .bool false, .slice none 0 0] 27)
  have R := Has.fresh ((w.alloc (Obj.cells (cs6 cur pc) 27)).alloc (Obj.cells (cs6 s ps) 27)) 27 #[.slice none 0 0, .slice none 0 0, .slice none 0 0, .int .i64 0, .bool false, .slice none 0 0]
  have g0 := gr_alloc (gr_alloc (World.grownBy_alloc w (Obj.cells (cs6 cur pc) 27) none) (Obj.cells (cs6 s ps) 27)) (Obj.cells #[.slice none 0 0, .slice none 0 0, .slice none 0 0, .int .i64 0, .bool false, .slice none 0 0] 27)
  simp only [World.size_alloc] at KB R
  have hr := hr.kept g0
  have v0 := hr.s0
  have v1 := hr.s1
  have v2 := hr.s2
  have cT := taken_call 0 400 20 ps.a1 b ps.c1 cap2 s.sp vs n f q _ (h.kept g0) (hv.kept g0) hl hlen (he.kept g0) (ht.kept g0)
  clear hlen
  have q0 := as1
  obtain ⟨⟨d0, d1, d2⟩, d3, d4, d5⟩ := six KB
  go_enter Tryz.func39, Tryz.ntmps39
  go_wp2_with fail
  refine cT.mono ?_
  rintro e w1 ⟨x, j, rfl, r1, o1, b1⟩
  have lR := R.lt
  replace KA := KA.grown r1 (by simp)
  replace R := R.grown r1 (by simp)
  have G := gr_trans g0 r1
  clear d0 d1 d2 d3 d4 d5 KB
  obtain ⟨⟨c0, c1, c2⟩, c3, c4, c5⟩ := six KA
  obtain ⟨⟨f0, f1, f2⟩, f3, f4, f5⟩ := free6 KA
  obtain ⟨⟨e0, e1, e2⟩, e3, e4, e5⟩ := six R
  obtain ⟨⟨m0, m1, m2⟩, m3, m4, m5⟩ := free6 R
  have nz : w.heap.size + 1 + 1 ≠ w.heap.size := by omega
  go_wp2_with fail
  obtain ⟨⟨t0, t1, t2⟩, t3, t4, t5⟩ := six (set6 (R.set_other nz 0 (.slice x s.sp.length j)) (.slice x s.sp.length j) (.slice pc.a2 cur.he.length pc.c2) (.slice pc.a3 cur.fa.length pc.c3) (.int .i64 cur.wn) (.bool cur.ar) (.slice pc.a4 cur.sq.length pc.c4))
  have GG := gr6 (gr_new G (Nat.le_refl w.heap.size) 0 (.slice x s.sp.length j)) (show w.heap.size ≤ w.heap.size + 1 + 1 by omega) (.slice x s.sp.length j) (.slice pc.a2 cur.he.length pc.c2) (.slice pc.a3 cur.fa.length pc.c3) (.int .i64 cur.wn) (.bool cur.ar) (.slice pc.a4 cur.sq.length pc.c4)
  have O := (o1.grown (gr_set (gr_refl w1 (some w.heap.size)) 0 (.slice x s.sp.length j)) (fun y e => by have := b1 y e; simp; omega)).grown (gr_set (gr_set (gr_set (gr_set (gr_set (gr_set (gr_refl _ (some (w.heap.size + 1 + 1))) 0 (.slice x s.sp.length j)) 1 (.slice pc.a2 cur.he.length pc.c2)) 2 (.slice pc.a3 cur.fa.length pc.c3)) 3 (.int .i64 cur.wn)) 4 (.bool cur.ar)) 5 (.slice pc.a4 cur.sq.length pc.c4)) (fun y e => by have := b1 y e; simp; omega)
  exact bodyPost_ret (v := .agg #[.slice x s.sp.length j, .slice pc.a2 cur.he.length pc.c2, .slice pc.a3 cur.fa.length pc.c3, .int .i64 cur.wn, .bool cur.ar, .slice pc.a4 cur.sq.length pc.c4]) (by simp [results, Tryz.results39, go_sem, t0, t1, t2, t3, t4, t5]) rfl ⟨x, j, rfl, GG, O, fun y e => by have := b1 y e; omega⟩

set_option maxRecDepth 100000 in
set_option maxHeartbeats 800000 in
theorem told2 (cur s : S) (pc ps : P) (b : Option Addr) (cap2 : Nat) (vs : List Int) (n f q : Addr) (w : World) (h : rd.Arg w ps.a2 s.he) (hv : Ints w b vs) (hl : s.he.length ≤ 1048576) (hlen : vs.length = s.he.length) (he : sane.ErrB w n f q) (ht : sane.ErrT w) (hr : Rgs w) :
    Calls Tryz.prog 39 #[sv cur pc, sv s ps, .iface 122 (.slice b vs.length cap2)] w fun e w' => ∃ x j, e = .returned (.agg #[.slice pc.a1 cur.sp.length pc.c1, .slice x s.he.length j, .slice pc.a3 cur.fa.length pc.c3, .int .i64 cur.wn, .bool cur.ar, .slice pc.a4 cur.sq.length pc.c4]) ∧ NewR w x (each (tk 0 2000 60) s.he vs) w' := by
  have KA := ((Has.fresh w 27 (cs6 cur pc)).alloc (Obj.cells (cs6 s ps) 27)).alloc (Obj.cells #[.slice none 0 0, .slice none 0 0, .slice none 0 0, .int .i64 0, .bool false, .slice none 0 0] 27)
  have KB := (Has.fresh (w.alloc (Obj.cells (cs6 cur pc) 27)) 27 (cs6 s ps)).alloc (Obj.cells #[.slice none 0 0, .slice none 0 0, .slice none 0 0, .int .i64 0, .bool false, .slice none 0 0] 27)
  have R := Has.fresh ((w.alloc (Obj.cells (cs6 cur pc) 27)).alloc (Obj.cells (cs6 s ps) 27)) 27 #[.slice none 0 0, .slice none 0 0, .slice none 0 0, .int .i64 0, .bool false, .slice none 0 0]
  have g0 := gr_alloc (gr_alloc (World.grownBy_alloc w (Obj.cells (cs6 cur pc) 27) none) (Obj.cells (cs6 s ps) 27)) (Obj.cells #[.slice none 0 0, .slice none 0 0, .slice none 0 0, .int .i64 0, .bool false, .slice none 0 0] 27)
  simp only [World.size_alloc] at KB R
  have hr := hr.kept g0
  have v0 := hr.h0
  have v1 := hr.h1
  have v2 := hr.h2
  have cT := taken_call 0 2000 60 ps.a2 b ps.c2 cap2 s.he vs n f q _ (h.kept g0) (hv.kept g0) hl hlen (he.kept g0) (ht.kept g0)
  clear hlen
  have q0 := as21
  have q1 := as2
  obtain ⟨⟨d0, d1, d2⟩, d3, d4, d5⟩ := six KB
  go_enter Tryz.func39, Tryz.ntmps39
  go_wp2_with fail
  refine cT.mono ?_
  rintro e w1 ⟨x, j, rfl, r1, o1, b1⟩
  have lR := R.lt
  replace KA := KA.grown r1 (by simp)
  replace R := R.grown r1 (by simp)
  have G := gr_trans g0 r1
  clear d0 d1 d2 d3 d4 d5 KB
  obtain ⟨⟨c0, c1, c2⟩, c3, c4, c5⟩ := six KA
  obtain ⟨⟨f0, f1, f2⟩, f3, f4, f5⟩ := free6 KA
  obtain ⟨⟨e0, e1, e2⟩, e3, e4, e5⟩ := six R
  obtain ⟨⟨m0, m1, m2⟩, m3, m4, m5⟩ := free6 R
  have nz : w.heap.size + 1 + 1 ≠ w.heap.size := by omega
  go_wp2_with fail
  obtain ⟨⟨t0, t1, t2⟩, t3, t4, t5⟩ := six (set6 (R.set_other nz 1 (.slice x s.he.length j)) (.slice pc.a1 cur.sp.length pc.c1) (.slice x s.he.length j) (.slice pc.a3 cur.fa.length pc.c3) (.int .i64 cur.wn) (.bool cur.ar) (.slice pc.a4 cur.sq.length pc.c4))
  have GG := gr6 (gr_new G (Nat.le_refl w.heap.size) 1 (.slice x s.he.length j)) (show w.heap.size ≤ w.heap.size + 1 + 1 by omega) (.slice pc.a1 cur.sp.length pc.c1) (.slice x s.he.length j) (.slice pc.a3 cur.fa.length pc.c3) (.int .i64 cur.wn) (.bool cur.ar) (.slice pc.a4 cur.sq.length pc.c4)
  have O := (o1.grown (gr_set (gr_refl w1 (some w.heap.size)) 1 (.slice x s.he.length j)) (fun y e => by have := b1 y e; simp; omega)).grown (gr_set (gr_set (gr_set (gr_set (gr_set (gr_set (gr_refl _ (some (w.heap.size + 1 + 1))) 0 (.slice pc.a1 cur.sp.length pc.c1)) 1 (.slice x s.he.length j)) 2 (.slice pc.a3 cur.fa.length pc.c3)) 3 (.int .i64 cur.wn)) 4 (.bool cur.ar)) 5 (.slice pc.a4 cur.sq.length pc.c4)) (fun y e => by have := b1 y e; simp; omega)
  exact bodyPost_ret (v := .agg #[.slice pc.a1 cur.sp.length pc.c1, .slice x s.he.length j, .slice pc.a3 cur.fa.length pc.c3, .int .i64 cur.wn, .bool cur.ar, .slice pc.a4 cur.sq.length pc.c4]) (by simp [results, Tryz.results39, go_sem, t0, t1, t2, t3, t4, t5]) rfl ⟨x, j, rfl, GG, O, fun y e => by have := b1 y e; omega⟩

set_option maxRecDepth 100000 in
set_option maxHeartbeats 800000 in
theorem told3 (cur s : S) (pc ps : P) (b : Option Addr) (cap2 : Nat) (vs : List Int) (w : World) (h : rd.Arg w ps.a3 s.fa) (hv : Ints w b vs) (hl : s.fa.length ≤ 1048576) (hlen : vs.length = s.fa.length) :
    Calls Tryz.prog 39 #[sv cur pc, sv s ps, .iface 123 (.slice b vs.length cap2)] w fun e w' => ∃ x j, e = .returned (.agg #[.slice pc.a1 cur.sp.length pc.c1, .slice pc.a2 cur.he.length pc.c2, .slice x s.fa.length j, .int .i64 cur.wn, .bool cur.ar, .slice pc.a4 cur.sq.length pc.c4]) ∧ NewR w x (each gt s.fa vs) w' := by
  have KA := ((Has.fresh w 27 (cs6 cur pc)).alloc (Obj.cells (cs6 s ps) 27)).alloc (Obj.cells #[.slice none 0 0, .slice none 0 0, .slice none 0 0, .int .i64 0, .bool false, .slice none 0 0] 27)
  have KB := (Has.fresh (w.alloc (Obj.cells (cs6 cur pc) 27)) 27 (cs6 s ps)).alloc (Obj.cells #[.slice none 0 0, .slice none 0 0, .slice none 0 0, .int .i64 0, .bool false, .slice none 0 0] 27)
  have R := Has.fresh ((w.alloc (Obj.cells (cs6 cur pc) 27)).alloc (Obj.cells (cs6 s ps) 27)) 27 #[.slice none 0 0, .slice none 0 0, .slice none 0 0, .int .i64 0, .bool false, .slice none 0 0]
  have g0 := gr_alloc (gr_alloc (World.grownBy_alloc w (Obj.cells (cs6 cur pc) 27) none) (Obj.cells (cs6 s ps) 27)) (Obj.cells #[.slice none 0 0, .slice none 0 0, .slice none 0 0, .int .i64 0, .bool false, .slice none 0 0] 27)
  simp only [World.size_alloc] at KB R
  have cT := got_call ps.a3 b ps.c3 cap2 s.fa vs _ (h.kept g0) (hv.kept g0) hl hlen
  clear hlen
  have q0 := as31
  have q1 := as32
  have q2 := as3
  obtain ⟨⟨d0, d1, d2⟩, d3, d4, d5⟩ := six KB
  go_enter Tryz.func39, Tryz.ntmps39
  go_wp2_with fail
  refine cT.mono ?_
  rintro e w1 ⟨x, j, rfl, r1, o1, b1⟩
  have lR := R.lt
  replace KA := KA.grown r1 (by simp)
  replace R := R.grown r1 (by simp)
  have G := gr_trans g0 r1
  clear d0 d1 d2 d3 d4 d5 KB
  obtain ⟨⟨c0, c1, c2⟩, c3, c4, c5⟩ := six KA
  obtain ⟨⟨f0, f1, f2⟩, f3, f4, f5⟩ := free6 KA
  obtain ⟨⟨e0, e1, e2⟩, e3, e4, e5⟩ := six R
  obtain ⟨⟨m0, m1, m2⟩, m3, m4, m5⟩ := free6 R
  have nz : w.heap.size + 1 + 1 ≠ w.heap.size := by omega
  go_wp2_with fail
  obtain ⟨⟨t0, t1, t2⟩, t3, t4, t5⟩ := six (set6 (R.set_other nz 2 (.slice x s.fa.length j)) (.slice pc.a1 cur.sp.length pc.c1) (.slice pc.a2 cur.he.length pc.c2) (.slice x s.fa.length j) (.int .i64 cur.wn) (.bool cur.ar) (.slice pc.a4 cur.sq.length pc.c4))
  have GG := gr6 (gr_new G (Nat.le_refl w.heap.size) 2 (.slice x s.fa.length j)) (show w.heap.size ≤ w.heap.size + 1 + 1 by omega) (.slice pc.a1 cur.sp.length pc.c1) (.slice pc.a2 cur.he.length pc.c2) (.slice x s.fa.length j) (.int .i64 cur.wn) (.bool cur.ar) (.slice pc.a4 cur.sq.length pc.c4)
  have O := (o1.grown (gr_set (gr_refl w1 (some w.heap.size)) 2 (.slice x s.fa.length j)) (fun y e => by have := b1 y e; simp; omega)).grown (gr_set (gr_set (gr_set (gr_set (gr_set (gr_set (gr_refl _ (some (w.heap.size + 1 + 1))) 0 (.slice pc.a1 cur.sp.length pc.c1)) 1 (.slice pc.a2 cur.he.length pc.c2)) 2 (.slice x s.fa.length j)) 3 (.int .i64 cur.wn)) 4 (.bool cur.ar)) 5 (.slice pc.a4 cur.sq.length pc.c4)) (fun y e => by have := b1 y e; simp; omega)
  exact bodyPost_ret (v := .agg #[.slice pc.a1 cur.sp.length pc.c1, .slice pc.a2 cur.he.length pc.c2, .slice x s.fa.length j, .int .i64 cur.wn, .bool cur.ar, .slice pc.a4 cur.sq.length pc.c4]) (by simp [results, Tryz.results39, go_sem, t0, t1, t2, t3, t4, t5]) rfl ⟨x, j, rfl, GG, O, fun y e => by have := b1 y e; omega⟩

set_option maxRecDepth 100000 in
set_option maxHeartbeats 800000 in
theorem told4 (cur s : S) (pc ps : P) (x : Int) (o : Bool) (w : World) :
    Calls Tryz.prog 39 #[sv cur pc, sv s ps, .iface 126 (.agg #[.int .i64 x, .bool o])] w (Ret (.agg #[.slice pc.a1 cur.sp.length pc.c1, .slice pc.a2 cur.he.length pc.c2, .slice pc.a3 cur.fa.length pc.c3, .int .i64 (if inb x 0 2 = true then x else cur.wn), .bool o, .slice pc.a4 cur.sq.length pc.c4]) w) := by
  have KA := ((Has.fresh w 27 (cs6 cur pc)).alloc (Obj.cells (cs6 s ps) 27)).alloc (Obj.cells #[.slice none 0 0, .slice none 0 0, .slice none 0 0, .int .i64 0, .bool false, .slice none 0 0] 27)
  have R := Has.fresh ((w.alloc (Obj.cells (cs6 cur pc) 27)).alloc (Obj.cells (cs6 s ps) 27)) 27 #[.slice none 0 0, .slice none 0 0, .slice none 0 0, .int .i64 0, .bool false, .slice none 0 0]
  have g0 := gr_alloc (gr_alloc (World.grownBy_alloc w (Obj.cells (cs6 cur pc) 27) none) (Obj.cells (cs6 s ps) 27)) (Obj.cells #[.slice none 0 0, .slice none 0 0, .slice none 0 0, .int .i64 0, .bool false, .slice none 0 0] 27)
  simp only [World.size_alloc] at R
  have cW := md.implWantOk x
  have q0 := as41
  have q1 := as42
  have q2 := as43
  have q3 := as4
  have nz : w.heap.size + 1 + 1 ≠ w.heap.size := by omega
  cases hx : inb x 0 2
  all_goals rw [hx] at cW
  all_goals clear hx
  all_goals obtain ⟨⟨c0, c1, c2⟩, c3, c4, c5⟩ := six KA
  all_goals obtain ⟨⟨f0, f1, f2⟩, f3, f4, f5⟩ := free6 KA
  all_goals obtain ⟨⟨e0, e1, e2⟩, e3, e4, e5⟩ := six R
  all_goals obtain ⟨⟨m0, m1, m2⟩, m3, m4, m5⟩ := free6 R
  all_goals go_enter Tryz.func39, Tryz.ntmps39
  all_goals go_wp2_with fail
  all_goals refine (cW _).mono ?_
  all_goals rintro e w1 ⟨rfl, rfl⟩
  all_goals go_wp2_with fail
  · exact bodyPost_ret (v := .agg #[.slice pc.a1 cur.sp.length pc.c1, .slice pc.a2 cur.he.length pc.c2, .slice pc.a3 cur.fa.length pc.c3, .int .i64 cur.wn, .bool o, .slice pc.a4 cur.sq.length pc.c4]) (by simp [results, Tryz.results39, go_sem]) rfl ⟨by simp, gr_alloc (gr_alloc (gr_alloc (World.grownBy_alloc _ _ _) _) _) _⟩
  · exact bodyPost_ret (v := .agg #[.slice pc.a1 cur.sp.length pc.c1, .slice pc.a2 cur.he.length pc.c2, .slice pc.a3 cur.fa.length pc.c3, .int .i64 x, .bool o, .slice pc.a4 cur.sq.length pc.c4]) (by simp [results, Tryz.results39, go_sem]) rfl ⟨by simp, gr_alloc (gr_alloc (gr_alloc (World.grownBy_alloc _ _ _) _) _) _⟩
end Go.Proofs.YtjbgcgblamijdaaGreatDoor.se

/- Chapter 7 on plain numbers; lists of numbers of one's own in memory. -/
namespace Go.Proofs.YtjbgcgblamijdaaGreatDoor.vt
open Go.ChangeShapes Go.WideShapes Go.ChangeAt Go.RowKit
open Go.Proofs.YtjbgcgblamijdaaGreatDoor.nums Go.Proofs.YtjbgcgblamijdaaGreatDoor.mem Go.Proofs.YtjbgcgblamijdaaGreatDoor.rd
open Go.Proofs.YtjbgcgblamijdaaGreatDoor.tab (Ret quiet_w wpList_make_has add_off)
set_option linter.unusedVariables false

def mid (a b c : Int) : Int := max (min a b) (min (max a b) c)
/-- The numbers in order. -/
def srt (l : List Int) : List Int := l.mergeSort fun x y => decide (x ≤ y)
theorem srt_length (l : List Int) : (srt l).length = l.length := List.length_mergeSort _
theorem srt_sorted (l : List Int) : (srt l).Pairwise (fun x y => x ≤ y) := by
  have h := List.pairwise_mergeSort (le := fun x y : Int => decide (x ≤ y)) (by intro a b c; simp; omega) (by intro a b; simp; omega) l
  exact h.imp (by simp)
theorem srt_perm (l : List Int) : (srt l).Perm l := List.mergeSort_perm _ _
theorem srt_eq {l r : List Int} (hp : r.Perm l) (hs : r.Pairwise (fun x y => x ≤ y)) : srt l = r :=
  List.Perm.eq_of_pairwise (fun a b _ _ h1 h2 => Int.le_antisymm h1 h2) (srt_sorted l) hs ((srt_perm l).trans hp.symm)
theorem srt_nil : srt [] = [] := srt_eq (List.Perm.refl _) List.Pairwise.nil
theorem srt_one (a : Int) : srt [a] = [a] := srt_eq (List.Perm.refl _) (by simp)
theorem srt_two (a b : Int) : srt [a, b] = [min a b, max a b] := by
  refine srt_eq ?_ (by simp; omega)
  by_cases h : a ≤ b
  · rw [Int.min_eq_left h, Int.max_eq_right h]
  · rw [Int.min_eq_right (by omega), Int.max_eq_left (by omega)]; exact List.Perm.swap _ _ _
theorem srt_three (a b c : Int) : ∃ x z, srt [a, b, c] = [x, mid a b c, z] := by
  unfold mid
  by_cases h1 : a ≤ b
  · by_cases h2 : b ≤ c
    · refine ⟨a, c, srt_eq ?_ (by simp; omega)⟩
      rw [show max (min a b) (min (max a b) c) = b by omega]
    · by_cases h3 : a ≤ c
      · refine ⟨a, b, srt_eq ?_ (by simp; omega)⟩
        rw [show max (min a b) (min (max a b) c) = c by omega]; exact (List.Perm.swap _ _ _).cons _
      · refine ⟨c, b, srt_eq ?_ (by simp; omega)⟩
        rw [show max (min a b) (min (max a b) c) = a by omega]; exact (List.Perm.swap _ _ _).trans ((List.Perm.swap _ _ _).cons _)
  · by_cases h2 : a ≤ c
    · refine ⟨b, c, srt_eq ?_ (by simp; omega)⟩
      rw [show max (min a b) (min (max a b) c) = a by omega]; exact List.Perm.swap _ _ _
    · by_cases h3 : b ≤ c
      · refine ⟨b, a, srt_eq ?_ (by simp; omega)⟩
        rw [show max (min a b) (min (max a b) c) = c by omega]; exact ((List.Perm.swap _ _ _).cons _).trans (List.Perm.swap _ _ _)
      · refine ⟨c, a, srt_eq ?_ (by simp; omega)⟩
        rw [show max (min a b) (min (max a b) c) = b by omega]
        exact ((List.Perm.swap _ _ _).trans ((List.Perm.swap _ _ _).cons _)).trans (List.Perm.swap _ _ _)

/-- The values of those that are fresh. -/
def frv (l : List R) (m : Int) : List Int := (l.filter fun r => fresh r m).map fun r => r.1
theorem frv_nil (m : Int) : frv [] m = [] := rfl
theorem take_snoc {l : List R} {k : Nat} (h : k < l.length) : l.take (k + 1) = l.take k ++ [(rx l k, ra l k, ro l k)] := by
  rw [List.take_succ_eq_append_getElem h, ← rr, getD_lt h]
theorem frv_yes {l : List R} {m : Int} {k : Nat} (h : k < l.length) (hf : fresh (rx l k, ra l k, ro l k) m = true) : frv (l.take (k + 1)) m = frv (l.take k) m ++ [rx l k] := by
  unfold frv; rw [take_snoc h, List.filter_append, List.map_append]; simp [hf]
theorem frv_no {l : List R} {m : Int} {k : Nat} (h : k < l.length) (hf : fresh (rx l k, ra l k, ro l k) m = false) : frv (l.take (k + 1)) m = frv (l.take k) m := by
  unfold frv; rw [take_snoc h, List.filter_append, List.map_append]; simp [hf]
theorem frv_length (l : List R) (m : Int) : (frv l m).length ≤ l.length := by
  unfold frv; rw [List.length_map]; exact List.length_filter_le _ _
theorem frv_take_length (l : List R) (m : Int) (k : Nat) : (frv (l.take k) m).length ≤ k := by
  have := frv_length (l.take k) m
  have := List.length_take_le k l
  omega
theorem frv_in {l : List R} {m v : Int} (h : v ∈ frv l m) : -1000000 ≤ v ∧ v ≤ 1000000 := by
  unfold frv at h
  simp only [List.mem_map, List.mem_filter] at h
  obtain ⟨⟨x, a, o⟩, ⟨_, hf⟩, rfl⟩ := h
  unfold fresh at hf
  simp only [Bool.and_eq_true] at hf
  exact (okR_iff.1 hf.1).1
/-- Those that vote: none where they are not so many, or one is not right. -/
def voters (l : List R) (many : Nat) (m : Int) : List Int := if l.length = many ∧ l.all okR = true then frv l m else []
theorem voters_ok {l : List R} {many : Nat} {m : Int} (h1 : l.length = many) (h2 : l.all okR = true) : voters l many m = frv l m := if_pos ⟨h1, h2⟩
theorem voters_bad {l : List R} {many : Nat} {m : Int} (h : l.all okR = false) : voters l many m = [] := if_neg (by rw [h]; simp)
theorem voters_len {l : List R} {many : Nat} {m : Int} (h : l.length ≠ many) : voters l many m = [] := if_neg (fun e => h e.1)
theorem voters_length (l : List R) (many : Nat) (m : Int) : (voters l many m).length ≤ many := by
  unfold voters
  split
  · rename_i h; have := frv_length l m; omega
  · simp
theorem voters_in {l : List R} {many : Nat} {m v : Int} (h : v ∈ voters l many m) : -1000000 ≤ v ∧ v ≤ 1000000 := by
  unfold voters at h
  split at h
  · exact frv_in h
  · simp at h
/-- A list of three at most. -/
theorem upto3 {l : List Int} (h : l.length ≤ 3) : l = [] ∨ (∃ a, l = [a]) ∨ (∃ a b, l = [a, b]) ∨ ∃ a b c, l = [a, b, c] := by
  match l, h with
  | [], _ => exact .inl rfl
  | [a], _ => exact .inr (.inl ⟨a, rfl⟩)
  | [a, b], _ => exact .inr (.inr (.inl ⟨a, b, rfl⟩))
  | [a, b, c], _ => exact .inr (.inr (.inr ⟨a, b, c, rfl⟩))
  | _ :: _ :: _ :: _ :: _, h => simp at h
def v3 : List Int → Int × Bool
  | [a, b, c] => (mid a b c, true)
  | [a, b] => ((a + b).tdiv 2, true)
  | [a] => (a, false)
  | _ => (0, false)
def v2 (ap : Int) : List Int → Int × Bool
  | [a, b] => (min a b, decide (kApart a b ≤ ap))
  | [a] => (a, true)
  | _ => (0, false)
def voteThree (l : List R) (m : Int) : Int × Bool := v3 (voters l 3 m)
def voteTwo (l : List R) (m ap : Int) : Int × Bool := if inb ap 0 1000000 = true then v2 ap (voters l 2 m) else (0, false)

abbrev vals (l : List Int) : List Value := l.map (Value.int .i64)
theorem vals_one (l : List Int) : ∀ u ∈ vals l, u.oneCell' = true := by
  intro u hu
  simp only [vals, List.mem_map] at hu
  obtain ⟨n, _, rfl⟩ := hu
  rfl
theorem vals_snoc (l : List Int) (x : Int) : vals (l ++ [x]) = vals l ++ [.int .i64 x] := by simp [vals]
/-- The value v holds the numbers l, in a block of its own that is not below base, or there are none. -/
abbrev IRow (w : World) (base : Nat) (v : Value) (l : List Int) : Prop := w.ownsRow base 2 1 v l.length (vals l)
theorem infoInt : (Tryz.prog.info? 2).map (fun i => (i.zero, i.size, i.bytes)) = some (some (.int .i64 0), 1, 8) := by kernel_rfl
theorem gr_own {a b c : World} {v : Value} (h : a.grownBy b none) (k : b.grownBy c v.ownBlock) (hq : ∀ g, v.ownBlock = some g → a.heap.size ≤ g) : a.grownBy c none :=
  ⟨k.os.trans h.os, k.tape.trans h.tape, k.output.trans h.output, Nat.le_trans h.size k.size, fun i hi _ => (k.block i (Nat.lt_of_lt_of_le hi h.size) (fun e => by have := hq i e.symm; omega)).trans (h.block i hi (by simp))⟩
theorem row_cell {w : World} {base g cap m : Nat} {l : List Int} (h : IRow w base (.slice (some ⟨g, 0, none⟩) m cap) l) (k : Nat) (hk : k < l.length) : w.cell? ⟨g, k, none⟩ = some (.int .i64 l[k]) := by
  have hv := h.cells (g := g) rfl k (.int .i64 l[k]) (by simp [hk])
  rwa [add0] at hv
/-- A list of its own comes back, nil where it is empty; of what was there nothing is another. -/
def RetI (l : List Int) (w : World) (e : Ending) (w' : World) : Prop :=
  ∃ a cap, e = .returned (.slice a l.length cap) ∧ w.grownBy w' none ∧ IRow w' w.heap.size (.slice a l.length cap) l ∧ (l = [] → a = none)
/-- The same, it may be empty and not nil. -/
def RetJ (l : List Int) (w : World) (e : Ending) (w' : World) : Prop :=
  ∃ a cap, e = .returned (.slice a l.length cap) ∧ w.grownBy w' none ∧ IRow w' w.heap.size (.slice a l.length cap) l
theorem row_some {w : World} {base cap : Nat} {a : Option Addr} {l : List Int} (h : IRow w base (.slice a l.length cap) l) (h0 : l ≠ []) : ∃ g, a = some ⟨g, 0, none⟩ ∧ base ≤ g ∧ g < w.heap.size := by
  obtain ⟨g, c, hv, hb, hlt⟩ := h.form (List.length_pos_iff.2 h0)
  injection hv with h1 _ _
  exact ⟨g, h1, hb, hlt⟩
end Go.Proofs.YtjbgcgblamijdaaGreatDoor.vt

