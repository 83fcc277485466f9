/- shapeOf and told of the program. -/
import Derived.Test.YtdikhdfpcipdbaaGreatDoorSeAged
import Derived.Test.YtdikhdfpcipdbaaGreatDoorMd
namespace Go.Proofs.YtdikhdfpcipdbaaGreatDoor.se
open Go.ChangeShapes Go.WideShapes Go.ChangeAt Go.RowKit
open Go.Proofs.YtdikhdfpcipdbaaGreatDoor.nums Go.Proofs.YtdikhdfpcipdbaaGreatDoor.mem
open Go.Proofs.YtdikhdfpcipdbaaGreatDoor.tab (Ret)
open Go.Proofs.YtdikhdfpcipdbaaGreatDoor.rd (R okR ageR zR rx ra ro OwnR)
open Go.Proofs.YtdikhdfpcipdbaaGreatDoor.il (nth Ints Own)
set_option linter.unusedVariables false

/-- The program's two ranges. -/
structure Rgs (w : World) : Prop where
  s0 : w.cell? ⟨1, 0, none⟩ = some (.int .i64 0)
  s1 : w.cell? ⟨1, 1, none⟩ = some (.int .i64 400)
  s2 : w.cell? ⟨1, 2, none⟩ = some (.int .i64 20)
  h0 : w.cell? ⟨2, 0, none⟩ = some (.int .i64 0)
  h1 : w.cell? ⟨2, 1, none⟩ = some (.int .i64 2000)
  h2 : w.cell? ⟨2, 2, none⟩ = some (.int .i64 60)
theorem Rgs.kept {w w' : World} (h : Rgs w) (hg : w.grownBy w' none) : Rgs w' :=
  ⟨sane.cell_kept h.s0 hg, sane.cell_kept h.s1 hg, sane.cell_kept h.s2 hg, sane.cell_kept h.h0 hg, sane.cell_kept h.h1 hg, sane.cell_kept h.h2 hg⟩

set_option maxHeartbeats 1000000 in
theorem shape1 (sq : Int) (a : Option Addr) (n cap : Nat) (w : World) : Calls Tryz.prog 30 #[frm.fr 1 sq a n cap] w (Ret (.iface 100 (.slice a n cap)) w) := by
  have K := Has.fresh w 50 #[.int .i64 1, .int .i64 sq, .slice a n cap]
  obtain ⟨c0, c1, c2, _, _, _⟩ := frm.three K
  go_enter Tryz.func30, Tryz.ntmps30
  go_wp2_with fail
  go_ret
  exact ⟨rfl, World.grownBy_alloc _ _ _⟩
set_option maxHeartbeats 1000000 in
theorem shape2 (sq : Int) (a : Option Addr) (n cap : Nat) (w : World) : Calls Tryz.prog 30 #[frm.fr 2 sq a n cap] w (Ret (.iface 102 (.slice a n cap)) w) := by
  have K := Has.fresh w 50 #[.int .i64 2, .int .i64 sq, .slice a n cap]
  obtain ⟨c0, c1, c2, _, _, _⟩ := frm.three K
  go_enter Tryz.func30, Tryz.ntmps30
  go_wp2_with fail
  go_ret
  exact ⟨rfl, World.grownBy_alloc _ _ _⟩
set_option maxHeartbeats 1000000 in
theorem shape3 (sq : Int) (a : Option Addr) (n cap : Nat) (w : World) : Calls Tryz.prog 30 #[frm.fr 3 sq a n cap] w (Ret (.iface 103 (.slice a n cap)) w) := by
  have K := Has.fresh w 50 #[.int .i64 3, .int .i64 sq, .slice a n cap]
  obtain ⟨c0, c1, c2, _, _, _⟩ := frm.three K
  go_enter Tryz.func30, Tryz.ntmps30
  go_wp2_with fail
  go_ret
  exact ⟨rfl, World.grownBy_alloc _ _ _⟩
set_option maxHeartbeats 1000000 in
theorem shape4 (sq : Int) (a : Option Addr) (cap : Nat) (vs : List Int) (w : World) (h : Ints w a vs) (hl : vs.length = 2) : Calls Tryz.prog 30 #[frm.fr 4 sq a vs.length cap] w (Ret (.iface 106 (.agg #[.int .i64 (nth vs 0), .bool (!decide (nth vs 1 = 0))])) w) := by
  rw [hl]
  have g0 := World.grownBy_alloc w (Obj.cells #[.int .i64 4, .int .i64 sq, .slice a 2 cap] 50) none
  have K := Has.fresh w 50 #[.int .i64 4, .int .i64 sq, .slice a 2 cap]
  obtain ⟨c0, c1, c2, _, _, _⟩ := frm.three K
  obtain ⟨x, rfl, _, d0⟩ := (h.kept g0) 0 (by omega)
  obtain ⟨x', e, _, d1⟩ := (h.kept g0) 1 (by omega)
  injection e with e; subst e
  have x0 : x.add 0 = x := by unfold Addr.add; split <;> simp_all
  have d0' := d0
  rw [x0] at d0'
  have d1' := d1
  rw [show (1 : Nat) = 0 + (0 + 1) by rfl, tab.add_off, x0] at d1'
  have hb : (!(nth vs 1 == 0)) = (!decide (nth vs 1 = 0)) := by rfl
  go_enter Tryz.func30, Tryz.ntmps30
  go_wp2_with fail
  go_quiet (fail)
  go_wp2_with fail
  go_ret
  exact ⟨rfl, gr_drewN g0 _⟩
/-- What an assertion to a type of the program's own answers: the very type, or another one. -/
theorem as_slice {t e : TypeId} (hu : Tryz.prog.underlying t = some (.slice e)) (v : Value) (xT : TypeId) (w : World) : (Instr.typeAssert (.iface t v) xT t true).run Tryz.prog w = .ok (.tuple #[v, .bool true]) w := by
  simp [Instr.typeAssert, run_underlying hu, go_sem, Result.andThen]
theorem as_no {t t' e : TypeId} (hu : Tryz.prog.underlying t = some (.slice e)) (hz : (Tryz.prog.info? t).map (·.zero) = some (some (.slice none 0 0))) (hn : t' ≠ t) (v : Value) (xT : TypeId) (w : World) : (Instr.typeAssert (.iface t' v) xT t true).run Tryz.prog w = .ok (.tuple #[.slice none 0 0, .bool false]) w := by
  cases hj : Tryz.prog.info? t with
  | none => rw [hj] at hz; cases hz
  | some j =>
    have h0 : j.zero = some (.slice none 0 0) := by rw [hj] at hz; simpa using hz
    simp [Instr.typeAssert, run_underlying hu, hn, zeroValue, typeInfo, hj, h0, go_sem, Result.andThen]
theorem as1 (v : Value) (xT : TypeId) (w : World) : (Instr.typeAssert (.iface 100 v) xT 100 true).run Tryz.prog w = .ok (.tuple #[v, .bool true]) w := as_slice Tryz.underlying100 v xT w
theorem as2 (v : Value) (xT : TypeId) (w : World) : (Instr.typeAssert (.iface 102 v) xT 102 true).run Tryz.prog w = .ok (.tuple #[v, .bool true]) w := as_slice Tryz.underlying102 v xT w
theorem as3 (v : Value) (xT : TypeId) (w : World) : (Instr.typeAssert (.iface 103 v) xT 103 true).run Tryz.prog w = .ok (.tuple #[v, .bool true]) w := as_slice Tryz.underlying103 v xT w
theorem as21 (v : Value) (xT : TypeId) (w : World) : (Instr.typeAssert (.iface 102 v) xT 100 true).run Tryz.prog w = .ok (.tuple #[.slice none 0 0, .bool false]) w := as_no (t' := 102) Tryz.underlying100 (by kernel_rfl) (by decide) v xT w
theorem as31 (v : Value) (xT : TypeId) (w : World) : (Instr.typeAssert (.iface 103 v) xT 100 true).run Tryz.prog w = .ok (.tuple #[.slice none 0 0, .bool false]) w := as_no (t' := 103) Tryz.underlying100 (by kernel_rfl) (by decide) v xT w
theorem as32 (v : Value) (xT : TypeId) (w : World) : (Instr.typeAssert (.iface 103 v) xT 102 true).run Tryz.prog w = .ok (.tuple #[.slice none 0 0, .bool false]) w := as_no (t' := 103) Tryz.underlying102 (by kernel_rfl) (by decide) v xT w
theorem as41 (v : Value) (xT : TypeId) (w : World) : (Instr.typeAssert (.iface 106 v) xT 100 true).run Tryz.prog w = .ok (.tuple #[.slice none 0 0, .bool false]) w := as_no (t' := 106) Tryz.underlying100 (by kernel_rfl) (by decide) v xT w
theorem as42 (v : Value) (xT : TypeId) (w : World) : (Instr.typeAssert (.iface 106 v) xT 102 true).run Tryz.prog w = .ok (.tuple #[.slice none 0 0, .bool false]) w := as_no (t' := 106) Tryz.underlying102 (by kernel_rfl) (by decide) v xT w
theorem as43 (v : Value) (xT : TypeId) (w : World) : (Instr.typeAssert (.iface 106 v) xT 103 true).run Tryz.prog w = .ok (.tuple #[.slice none 0 0, .bool false]) w := as_no (t' := 106) Tryz.underlying103 (by kernel_rfl) (by decide) v xT w
theorem as4 (v : Value) (xT : TypeId) (w : World) : (Instr.typeAssert (.iface 106 v) xT 106 true).run Tryz.prog w = .ok (.tuple #[v, .bool true]) w := by
  simp [Instr.typeAssert, run_underlying Tryz.underlying106, go_sem, Result.andThen]
/-- One list is another one, in a block of its own. -/
def NewR (w : World) (x : Option Addr) (m : List R) (w' : World) : Prop := w.grownBy w' none ∧ OwnR w' x m ∧ ∀ y : Addr, x = some y → w.heap.size ≤ y.block
theorem taken_call (lo hi rt : Int) (a b : Option Addr) (cap cap2 : Nat) (l : List R) (vs : List Int) (n f q : Addr) (w : World) (h : rd.Arg w a l) (hv : Ints w b vs) (hl : l.length ≤ 1048576) (hlen : vs.length = l.length) (he : sane.ErrB w n f q) (ht : sane.ErrT w) :
    Calls Tryz.prog 68 #[.agg #[.int .i64 lo, .int .i64 hi, .int .i64 rt], .slice a l.length cap, .slice b vs.length cap2] w fun e w' => ∃ x k, e = .returned (.slice x l.length k) ∧ NewR w x (each (tk lo hi rt) l vs) w' := by
  refine (implTakenAll lo hi rt a b cap cap2 l vs n f q w h hv hl hlen he ht).mono ?_
  rintro e w' ⟨x, k, rfl, h1, h2, h3⟩
  exact ⟨x, k, by rw [each_len], h1, h2, h3⟩
theorem got_call (a b : Option Addr) (cap cap2 : Nat) (l : List R) (vs : List Int) (w : World) (h : rd.Arg w a l) (hv : Ints w b vs) (hl : l.length ≤ 1048576) (hlen : vs.length = l.length) :
    Calls Tryz.prog 69 #[.slice a l.length cap, .slice b vs.length cap2] w fun e w' => ∃ x k, e = .returned (.slice x l.length k) ∧ NewR w x (each gt l vs) w' := by
  refine (implGotAll a b cap cap2 l vs w h hv hl hlen).mono ?_
  rintro e w' ⟨x, k, rfl, h1, h2, h3⟩
  exact ⟨x, k, by rw [each_len], h1, h2, h3⟩

set_option maxRecDepth 100000 in
set_option maxHeartbeats 800000 in
theorem told1 (cur s : S) (pc ps : P) (b : Option Addr) (cap2 : Nat) (vs : List Int) (n f q : Addr) (w : World) (h : rd.Arg w ps.a1 s.sp) (hv : Ints w b vs) (hl : s.sp.length ≤ 1048576) (hlen : vs.length = s.sp.length) (he : sane.ErrB w n f q) (ht : sane.ErrT w) (hr : Rgs w) :
    Calls Tryz.prog 29 #[sv cur pc, sv s ps, .iface 100 (.slice b vs.length cap2)] w fun e w' => ∃ x j, e = .returned (.agg #[.slice x s.sp.length j, .slice pc.a2 cur.he.length pc.c2, .slice pc.a3 cur.fa.length pc.c3, .int .i64 cur.wn, .bool cur.ar, .slice pc.a4 cur.sq.length pc.c4]) ∧ NewR w x (each (tk 0 400 20) s.sp vs) w' := by
  have KA := ((Has.fresh w 27 (cs6 cur pc)).alloc (Obj.cells (cs6 s ps) 27)).alloc (Obj.cells #[.slice none 0 0, .slice none 0 0, .slice none 0 0, .int .i64 0, .bool false, .slice none 0 0] 27)
  have KB := (Has.fresh (w.alloc (Obj.cells (cs6 cur pc) 27)) 27 (cs6 s ps)).alloc (Obj.cells #[.slice none 0 0, .slice none 0 0, .slice none 0 0, .int .i64 0, .bool false, .slice none 0 0] 27)
  have R := Has.fresh ((w.alloc (Obj.cells (cs6 cur pc) 27)).alloc (Obj.cells (cs6 s ps) 27)) 27 #[.slice none 0 0, .slice none 0 0, .slice none 0 0, .int .i64 0, .bool false, .slice none 0 0]
  have g0 := gr_alloc (gr_alloc (World.grownBy_alloc w (Obj.cells (cs6 cur pc) 27) none) (Obj.cells (cs6 s ps) 27)) (Obj.cells #[.slice none 0 0, .slice none 0 0, .slice none 0 0, .int .i64 0, .bool false, .slice none 0 0] 27)
  simp only [World.size_alloc] at KB R
  have hr := hr.kept g0
  have v0 := hr.s0
  have v1 := hr.s1
  have v2 := hr.s2
  have cT := taken_call 0 400 20 ps.a1 b ps.c1 cap2 s.sp vs n f q _ (h.kept g0) (hv.kept g0) hl hlen (he.kept g0) (ht.kept g0)
  clear hlen
  have q0 := as1
  obtain ⟨⟨d0, d1, d2⟩, d3, d4, d5⟩ := six KB
  go_enter Tryz.func29, Tryz.ntmps29
  go_wp2_with fail
  refine cT.mono ?_
  rintro e w1 ⟨x, j, rfl, r1, o1, b1⟩
  have lR := R.lt
  replace KA := KA.grown r1 (by simp)
  replace R := R.grown r1 (by simp)
  have G := gr_trans g0 r1
  clear d0 d1 d2 d3 d4 d5 KB
  obtain ⟨⟨c0, c1, c2⟩, c3, c4, c5⟩ := six KA
  obtain ⟨⟨f0, f1, f2⟩, f3, f4, f5⟩ := free6 KA
  obtain ⟨⟨e0, e1, e2⟩, e3, e4, e5⟩ := six R
  obtain ⟨⟨m0, m1, m2⟩, m3, m4, m5⟩ := free6 R
  have nz : w.heap.size + 1 + 1 ≠ w.heap.size := by omega
  go_wp2_with fail
  obtain ⟨⟨t0, t1, t2⟩, t3, t4, t5⟩ := six (set6 (R.set_other nz 0 (.slice x s.sp.length j)) (.slice x s.sp.length j) (.slice pc.a2 cur.he.length pc.c2) (.slice pc.a3 cur.fa.length pc.c3) (.int .i64 cur.wn) (.bool cur.ar) (.slice pc.a4 cur.sq.length pc.c4))
  have GG := gr6 (gr_new G (Nat.le_refl w.heap.size) 0 (.slice x s.sp.length j)) (show w.heap.size ≤ w.heap.size + 1 + 1 by omega) (.slice x s.sp.length j) (.slice pc.a2 cur.he.length pc.c2) (.slice pc.a3 cur.fa.length pc.c3) (.int .i64 cur.wn) (.bool cur.ar) (.slice pc.a4 cur.sq.length pc.c4)
  have O := (o1.grown (gr_set (gr_refl w1 (some w.heap.size)) 0 (.slice x s.sp.length j)) (fun y e => by have := b1 y e; simp; omega)).grown (gr_set (gr_set (gr_set (gr_set (gr_set (gr_set (gr_refl _ (some (w.heap.size + 1 + 1))) 0 (.slice x s.sp.length j)) 1 (.slice pc.a2 cur.he.length pc.c2)) 2 (.slice pc.a3 cur.fa.length pc.c3)) 3 (.int .i64 cur.wn)) 4 (.bool cur.ar)) 5 (.slice pc.a4 cur.sq.length pc.c4)) (fun y e => by have := b1 y e; simp; omega)
  exact bodyPost_ret (v := .agg #[.slice x s.sp.length j, .slice pc.a2 cur.he.length pc.c2, .slice pc.a3 cur.fa.length pc.c3, .int .i64 cur.wn, .bool cur.ar, .slice pc.a4 cur.sq.length pc.c4]) (by simp [results, Tryz.results29, go_sem, t0, t1, t2, t3, t4, t5]) rfl ⟨x, j, rfl, GG, O, fun y e => by have := b1 y e; omega⟩

set_option maxRecDepth 100000 in
set_option maxHeartbeats 800000 in
theorem told2 (cur s : S) (pc ps : P) (b : Option Addr) (cap2 : Nat) (vs : List Int) (n f q : Addr) (w : World) (h : rd.Arg w ps.a2 s.he) (hv : Ints w b vs) (hl : s.he.length ≤ 1048576) (hlen : vs.length = s.he.length) (he : sane.ErrB w n f q) (ht : sane.ErrT w) (hr : Rgs w) :
    Calls Tryz.prog 29 #[sv cur pc, sv s ps, .iface 102 (.slice b vs.length cap2)] w fun e w' => ∃ x j, e = .returned (.agg #[.slice pc.a1 cur.sp.length pc.c1, .slice x s.he.length j, .slice pc.a3 cur.fa.length pc.c3, .int .i64 cur.wn, .bool cur.ar, .slice pc.a4 cur.sq.length pc.c4]) ∧ NewR w x (each (tk 0 2000 60) s.he vs) w' := by
  have KA := ((Has.fresh w 27 (cs6 cur pc)).alloc (Obj.cells (cs6 s ps) 27)).alloc (Obj.cells #[.slice none 0 0, .slice none 0 0, .slice none 0 0, .int .i64 0, .bool false, .slice none 0 0] 27)
  have KB := (Has.fresh (w.alloc (Obj.cells (cs6 cur pc) 27)) 27 (cs6 s ps)).alloc (Obj.cells #[.slice none 0 0, .slice none 0 0, .slice none 0 0, .int .i64 0, .bool false, .slice none 0 0] 27)
  have R := Has.fresh ((w.alloc (Obj.cells (cs6 cur pc) 27)).alloc (Obj.cells (cs6 s ps) 27)) 27 #[.slice none 0 0, .slice none 0 0, .slice none 0 0, .int .i64 0, .bool false, .slice none 0 0]
  have g0 := gr_alloc (gr_alloc (World.grownBy_alloc w (Obj.cells (cs6 cur pc) 27) none) (Obj.cells (cs6 s ps) 27)) (Obj.cells #[.slice none 0 0, .slice none 0 0, .slice none 0 0, .int .i64 0, .bool false, .slice none 0 0] 27)
  simp only [World.size_alloc] at KB R
  have hr := hr.kept g0
  have v0 := hr.h0
  have v1 := hr.h1
  have v2 := hr.h2
  have cT := taken_call 0 2000 60 ps.a2 b ps.c2 cap2 s.he vs n f q _ (h.kept g0) (hv.kept g0) hl hlen (he.kept g0) (ht.kept g0)
  clear hlen
  have q0 := as21
  have q1 := as2
  obtain ⟨⟨d0, d1, d2⟩, d3, d4, d5⟩ := six KB
  go_enter Tryz.func29, Tryz.ntmps29
  go_wp2_with fail
  refine cT.mono ?_
  rintro e w1 ⟨x, j, rfl, r1, o1, b1⟩
  have lR := R.lt
  replace KA := KA.grown r1 (by simp)
  replace R := R.grown r1 (by simp)
  have G := gr_trans g0 r1
  clear d0 d1 d2 d3 d4 d5 KB
  obtain ⟨⟨c0, c1, c2⟩, c3, c4, c5⟩ := six KA
  obtain ⟨⟨f0, f1, f2⟩, f3, f4, f5⟩ := free6 KA
  obtain ⟨⟨e0, e1, e2⟩, e3, e4, e5⟩ := six R
  obtain ⟨⟨m0, m1, m2⟩, m3, m4, m5⟩ := free6 R
  have nz : w.heap.size + 1 + 1 ≠ w.heap.size := by omega
  go_wp2_with fail
  obtain ⟨⟨t0, t1, t2⟩, t3, t4, t5⟩ := six (set6 (R.set_other nz 1 (.slice x s.he.length j)) (.slice pc.a1 cur.sp.length pc.c1) (.slice x s.he.length j) (.slice pc.a3 cur.fa.length pc.c3) (.int .i64 cur.wn) (.bool cur.ar) (.slice pc.a4 cur.sq.length pc.c4))
  have GG := gr6 (gr_new G (Nat.le_refl w.heap.size) 1 (.slice x s.he.length j)) (show w.heap.size ≤ w.heap.size + 1 + 1 by omega) (.slice pc.a1 cur.sp.length pc.c1) (.slice x s.he.length j) (.slice pc.a3 cur.fa.length pc.c3) (.int .i64 cur.wn) (.bool cur.ar) (.slice pc.a4 cur.sq.length pc.c4)
  have O := (o1.grown (gr_set (gr_refl w1 (some w.heap.size)) 1 (.slice x s.he.length j)) (fun y e => by have := b1 y e; simp; omega)).grown (gr_set (gr_set (gr_set (gr_set (gr_set (gr_set (gr_refl _ (some (w.heap.size + 1 + 1))) 0 (.slice pc.a1 cur.sp.length pc.c1)) 1 (.slice x s.he.length j)) 2 (.slice pc.a3 cur.fa.length pc.c3)) 3 (.int .i64 cur.wn)) 4 (.bool cur.ar)) 5 (.slice pc.a4 cur.sq.length pc.c4)) (fun y e => by have := b1 y e; simp; omega)
  exact bodyPost_ret (v := .agg #[.slice pc.a1 cur.sp.length pc.c1, .slice x s.he.length j, .slice pc.a3 cur.fa.length pc.c3, .int .i64 cur.wn, .bool cur.ar, .slice pc.a4 cur.sq.length pc.c4]) (by simp [results, Tryz.results29, go_sem, t0, t1, t2, t3, t4, t5]) rfl ⟨x, j, rfl, GG, O, fun y e => by have := b1 y e; omega⟩

set_option maxRecDepth 100000 in
set_option maxHeartbeats 800000 in
theorem told3 (cur s : S) (pc ps : P) (b : Option Addr) (cap2 : Nat) (vs : List Int) (w : World) (h : rd.Arg w ps.a3 s.fa) (hv : Ints w b vs) (hl : s.fa.length ≤ 1048576) (hlen : vs.length = s.fa.length) :
    Calls Tryz.prog 29 #[sv cur pc, sv s ps, .iface 103 (.slice b vs.length cap2)] w fun e w' => ∃ x j, e = .returned (.agg #[.slice pc.a1 cur.sp.length pc.c1, .slice pc.a2 cur.he.length pc.c2, .slice x s.fa.length j, .int .i64 cur.wn, .bool cur.ar, .slice pc.a4 cur.sq.length pc.c4]) ∧ NewR w x (each gt s.fa vs) w' := by
  have KA := ((Has.fresh w 27 (cs6 cur pc)).alloc (Obj.cells (cs6 s ps) 27)).alloc (Obj.cells #[.slice none 0 0, .slice none 0 0, .slice none 0 0, .int .i64 0, .bool false, .slice none 0 0] 27)
  have KB := (Has.fresh (w.alloc (Obj.cells (cs6 cur pc) 27)) 27 (cs6 s ps)).alloc (Obj.cells #[.slice none 0 0, .slice none 0 0, .slice none 0 0, .int .i64 0, .bool false, .slice none 0 0] 27)
  have R := Has.fresh ((w.alloc (Obj.cells (cs6 cur pc) 27)).alloc (Obj.cells (cs6 s ps) 27)) 27 #[.slice none 0 0, .slice none 0 0, .slice none 0 0, .int .i64 0, .bool false, .slice none 0 0]
  have g0 := gr_alloc (gr_alloc (World.grownBy_alloc w (Obj.cells (cs6 cur pc) 27) none) (Obj.cells (cs6 s ps) 27)) (Obj.cells #[.slice none 0 0, .slice none 0 0, .slice none 0 0, .int .i64 0, .bool false, .slice none 0 0] 27)
  simp only [World.size_alloc] at KB R
  have cT := got_call ps.a3 b ps.c3 cap2 s.fa vs _ (h.kept g0) (hv.kept g0) hl hlen
  clear hlen
  have q0 := as31
  have q1 := as32
  have q2 := as3
  obtain ⟨⟨d0, d1, d2⟩, d3, d4, d5⟩ := six KB
  go_enter Tryz.func29, Tryz.ntmps29
  go_wp2_with fail
  refine cT.mono ?_
  rintro e w1 ⟨x, j, rfl, r1, o1, b1⟩
  have lR := R.lt
  replace KA := KA.grown r1 (by simp)
  replace R := R.grown r1 (by simp)
  have G := gr_trans g0 r1
  clear d0 d1 d2 d3 d4 d5 KB
  obtain ⟨⟨c0, c1, c2⟩, c3, c4, c5⟩ := six KA
  obtain ⟨⟨f0, f1, f2⟩, f3, f4, f5⟩ := free6 KA
  obtain ⟨⟨e0, e1, e2⟩, e3, e4, e5⟩ := six R
  obtain ⟨⟨m0, m1, m2⟩, m3, m4, m5⟩ := free6 R
  have nz : w.heap.size + 1 + 1 ≠ w.heap.size := by omega
  go_wp2_with fail
  obtain ⟨⟨t0, t1, t2⟩, t3, t4, t5⟩ := six (set6 (R.set_other nz 2 (.slice x s.fa.length j)) (.slice pc.a1 cur.sp.length pc.c1) (.slice pc.a2 cur.he.length pc.c2) (.slice x s.fa.length j) (.int .i64 cur.wn) (.bool cur.ar) (.slice pc.a4 cur.sq.length pc.c4))
  have GG := gr6 (gr_new G (Nat.le_refl w.heap.size) 2 (.slice x s.fa.length j)) (show w.heap.size ≤ w.heap.size + 1 + 1 by omega) (.slice pc.a1 cur.sp.length pc.c1) (.slice pc.a2 cur.he.length pc.c2) (.slice x s.fa.length j) (.int .i64 cur.wn) (.bool cur.ar) (.slice pc.a4 cur.sq.length pc.c4)
  have O := (o1.grown (gr_set (gr_refl w1 (some w.heap.size)) 2 (.slice x s.fa.length j)) (fun y e => by have := b1 y e; simp; omega)).grown (gr_set (gr_set (gr_set (gr_set (gr_set (gr_set (gr_refl _ (some (w.heap.size + 1 + 1))) 0 (.slice pc.a1 cur.sp.length pc.c1)) 1 (.slice pc.a2 cur.he.length pc.c2)) 2 (.slice x s.fa.length j)) 3 (.int .i64 cur.wn)) 4 (.bool cur.ar)) 5 (.slice pc.a4 cur.sq.length pc.c4)) (fun y e => by have := b1 y e; simp; omega)
  exact bodyPost_ret (v := .agg #[.slice pc.a1 cur.sp.length pc.c1, .slice pc.a2 cur.he.length pc.c2, .slice x s.fa.length j, .int .i64 cur.wn, .bool cur.ar, .slice pc.a4 cur.sq.length pc.c4]) (by simp [results, Tryz.results29, go_sem, t0, t1, t2, t3, t4, t5]) rfl ⟨x, j, rfl, GG, O, fun y e => by have := b1 y e; omega⟩

set_option maxRecDepth 100000 in
set_option maxHeartbeats 800000 in
theorem told4 (cur s : S) (pc ps : P) (x : Int) (o : Bool) (w : World) :
    Calls Tryz.prog 29 #[sv cur pc, sv s ps, .iface 106 (.agg #[.int .i64 x, .bool o])] w (Ret (.agg #[.slice pc.a1 cur.sp.length pc.c1, .slice pc.a2 cur.he.length pc.c2, .slice pc.a3 cur.fa.length pc.c3, .int .i64 (if inb x 0 2 = true then x else cur.wn), .bool o, .slice pc.a4 cur.sq.length pc.c4]) w) := by
  have KA := ((Has.fresh w 27 (cs6 cur pc)).alloc (Obj.cells (cs6 s ps) 27)).alloc (Obj.cells #[.slice none 0 0, .slice none 0 0, .slice none 0 0, .int .i64 0, .bool false, .slice none 0 0] 27)
  have R := Has.fresh ((w.alloc (Obj.cells (cs6 cur pc) 27)).alloc (Obj.cells (cs6 s ps) 27)) 27 #[.slice none 0 0, .slice none 0 0, .slice none 0 0, .int .i64 0, .bool false, .slice none 0 0]
  have g0 := gr_alloc (gr_alloc (World.grownBy_alloc w (Obj.cells (cs6 cur pc) 27) none) (Obj.cells (cs6 s ps) 27)) (Obj.cells #[.slice none 0 0, .slice none 0 0, .slice none 0 0, .int .i64 0, .bool false, .slice none 0 0] 27)
  simp only [World.size_alloc] at R
  have cW := md.implWantOk x
  have q0 := as41
  have q1 := as42
  have q2 := as43
  have q3 := as4
  have nz : w.heap.size + 1 + 1 ≠ w.heap.size := by omega
  cases hx : inb x 0 2
  all_goals rw [hx] at cW
  all_goals clear hx
  all_goals obtain ⟨⟨c0, c1, c2⟩, c3, c4, c5⟩ := six KA
  all_goals obtain ⟨⟨f0, f1, f2⟩, f3, f4, f5⟩ := free6 KA
  all_goals obtain ⟨⟨e0, e1, e2⟩, e3, e4, e5⟩ := six R
  all_goals obtain ⟨⟨m0, m1, m2⟩, m3, m4, m5⟩ := free6 R
  all_goals go_enter Tryz.func29, Tryz.ntmps29
  all_goals go_wp2_with fail
  all_goals refine (cW _).mono ?_
  all_goals rintro e w1 ⟨rfl, rfl⟩
  all_goals go_wp2_with fail
  · exact bodyPost_ret (v := .agg #[.slice pc.a1 cur.sp.length pc.c1, .slice pc.a2 cur.he.length pc.c2, .slice pc.a3 cur.fa.length pc.c3, .int .i64 cur.wn, .bool o, .slice pc.a4 cur.sq.length pc.c4]) (by simp [results, Tryz.results29, go_sem]) rfl ⟨by simp, gr_alloc (gr_alloc (gr_alloc (World.grownBy_alloc _ _ _) _) _) _⟩
  · exact bodyPost_ret (v := .agg #[.slice pc.a1 cur.sp.length pc.c1, .slice pc.a2 cur.he.length pc.c2, .slice pc.a3 cur.fa.length pc.c3, .int .i64 x, .bool o, .slice pc.a4 cur.sq.length pc.c4]) (by simp [results, Tryz.results29, go_sem]) rfl ⟨by simp, gr_alloc (gr_alloc (gr_alloc (World.grownBy_alloc _ _ _) _) _) _⟩
end Go.Proofs.YtdikhdfpcipdbaaGreatDoor.se
