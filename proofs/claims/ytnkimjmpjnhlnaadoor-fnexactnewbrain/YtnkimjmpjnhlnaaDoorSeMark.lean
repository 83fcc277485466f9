/- Senses copied, compared, marked and held. -/
import Derived.Test.YtnkimjmpjnhlnaaDoorSeArg
namespace Go.Proofs.YtnkimjmpjnhlnaaDoor.se
open Go.ChangeShapes Go.WideShapes Go.ChangeAt Go.RowKit
open Go.Proofs.YtnkimjmpjnhlnaaDoor.nums Go.Proofs.YtnkimjmpjnhlnaaDoor.mem
open Go.Proofs.YtnkimjmpjnhlnaaDoor.tab (Ret)
open Go.Proofs.YtnkimjmpjnhlnaaDoor.rd (R okR zR OwnR mkR mkR_len)
open Go.Proofs.YtnkimjmpjnhlnaaDoor.il (nth Ints Own mks mks_len)
set_option linter.unusedVariables false

theorem six {w : World} {g : Nat} {t : TypeId} {a b c d e f : Value} (k : Has w g t #[a, b, c, d, e, f]) :
    (w.cell? ⟨g, 0, none⟩ = some a ∧ w.cell? ⟨g, 1, none⟩ = some b ∧ w.cell? ⟨g, 2, none⟩ = some c) ∧ w.cell? ⟨g, 3, none⟩ = some d ∧ w.cell? ⟨g, 4, none⟩ = some e ∧ w.cell? ⟨g, 5, none⟩ = some f :=
  ⟨⟨k.cell 0, k.cell 1, k.cell 2⟩, k.cell 3, k.cell 4, k.cell 5⟩
theorem free6 {w : World} {g : Nat} {t : TypeId} {a b c d e f : Value} (k : Has w g t #[a, b, c, d, e, f]) :
    (w.frozen? ⟨g, 0, none⟩ = false ∧ w.frozen? ⟨g, 1, none⟩ = false ∧ w.frozen? ⟨g, 2, none⟩ = false) ∧ w.frozen? ⟨g, 3, none⟩ = false ∧ w.frozen? ⟨g, 4, none⟩ = false ∧ w.frozen? ⟨g, 5, none⟩ = false :=
  ⟨⟨k.frozen 0, k.frozen 1, k.frozen 2⟩, k.frozen 3, k.frozen 4, k.frozen 5⟩
/-- What the chapter may be asked of at most. -/
structure Bd (s : S) (n : Nat) : Prop where
  sp : s.sp.length ≤ n
  he : s.he.length ≤ n
  fa : s.fa.length ≤ n
  sq : s.sq.length ≤ n
theorem bd_bulk {s : S} {n : Nat} (h : bulk s ≤ n) : Bd s n := by unfold bulk at h; exact ⟨by omega, by omega, by omega, by omega⟩
/-- Where the marks of each list begin. -/
def m1 (m : Nat) (s : S) : Nat := m + 3 * s.sp.length
def m2 (m : Nat) (s : S) : Nat := m1 m s + 3 * s.he.length
def m3 (m : Nat) (s : S) : Nat := m2 m s + 3 * s.fa.length
def m4 (m : Nat) (s : S) : Nat := m3 m s + s.sq.length
def mkS (m : Nat) (s : S) : S := ⟨mkR m s.sp.length, mkR (m1 m s) s.he.length, mkR (m2 m s) s.fa.length, s.wn, s.ar, mks (m3 m s) s.sq.length⟩
def MarkedS (m : Nat) (s : S) (p : P) (w : World) (e : Ending) (w' : World) : Prop := e = .returned (.int .i64 (m4 m s : Int)) ∧ Chg (blkS s p) w w' ∧ Arg w' (mkS m s) p

theorem arg_chg {S : Nat → Prop} {w w' : World} {a : Option Addr} {l : List R} (h : Chg S w w') (H : rd.Arg w a l) (hn : ∀ x : Addr, a = some x → ¬ S x.block) : rd.Arg w' a l := by
  intro k hk
  obtain ⟨x, e, hb, h0, h1, h2⟩ := H k hk
  have key : ∀ y : Addr, y.block = x.block → w'.cell? y = w.cell? y := fun y hy => World.cell?_of_block (h.block _ (by rw [hy]; exact hb) (by rw [hy]; exact hn x e))
  exact ⟨x, e, Nat.lt_of_lt_of_le hb h.size, (key _ (block_add _ _)).trans h0, (key ⟨(x.add (k * 3)).block, _, none⟩ (block_add _ _)).trans h1, (key ⟨(x.add (k * 3)).block, _, none⟩ (block_add _ _)).trans h2⟩
theorem ownR_chg {S : Nat → Prop} {w w' : World} {a : Option Addr} {l : List R} (h : Chg S w w') (H : OwnR w a l) (hn : ∀ x : Addr, a = some x → ¬ S x.block) : OwnR w' a l := by
  rcases H with H | ⟨g, cs, rfl, hc, hj⟩
  · exact Or.inl H
  · exact Or.inr ⟨g, cs, rfl, h.has hc (hn _ rfl), hj⟩
theorem own_chg {S : Nat → Prop} {w w' : World} {a : Option Addr} {l : List Int} (h : Chg S w w') (H : Own w a l) (hn : ∀ x, il.blk a l = some x → ¬ S x) : Own w' a l := by
  rcases H with H | ⟨g, o, cs, rfl, hc, hj⟩
  · exact Or.inl H
  · by_cases hl : l = []
    · exact Or.inl hl
    · exact Or.inr ⟨g, o, cs, rfl, h.has hc (hn _ (il.blk_some hl)), hj⟩
theorem OwnS.chg {T : Nat → Prop} {b : Nat} {w w' : World} {s : S} {p : P} (h : OwnS b w s p) (hc : Chg T w w') (hn : ∀ c, blkS s p c → ¬ T c) : OwnS b w' s p :=
  ⟨ownR_chg hc h.sp (fun x e => hn _ (Or.inl ⟨x, e, rfl⟩)), ownR_chg hc h.he (fun x e => hn _ (Or.inr (Or.inl ⟨x, e, rfl⟩))), ownR_chg hc h.fa (fun x e => hn _ (Or.inr (Or.inr (Or.inl ⟨x, e, rfl⟩)))), own_chg hc h.sq (fun x e => hn _ (Or.inr (Or.inr (Or.inr e)))), h.b1, h.b2, h.b3, h.b4, h.d12, h.d13, h.d23⟩
theorem blk_ne {a b : Option Addr} (h : ∀ x y : Addr, a = some x → b = some y → x.block ≠ y.block) {x : Addr} (e : a = some x) : some x.block ≠ rd.blk b := by
  cases b with
  | none => simp [rd.blk]
  | some y => have := h x y e rfl; simp [rd.blk]; exact this
theorem blk_of {a : Option Addr} {b : Nat} (h : some b = rd.blk a) : ∃ x : Addr, a = some x ∧ x.block = b := by
  cases a with
  | none => simp [rd.blk] at h
  | some y => exact ⟨y, rfl, by simp [rd.blk] at h; exact h.symm⟩
theorem lt_blk {a : Option Addr} {g : Nat} (h : ∀ x : Addr, a = some x → x.block < g) : some g ≠ rd.blk a := by
  intro e
  obtain ⟨x, hx, hb⟩ := blk_of e
  have := h x hx; omega
theorem OwnR.int {w : World} {a : Option Addr} {l : List R} {b : Option Addr} {n : List Int} (h : OwnR w a l) (k : Own w b n) {x : Addr} (e : a = some x) : some x.block ≠ il.blk b n := by
  rcases h with ⟨h, _⟩ | ⟨g, cs, h, hc, hj⟩
  · rw [h] at e; cases e
  · rw [h] at e; injection e with e; subst e; exact k.ne hc (by decide)
theorem OwnR.int' {w : World} {a : Option Addr} {l : List R} {b : Option Addr} {n : List Int} (h : OwnR w a l) (k : Own w b n) {x : Nat} (e : il.blk b n = some x) : some x ≠ rd.blk a := by
  intro e2
  obtain ⟨y, hy, hb⟩ := blk_of e2
  exact OwnR.int h k hy (by rw [hb]; exact e.symm)

theorem markR (m m' : Nat) (a : Option Addr) (cap : Nat) (l : List R) (w : World) (h : OwnR w a l) (hl : l.length ≤ 1048576) (hm : m ≤ 100000000) (e : m' = m + 3 * l.length) :
    Calls Tryd.prog 59 #[.slice a l.length cap, .int .i64 m] w fun e w' => e = .returned (.int .i64 (m' : Int)) ∧ w.grownBy w' (rd.blk a) ∧ OwnR w' a (mkR m l.length) := by
  refine (rd.markReadings m a cap l w h hl hm).mono ?_
  rintro e' w' ⟨rfl, h1, h2⟩
  exact ⟨by rw [e, Int.natCast_add, Int.natCast_mul]; rfl, h1, h2⟩
theorem markI (m m' : Nat) (a : Option Addr) (cap : Nat) (l : List Int) (w : World) (h : Own w a l) (hl : l.length ≤ 10000000) (hm : m ≤ 100000000) (e : m' = m + l.length) :
    Calls Tryd.prog 38 #[.slice a l.length cap, .int .i64 m] w fun e w' => e = .returned (.int .i64 (m' : Int)) ∧ w.grownBy w' (il.blk a l) ∧ Own w' a (mks m l.length) := by
  refine (il.markInts m a cap l w h hl hm).mono ?_
  rintro e' w' ⟨rfl, h1, h2⟩
  exact ⟨by rw [e, Int.natCast_add], h1, h2⟩
theorem heldR (m m' : Nat) (a : Option Addr) (cap n : Nat) (w : World) (h : rd.Arg w a (mkR m n)) (hl : n ≤ 1048576) (hm : m ≤ 100000000) (e : m' = m + 3 * n) :
    Calls Tryd.prog 60 #[.slice a n cap, .int .i64 m] w (Ret (.int .i64 (m' : Int)) w) := by
  have := rd.heldReadings m a cap n w h hl hm
  rw [show (m : Int) + 3 * (n : Int) = (m' : Int) by omega] at this
  exact this
theorem heldI (m m' : Nat) (a : Option Addr) (cap n : Nat) (w : World) (h : Ints w a (mks m n)) (hl : n ≤ 10000000) (hm : m ≤ 100000000) (e : m' = m + n) :
    Calls Tryd.prog 41 #[.slice a n cap, .int .i64 m] w (Ret (.int .i64 (m' : Int)) w) := by
  have := il.heldInts m a cap n w h hl hm
  rw [show (m : Int) + (n : Int) = (m' : Int) by omega] at this
  exact this

set_option maxHeartbeats 2000000 in
theorem markSenses (m b : Nat) (s : S) (p : P) (w : World) (h : OwnS b w s p) (hb : Bd s 1048576) (hm : m ≤ 10000000) : Calls Tryd.prog 37 #[sv s p, .int .i64 m] w (MarkedS m s p w) := by
  have K0 := Has.fresh w 37 (cs6 s p)
  have g0 := World.grownBy_alloc w (Obj.cells (cs6 s p) 37) none
  have C0 := chg_of_gr (S := blkS s p) g0 (fun b e => by cases e)
  have h0 := h.kept g0
  have hl1 := hb.sp
  have hl2 := hb.he
  have hl3 := hb.fa
  have hl4 := hb.sq
  have q1 : ∀ x : Addr, p.a1 = some x → x.block < w.heap.size := fun x e => h.sp.lt e
  have q2 : ∀ x : Addr, p.a2 = some x → x.block < w.heap.size := fun x e => h.he.lt e
  have q3 : ∀ x : Addr, p.a3 = some x → x.block < w.heap.size := fun x e => h.fa.lt e
  obtain ⟨⟨c0, c1, c2⟩, _, _, c5⟩ := six K0
  go_enter Tryd.func37, Tryd.ntmps37
  go_wp2_with fail
  refine (markR m (m1 m s) _ _ _ _ h0.sp hl1 (by omega) rfl).mono ?_
  rintro e w1 ⟨rfl, r1, o1⟩
  replace K0 := K0.grown r1 (lt_blk q1)
  have k2 := h0.he.grown r1 (fun x e => blk_ne (fun x y ex ey => Ne.symm (h.d12 y x ey ex)) e)
  have k3 := h0.fa.grown r1 (fun x e => blk_ne (fun x y ex ey => Ne.symm (h.d13 y x ey ex)) e)
  have k4 := h0.sq.grown r1 (fun x e => OwnR.int' h.sp h.sq e)
  replace C0 := C0.trans (chg_of_gr r1 (fun b e => Or.inl (blk_of e)))
  clear c0 c1 c2 c5 r1
  obtain ⟨⟨c0, c1, c2⟩, _, _, c5⟩ := six K0
  go_wp2_with fail
  refine (markR (m1 m s) (m2 m s) _ _ _ _ k2 hl2 (by unfold m1; omega) rfl).mono ?_
  rintro e w2 ⟨rfl, r2, o2⟩
  replace K0 := K0.grown r2 (lt_blk q2)
  replace o1 := o1.grown r2 (fun x e => blk_ne h.d12 e)
  replace k3 := k3.grown r2 (fun x e => blk_ne (fun x y ex ey => Ne.symm (h.d23 y x ey ex)) e)
  replace k4 := k4.grown r2 (fun x e => OwnR.int' h.he h.sq e)
  replace C0 := C0.trans (chg_of_gr r2 (fun b e => Or.inr (Or.inl (blk_of e))))
  clear c0 c1 c2 c5 r2
  obtain ⟨⟨c0, c1, c2⟩, _, _, c5⟩ := six K0
  go_wp2_with fail
  refine (markR (m2 m s) (m3 m s) _ _ _ _ k3 hl3 (by unfold m2 m1; omega) rfl).mono ?_
  rintro e w3 ⟨rfl, r3, o3⟩
  replace K0 := K0.grown r3 (lt_blk q3)
  replace o1 := o1.grown r3 (fun x e => blk_ne h.d13 e)
  replace o2 := o2.grown r3 (fun x e => blk_ne h.d23 e)
  replace k4 := k4.grown r3 (fun x e => OwnR.int' h.fa h.sq e)
  replace C0 := C0.trans (chg_of_gr r3 (fun b e => Or.inr (Or.inr (Or.inl (blk_of e)))))
  clear c0 c1 c2 c5 r3
  obtain ⟨⟨c0, c1, c2⟩, _, _, c5⟩ := six K0
  go_wp2_with fail
  refine (markI (m3 m s) (m4 m s) _ _ _ _ k4 (by omega) (by unfold m3 m2 m1; omega) rfl).mono ?_
  rintro e w4 ⟨rfl, r4, o4⟩
  replace o1 := o1.grown r4 (fun x e => OwnR.int h.sp h.sq e)
  replace o2 := o2.grown r4 (fun x e => OwnR.int h.he h.sq e)
  replace o3 := o3.grown r4 (fun x e => OwnR.int h.fa h.sq e)
  replace C0 := C0.trans (chg_of_gr r4 (fun b e => Or.inr (Or.inr (Or.inr e.symm))))
  go_wp2_with fail
  go_ret
  exact ⟨rfl, C0, o1.arg, o2.arg, o3.arg, o4.ints⟩

set_option maxHeartbeats 2000000 in
theorem heldSenses (m : Nat) (s : S) (p : P) (w : World) (h : Arg w (mkS m s) p) (hb : Bd s 1048576) (hm : m ≤ 10000000) : Calls Tryd.prog 40 #[sv s p, .int .i64 m] w (Ret (.int .i64 (m4 m s : Int)) w) := by
  have K0 := Has.fresh w 37 (cs6 s p)
  have g0 := World.grownBy_alloc w (Obj.cells (cs6 s p) 37) none
  have hl1 := hb.sp
  have hl2 := hb.he
  have hl3 := hb.fa
  have hl4 := hb.sq
  have n1 : decide ((m1 m s : Int) < 0) = false := by simp
  have n2 : decide ((m2 m s : Int) < 0) = false := by simp
  have n3 : decide ((m3 m s : Int) < 0) = false := by simp
  have n4 : decide ((m4 m s : Int) < 0) = false := by simp
  obtain ⟨⟨c0, c1, c2⟩, _, _, c5⟩ := six K0
  go_enter Tryd.func40, Tryd.ntmps40
  go_wp2_with fail
  refine (heldR m (m1 m s) _ _ _ _ (h.kept g0).sp hl1 (by omega) rfl).mono ?_
  rintro e w1 ⟨rfl, r1⟩
  replace K0 := K0.grown r1 (by simp)
  replace g0 := gr_trans g0 r1
  clear c0 c1 c2 c5 r1
  obtain ⟨⟨c0, c1, c2⟩, _, _, c5⟩ := six K0
  go_wp2_with fail
  refine (heldR (m1 m s) (m2 m s) _ _ _ _ (h.kept g0).he hl2 (by unfold m1; omega) rfl).mono ?_
  rintro e w2 ⟨rfl, r1⟩
  replace K0 := K0.grown r1 (by simp)
  replace g0 := gr_trans g0 r1
  clear c0 c1 c2 c5 r1
  obtain ⟨⟨c0, c1, c2⟩, _, _, c5⟩ := six K0
  go_wp2_with fail
  refine (heldR (m2 m s) (m3 m s) _ _ _ _ (h.kept g0).fa hl3 (by unfold m2 m1; omega) rfl).mono ?_
  rintro e w3 ⟨rfl, r1⟩
  replace K0 := K0.grown r1 (by simp)
  replace g0 := gr_trans g0 r1
  clear c0 c1 c2 c5 r1
  obtain ⟨⟨c0, c1, c2⟩, _, _, c5⟩ := six K0
  go_wp2_with fail
  refine (heldI (m3 m s) (m4 m s) _ _ _ _ (h.kept g0).sq (by omega) (by unfold m3 m2 m1; omega) rfl).mono ?_
  rintro e w4 ⟨rfl, r1⟩
  go_wp2_with fail
  go_ret
  exact ⟨rfl, gr_trans g0 r1⟩
end Go.Proofs.YtnkimjmpjnhlnaaDoor.se
