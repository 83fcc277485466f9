/- Marks in the memory of a list of readings. Lists of numbers in memory: read, copied, compared, marked. Chapter 15 on plain senses; senses in memory. Chapter 8: ranges: the plain triples, RangeOk of the model and of the program, what came in. -/
import Derived.Test.YtdikhdfpcipdbaaGreatDoorG3
import Derived.Test.YtdikhdfpcipdbaaGreatDoorG2
import Derived.ChangeSame
import Derived.Deep.Strs
import Derived.Deep.AppendLies
import Derived.Lib.Hide
import Derived.Deep.QuietTactic
import Derived.BigQuiet
import Derived.Laws.Small
import Derived.Laws.Entries
import Derived.StillTailTactics
import Derived.Deep.RegionHeld3
import Derived.WalkMore
/- Marks in the memory of a list of readings. -/
namespace Go.Proofs.YtdikhdfpcipdbaaGreatDoor.rd
open Go.ChangeShapes Go.WideShapes Go.ChangeAt Go.RowKit
open Go.Proofs.YtdikhdfpcipdbaaGreatDoor.nums Go.Proofs.YtdikhdfpcipdbaaGreatDoor.mem
open Go.Proofs.YtdikhdfpcipdbaaGreatDoor.tab (Ret quiet_w wpList_make_has add_off)
set_option linter.unusedVariables false

/-- The marks that lie from m on. -/
def mkR (m n : Nat) : List R := (List.range n).map fun j => (((m + 3 * j : Nat) : Int), ((m + 3 * j + 1 : Nat) : Int), decide ((m + 2) % 3 = 0))
theorem mkR_len (m n : Nat) : (mkR m n).length = n := by simp [mkR]
theorem gr_blk {a b c : World} {p : Option Addr} (h : a.grownBy b none) (k : b.grownBy c (blk p)) (hp : ∀ x : Addr, p = some x → a.heap.size ≤ x.block) : a.grownBy c none := by
  cases p with
  | none => exact gr_trans h k
  | some x => exact gr_past h k (hp x rfl)
/-- The marks are laid. -/
def Marked (m n : Nat) (a : Option Addr) (w : World) (e : Ending) (w' : World) : Prop := e = .returned (.int .i64 ((m : Int) + 3 * (n : Int))) ∧ w.grownBy w' (blk a) ∧ OwnR w' a (mkR m n)

end Go.Proofs.YtdikhdfpcipdbaaGreatDoor.rd

/- Lists of numbers in memory: read, copied, compared, marked. -/
namespace Go.Proofs.YtdikhdfpcipdbaaGreatDoor.il
open Go.ChangeShapes Go.WideShapes Go.ChangeAt Go.RowKit
open Go.Proofs.YtdikhdfpcipdbaaGreatDoor.nums Go.Proofs.YtdikhdfpcipdbaaGreatDoor.mem
open Go.Proofs.YtdikhdfpcipdbaaGreatDoor.tab (Ret quiet_w wpList_make_has)
set_option linter.unusedVariables false

def nth (l : List Int) (k : Nat) : Int := l.getD k 0
theorem nth_lt {l : List Int} {k : Nat} (h : k < l.length) : nth l k = l[k] := by simp [nth, List.getD, h]
theorem nth_mem {l : List Int} {k : Nat} (h : k < l.length) : nth l k ∈ l := by rw [nth_lt h]; exact List.getElem_mem _
theorem nth_take {l : List Int} {k : Nat} (h : k < l.length) : l.take (k + 1) = l.take k ++ [nth l k] := by rw [List.take_add_one, nth_lt h]; simp [h]
theorem add0 (g k : Nat) : (⟨g, 0, none⟩ : Addr).add k = ⟨g, k, none⟩ := by unfold Addr.add; split <;> simp_all
theorem addo (g o k : Nat) : (⟨g, o, none⟩ : Addr).add k = ⟨g, o + k, none⟩ := by unfold Addr.add; split <;> simp_all

/-- The slice at a holds these numbers, each in a cell of a block of the world. -/
def Ints (w : World) (a : Option Addr) (l : List Int) : Prop :=
  ∀ k, k < l.length → ∃ x : Addr, a = some x ∧ x.block < w.heap.size ∧ w.cell? (x.add k) = some (.int .i64 (nth l k))
theorem Ints.nil (w : World) (a : Option Addr) : Ints w a [] := fun k hk => by simp at hk
theorem Ints.grown {w w' : World} {a : Option Addr} {l : List Int} {row : Option Nat} (h : Ints w a l) (hg : w.grownBy w' row) (hn : ∀ x : Addr, a = some x → some x.block ≠ row) : Ints w' a l := by
  intro k hk
  obtain ⟨x, e, hb, h1⟩ := h k hk
  refine ⟨x, e, Nat.lt_of_lt_of_le hb hg.size, ?_⟩
  rw [← h1]; exact World.cell?_of_block (hg.block _ (by rw [block_add]; omega) (by rw [block_add]; exact hn x e))
theorem Ints.kept {w w' : World} {a : Option Addr} {l : List Int} (h : Ints w a l) (hg : w.grownBy w' none) : Ints w' a l := h.grown hg (fun x e => by simp)
theorem Ints.drewN {w : World} {a : Option Addr} {l : List Int} (h : Ints w a l) (n : Nat) : Ints (w.drewN n) a l := h

/-- The block of a list of numbers, where there are any. -/
def blk (a : Option Addr) (l : List Int) : Option Nat := if l = [] then none else a.map Addr.block
theorem blk_nil (a : Option Addr) : blk a [] = none := if_pos rfl
theorem blk_some {g o : Nat} {l : List Int} (h : l ≠ []) : blk (some ⟨g, o, none⟩) l = some g := if_neg h
/-- The numbers lie in a block that is known whole, or there are none. -/
def Own (w : World) (a : Option Addr) (l : List Int) : Prop := l = [] ∨ ∃ (g o : Nat) (cs : Array Value), a = some ⟨g, o, none⟩ ∧ Has w g 2 cs ∧ ∀ k, k < l.length → cs[o + k]? = some (.int .i64 (nth l k))
theorem Own.ints {w : World} {a : Option Addr} {l : List Int} (h : Own w a l) : Ints w a l := by
  rcases h with rfl | ⟨g, o, cs, rfl, hc, hj⟩
  · exact Ints.nil _ _
  · intro k hk
    refine ⟨_, rfl, hc.lt, ?_⟩
    rw [addo, hc.cell]; exact hj k hk
theorem Own.grown {w w' : World} {a : Option Addr} {l : List Int} {row : Option Nat} (h : Own w a l) (hg : w.grownBy w' row) (hn : ∀ b, blk a l = some b → some b ≠ row) : Own w' a l := by
  rcases h with h | ⟨g, o, cs, rfl, hc, hj⟩
  · exact Or.inl h
  · by_cases hl : l = []
    · exact Or.inl hl
    · exact Or.inr ⟨g, o, cs, rfl, hc.grown hg (hn _ (blk_some hl)), hj⟩
theorem Own.kept {w w' : World} {a : Option Addr} {l : List Int} (h : Own w a l) (hg : w.grownBy w' none) : Own w' a l := h.grown hg (fun x e => by simp)
theorem Own.lt {w : World} {a : Option Addr} {l : List Int} (h : Own w a l) {b : Nat} (e : blk a l = some b) : b < w.heap.size := by
  rcases h with rfl | ⟨g, o, cs, rfl, hc, hj⟩
  · rw [blk_nil] at e; cases e
  · by_cases hl : l = []
    · subst hl; rw [blk_nil] at e; cases e
    · rw [blk_some hl] at e; injection e with e; subst e; exact hc.lt
/-- A block of something else is not the numbers'. -/
theorem Own.ne {w : World} {a : Option Addr} {l : List Int} (h : Own w a l) {g : Nat} {t : TypeId} {cs : Array Value} (H : Has w g t cs) (ht : t ≠ 2) : some g ≠ blk a l := by
  intro e
  rcases h with rfl | ⟨g', o, cs', rfl, hc, hj⟩
  · rw [blk_nil] at e; cases e
  · by_cases hl : l = []
    · subst hl; rw [blk_nil] at e; cases e
    · rw [blk_some hl] at e
      injection e with e
      subst e
      have h4 := H.symm.trans hc
      simp at h4
      exact ht h4.2
theorem gr_blk {a b c : World} {p : Option Addr} {l : List Int} (h : a.grownBy b none) (k : b.grownBy c (blk p l)) (hp : ∀ x, blk p l = some x → a.heap.size ≤ x) : a.grownBy c none := by
  cases hb : blk p l with
  | none => rw [hb] at k; exact gr_trans h k
  | some x => rw [hb] at k; exact gr_past h k (hp x hb)

theorem infoInt : (Tryz.prog.info? 2).map (fun i => (i.zero, i.size, i.bytes)) = some (some (.int .i64 0), 1, 8) := by kernel_rfl
abbrev vals (l : List Int) : List Value := l.map (Value.int .i64)
theorem vals_one (l : List Int) : ∀ u ∈ vals l, u.oneCell' = true := by
  intro u hu
  simp only [vals, List.mem_map] at hu
  obtain ⟨n, _, rfl⟩ := hu
  rfl
theorem vals_snoc (l : List Int) (x : Int) : vals (l ++ [x]) = vals l ++ [.int .i64 x] := by simp [vals]
/-- The value v holds the numbers l, in a row of its own that is not below base, or there are none. -/
abbrev IRow (w : World) (base : Nat) (v : Value) (l : List Int) : Prop := w.ownsRow base 2 1 v l.length (vals l)
theorem IRow.own {w : World} {base m cap : Nat} {a : Option Addr} {l : List Int} (h : IRow w base (.slice a m cap) l) : Own w a l := by
  by_cases hl : l = []
  · exact Or.inl hl
  · have hrow := h
    rcases h.2 with ⟨_, hn⟩ | ⟨g, cap', cur, hv, _, hc, _⟩
    · have := List.length_pos_iff.2 hl; omega
    · injection hv with hv1 hv2 hv3
      subst hv1
      rw [hv2] at hrow
      refine Or.inr ⟨g, 0, cur, rfl, hc, fun k hk => ?_⟩
      have e := hrow.cellAt k (by omega)
      have e2 : w.cell? ⟨g, k, none⟩ = cur[k]? := Has.cell hc k
      rw [Nat.zero_add, ← e2, e, nth_lt hk]
      simp [vals, hk]
theorem IRow.above {w : World} {base m cap : Nat} {a : Option Addr} {l : List Int} (h : IRow w base (.slice a m cap) l) {b : Nat} (e : blk a l = some b) : base ≤ b := by
  by_cases hl : l = []
  · subst hl; rw [blk_nil] at e; cases e
  · obtain ⟨g, c, hv, hb, hlt⟩ := h.form (List.length_pos_iff.2 hl)
    injection hv with h1 _ _
    subst h1
    rw [blk_some hl] at e
    injection e with e; omega
theorem gr_own {a b c : World} {v : Value} (h : a.grownBy b none) (k : b.grownBy c v.ownBlock) (hq : ∀ g, v.ownBlock = some g → a.heap.size ≤ g) : a.grownBy c none :=
  ⟨k.os.trans h.os, k.tape.trans h.tape, k.output.trans h.output, Nat.le_trans h.size k.size, fun i hi _ => (k.block i (Nat.lt_of_lt_of_le hi h.size) (fun e => by have := hq i e.symm; omega)).trans (h.block i hi (by simp))⟩
theorem row_base {w : World} {base : Nat} {v : Value} {l : List Int} (h : IRow w base v l) : ∀ g, v.ownBlock = some g → base ≤ g := fun g hg => (h.lt g hg).1
/-- A list comes back in memory of its own; of what was there nothing is another. -/
def RetI (l : List Int) (w : World) (e : Ending) (w' : World) : Prop :=
  ∃ a cap, e = .returned (.slice a l.length cap) ∧ w.grownBy w' none ∧ Own w' a l ∧ ∀ b, blk a l = some b → w.heap.size ≤ b

set_option maxRecDepth 100000 in
theorem open_ints' {H : Type} {enc : TypeId × Value → H} {w : World} {base : Nat} {held : Bool} {a : Option Addr} {len cap : Nat} {d : DataW H} {p : List MemPlace}
    (h : DataW.Trod enc Tryz.prog w base (fun _ => true) held 25 (.slice a len cap) d p) : ∃ l : List Int, l.length = len ∧ l.length ≤ maxLen ∧ Ints w a l ∧ ∀ n ∈ l, (Lit.int .i64 n).wf = true := by
  obtain ⟨fuel, hf⟩ := h
  rcases open_ints Tryz.underlying25 Tryz.underlying2 (by kernel_rfl) hf with ⟨hcs, _⟩ | ⟨x, len', cap', zs, hcs, hb, hl, hm, hz, _, hc, hwf⟩
  · simp [Value.cells] at hcs
    obtain ⟨rfl, rfl, rfl⟩ := hcs
    exact ⟨[], rfl, Nat.zero_le _, Ints.nil _ _, fun n hn => by simp at hn⟩
  · simp [Value.cells] at hcs
    obtain ⟨rfl, rfl, rfl⟩ := hcs
    have hz' : zs.length = cap := by simpa using hz
    refine ⟨zs.take len, by simp; omega, by simp; omega, fun k hk => ?_, fun n hn => hwf n (List.mem_of_mem_take hn)⟩
    have hk' : k < len := by simp at hk; omega
    have c0 := hc k (by omega)
    have e : nth (zs.take len) k = zs.getD k 0 := by simp [nth, List.getD, hk']
    refine ⟨x, rfl, ?_, by rw [e]; exact c0⟩
    by_cases hbk : x.block < w.heap.size
    · exact hbk
    · have hn : w.heap[(x.add k).block]? = none := by rw [block_add]; exact Array.getElem?_eq_none (by omega)
      simp [World.cell?, hn] at c0

set_option maxHeartbeats 1000000 in
theorem likeInts (a a' : Option Addr) (cap cap' : Nat) (l : List Int) (w : World) (h : Ints w a l) (h' : Ints w a' l) (hl : l.length ≤ 1048576) :
    Calls Tryz.prog 38 #[.slice a l.length cap, .slice a' l.length cap'] w (Ret (.bool true) w) := by
  go_enter Tryz.func38, Tryz.ntmps38
  go_wp2
  go_loopw [5] (fun i wr => ∃ k : Nat, k ≤ l.length ∧ i = .int .i64 k ∧ w.grownBy wr none) (fun i _ => l.length - (intOf i).toNat)
  case atStart => exact ⟨0, Nat.zero_le _, rfl, gr_refl _ _⟩
  case round =>
    obtain ⟨k, hk, rfl, hg⟩ := hrel
    by_cases hlt : k < l.length
    · obtain ⟨x, rfl, _, cx⟩ := (h.kept hg) k hlt
      obtain ⟨x', rfl, _, dx⟩ := (h'.kept hg) k hlt
      go_wp2_with fail
      go_quiet (fail)
      go_wp2_with fail
      go_roundw
      case rel => exact ⟨k + 1, by omega, by go_num, gr_drewN hg _⟩
      case measure => simp [intOf]; omega
    · obtain rfl : k = l.length := by omega
      go_wp2_with fail
      go_ret
      exact ⟨rfl, hg⟩

/-- The marks that lie from m on. -/
def mks (m n : Nat) : List Int := (List.range n).map fun (j : Nat) => ((m + j : Nat) : Int)
theorem mks_len (m n : Nat) : (mks m n).length = n := by simp [mks]
theorem mks_at {m n j : Nat} (h : j < n) : nth (mks m n) j = ((m + j : Nat) : Int) := by rw [nth_lt (by rw [mks_len]; exact h)]; simp [mks]
/-- The marks are laid, from m on. -/
def Marked (m : Nat) (l : List Int) (a : Option Addr) (w : World) (e : Ending) (w' : World) : Prop := e = .returned (.int .i64 ((m : Int) + l.length)) ∧ w.grownBy w' (blk a l) ∧ Own w' a (mks m l.length)

end Go.Proofs.YtdikhdfpcipdbaaGreatDoor.il

/- Chapter 15 on plain senses; senses in memory. -/

namespace Go.Proofs.YtdikhdfpcipdbaaGreatDoor.se
open Go.ChangeShapes Go.WideShapes Go.ChangeAt Go.RowKit
open Go.Proofs.YtdikhdfpcipdbaaGreatDoor.nums Go.Proofs.YtdikhdfpcipdbaaGreatDoor.mem
open Go.Proofs.YtdikhdfpcipdbaaGreatDoor.tab (Ret)
open Go.Proofs.YtdikhdfpcipdbaaGreatDoor.rd (R okR ageR zR rx ra ro rx_map getD_lt OwnR)
open Go.Proofs.YtdikhdfpcipdbaaGreatDoor.il (nth Ints Own)
set_option linter.unusedVariables false

/-- Senses, plain. -/
structure S where
  sp : List R
  he : List R
  fa : List R
  wn : Int
  ar : Bool
  sq : List Int
def zS : S := ⟨[], [], [], 0, false, []⟩
def okQ (n : Int) : Bool := inb n (-1) 99
def okL (l : List R) (n : Nat) : Bool := l.all okR && decide (l.length = n)
def okQs (l : List Int) : Bool := l.all okQ && decide (l.length = 4)
def ok (s : S) : Bool := okL s.sp 3 && (okL s.he 2 && (okL s.fa 6 && (inb s.wn 0 2 && okQs s.sq)))
theorem okL_iff {l : List R} {n : Nat} : okL l n = true ↔ l.all okR = true ∧ l.length = n := by simp [okL]
theorem okQs_iff {l : List Int} : okQs l = true ↔ l.all okQ = true ∧ l.length = 4 := by simp [okQs]
structure Ok (s : S) : Prop where
  sp : s.sp.all okR = true
  sp3 : s.sp.length = 3
  he : s.he.all okR = true
  he2 : s.he.length = 2
  fa : s.fa.all okR = true
  fa6 : s.fa.length = 6
  wn : inb s.wn 0 2 = true
  sq : s.sq.all okQ = true
  sq4 : s.sq.length = 4
theorem ok_iff {s : S} : ok s = true ↔ Ok s := by
  constructor
  · intro h
    simp only [ok, Bool.and_eq_true, okL_iff, okQs_iff] at h
    obtain ⟨⟨a, b⟩, ⟨c, d⟩, ⟨e, f⟩, g, i, j⟩ := h
    exact ⟨a, b, c, d, e, f, g, i, j⟩
  · intro ⟨a, b, c, d, e, f, g, i, j⟩
    simp only [ok, Bool.and_eq_true, okL_iff, okQs_iff]
    exact ⟨⟨a, b⟩, ⟨c, d⟩, ⟨e, f⟩, g, i, j⟩

/-- The program's table of how many values a kind has. -/
def Vals (w : World) : Prop := 0 < w.heap.size ∧ ∀ i, i < 5 → w.cell? ⟨0, i, none⟩ = some (.int .i64 (nth [0, 3, 2, 6, 2] i))
theorem Vals.kept {w w' : World} (h : Vals w) (hg : w.grownBy w' none) : Vals w' :=
  ⟨Nat.lt_of_lt_of_le h.1 hg.size, fun i hi => (World.cell?_of_block (hg.block _ h.1 (by simp))).trans (h.2 i hi)⟩
theorem Vals.three {w : World} (h : Vals w) : w.cell? ⟨0, 1, none⟩ = some (.int .i64 3) ∧ w.cell? ⟨0, 2, none⟩ = some (.int .i64 2) ∧ w.cell? ⟨0, 3, none⟩ = some (.int .i64 6) :=
  ⟨h.2 1 (by omega), h.2 2 (by omega), h.2 3 (by omega)⟩

/-- Where the four lists lie. -/
structure P where
  a1 : Option Addr
  c1 : Nat
  a2 : Option Addr
  c2 : Nat
  a3 : Option Addr
  c3 : Nat
  a4 : Option Addr
  c4 : Nat
abbrev cs6 (s : S) (p : P) : Array Value := #[.slice p.a1 s.sp.length p.c1, .slice p.a2 s.he.length p.c2, .slice p.a3 s.fa.length p.c3, .int .i64 s.wn, .bool s.ar, .slice p.a4 s.sq.length p.c4]
abbrev sv (s : S) (p : P) : Value := .agg #[.slice p.a1 s.sp.length p.c1, .slice p.a2 s.he.length p.c2, .slice p.a3 s.fa.length p.c3, .int .i64 s.wn, .bool s.ar, .slice p.a4 s.sq.length p.c4]
/-- The senses can be read. -/
structure Arg (w : World) (s : S) (p : P) : Prop where
  sp : rd.Arg w p.a1 s.sp
  he : rd.Arg w p.a2 s.he
  fa : rd.Arg w p.a3 s.fa
  sq : Ints w p.a4 s.sq
theorem Arg.kept {w w' : World} {s : S} {p : P} (h : Arg w s p) (hg : w.grownBy w' none) : Arg w' s p := ⟨h.sp.kept hg, h.he.kept hg, h.fa.kept hg, h.sq.kept hg⟩
/-- The senses lie in four blocks of their own, none older than b. -/
structure OwnS (b : Nat) (w : World) (s : S) (p : P) : Prop where
  sp : OwnR w p.a1 s.sp
  he : OwnR w p.a2 s.he
  fa : OwnR w p.a3 s.fa
  sq : Own w p.a4 s.sq
  b1 : ∀ x : Addr, p.a1 = some x → b ≤ x.block
  b2 : ∀ x : Addr, p.a2 = some x → b ≤ x.block
  b3 : ∀ x : Addr, p.a3 = some x → b ≤ x.block
  b4 : ∀ x, il.blk p.a4 s.sq = some x → b ≤ x
  d12 : ∀ x y : Addr, p.a1 = some x → p.a2 = some y → x.block ≠ y.block
  d13 : ∀ x y : Addr, p.a1 = some x → p.a3 = some y → x.block ≠ y.block
  d23 : ∀ x y : Addr, p.a2 = some x → p.a3 = some y → x.block ≠ y.block
theorem OwnS.arg {b : Nat} {w : World} {s : S} {p : P} (h : OwnS b w s p) : Arg w s p := ⟨h.sp.arg, h.he.arg, h.fa.arg, h.sq.ints⟩
theorem OwnS.kept {b : Nat} {w w' : World} {s : S} {p : P} (h : OwnS b w s p) (hg : w.grownBy w' none) : OwnS b w' s p :=
  ⟨h.sp.kept hg, h.he.kept hg, h.fa.kept hg, h.sq.kept hg, h.b1, h.b2, h.b3, h.b4, h.d12, h.d13, h.d23⟩
theorem OwnS.below {b c : Nat} {w : World} {s : S} {p : P} (h : OwnS b w s p) (hc : c ≤ b) : OwnS c w s p :=
  ⟨h.sp, h.he, h.fa, h.sq, fun x e => Nat.le_trans hc (h.b1 x e), fun x e => Nat.le_trans hc (h.b2 x e), fun x e => Nat.le_trans hc (h.b3 x e), fun x e => Nat.le_trans hc (h.b4 x e), h.d12, h.d13, h.d23⟩
/-- One of its blocks. -/
def blkS (s : S) (p : P) (b : Nat) : Prop := (∃ x : Addr, p.a1 = some x ∧ x.block = b) ∨ (∃ x : Addr, p.a2 = some x ∧ x.block = b) ∨ (∃ x : Addr, p.a3 = some x ∧ x.block = b) ∨ il.blk p.a4 s.sq = some b
theorem OwnS.lt {b : Nat} {w : World} {s : S} {p : P} (h : OwnS b w s p) {c : Nat} (hc : blkS s p c) : b ≤ c ∧ c < w.heap.size := by
  rcases hc with ⟨x, e, rfl⟩ | ⟨x, e, rfl⟩ | ⟨x, e, rfl⟩ | e
  · exact ⟨h.b1 x e, h.sp.lt e⟩
  · exact ⟨h.b2 x e, h.he.lt e⟩
  · exact ⟨h.b3 x e, h.fa.lt e⟩
  · exact ⟨h.b4 _ e, h.sq.lt e⟩
/-- Of what was there nothing is another but in these blocks. -/
structure Chg (S : Nat → Prop) (w w' : World) : Prop where
  os : w'.os = w.os
  tape : w'.tape = w.tape
  output : w'.output = w.output
  size : w.heap.size ≤ w'.heap.size
  block : ∀ k : Nat, k < w.heap.size → ¬ S k → w'.heap[k]? = w.heap[k]?
theorem chg_of_gr {w w' : World} {row : Option Nat} {S : Nat → Prop} (h : w.grownBy w' row) (hS : ∀ b, some b = row → S b) : Chg S w w' := ⟨h.os, h.tape, h.output, h.size, fun b hb hn => h.block b hb (fun e => hn (hS b e))⟩
theorem Chg.trans {S : Nat → Prop} {a b c : World} (h : Chg S a b) (k : Chg S b c) : Chg S a c :=
  ⟨k.os.trans h.os, k.tape.trans h.tape, k.output.trans h.output, Nat.le_trans h.size k.size, fun i hi hn => (k.block i (Nat.lt_of_lt_of_le hi h.size) hn).trans (h.block i hi hn)⟩
theorem Chg.gr {S : Nat → Prop} {a b c : World} (h : a.grownBy b none) (k : Chg S b c) (hS : ∀ i, S i → a.heap.size ≤ i) : a.grownBy c none :=
  ⟨k.os.trans h.os, k.tape.trans h.tape, k.output.trans h.output, Nat.le_trans h.size k.size, fun i hi _ => (k.block i (Nat.lt_of_lt_of_le hi h.size) (fun hs => by have := hS i hs; omega)).trans (h.block i hi (by simp))⟩
theorem Chg.has {S : Nat → Prop} {w w' : World} {g : Nat} {t : TypeId} {cs : Array Value} (h : Chg S w w') (H : Has w g t cs) (hn : ¬ S g) : Has w' g t cs := H.same (h.block g H.lt hn)
/-- Senses come back in memory of their own. -/
def RetS (s : S) (w : World) (e : Ending) (w' : World) : Prop := ∃ p, e = .returned (sv s p) ∧ w.grownBy w' none ∧ OwnS w.heap.size w' s p
/-- Senses come back that can be read. -/
def RetA (s : S) (w : World) (e : Ending) (w' : World) : Prop := ∃ p, e = .returned (sv s p) ∧ w.grownBy w' none ∧ Arg w' s p
theorem RetS.a {s : S} {w w' : World} {e : Ending} (h : RetS s w e w') : RetA s w e w' := by
  obtain ⟨p, he, hg, ho⟩ := h
  exact ⟨p, he, hg, ho.arg⟩
def zP : P := ⟨none, 0, none, 0, none, 0, none, 0⟩
theorem own_zero (w : World) : OwnS w.heap.size w zS zP :=
  ⟨Or.inl ⟨rfl, rfl⟩, Or.inl ⟨rfl, rfl⟩, Or.inl ⟨rfl, rfl⟩, Or.inl rfl, (fun x e => by cases e), (fun x e => by cases e), (fun x e => by cases e), (fun x e => by rw [show il.blk zP.a4 zS.sq = none from il.blk_nil _] at e; cases e), (fun x y e => by cases e), (fun x y e => by cases e), (fun x y e => by cases e)⟩
end Go.Proofs.YtdikhdfpcipdbaaGreatDoor.se

/- Chapter 8: ranges: the plain triples, RangeOk of the model and of the program, what came in. -/
namespace Go.Proofs.YtdikhdfpcipdbaaGreatDoor.sane
open Go.ChangeShapes Go.WideShapes Go.ChangeAt Go.RowKit
open Go.Proofs.YtdikhdfpcipdbaaGreatDoor.nums Go.Proofs.YtdikhdfpcipdbaaGreatDoor.mem
open Go.Proofs.YtdikhdfpcipdbaaGreatDoor.tab (Ret quiet_w wpList_make_has)
set_option linter.unusedVariables false

/-- A range is right. -/
def okG (lo hi ra : Int) : Bool := inb lo (-1000000) 1000000 && (inb hi (-1000000) 1000000 && (decide (lo ≤ hi) && inb ra 1 1000000))
theorem okG_iff {lo hi ra : Int} : okG lo hi ra = true ↔ (-1000000 ≤ lo ∧ lo ≤ 1000000) ∧ (-1000000 ≤ hi ∧ hi ≤ 1000000) ∧ lo ≤ hi ∧ 1 ≤ ra ∧ ra ≤ 1000000 := by
  unfold okG inb; simp
theorem inb_iff {x l h : Int} : inb x l h = true ↔ l ≤ x ∧ x ≤ h := by unfold inb; simp
theorem inb_no {x l h : Int} : inb x l h = false ↔ ¬ (l ≤ x ∧ x ≤ h) := by
  rw [← inb_iff]; simp

set_option maxHeartbeats 1000000 in
theorem specRangeOk (lo hi ra : Int) (w : World) : Calls Tryz.prog 101 #[.agg #[.int .i64 lo, .int .i64 hi, .int .i64 ra]] w (Ret (.bool (okG lo hi ra)) w) := by
  rcases Bool.eq_false_or_eq_true (inb lo (-1000000) 1000000) with h0 | h0
  rotate_left
  · go_enter Tryz.func101, Tryz.ntmps101
    go_wp2_with (first | (go_at_call 78; refine (fix.specSizeOk _ _).mono ?_; rintro e w' ⟨rfl, rfl⟩) | (go_at_call 24; refine (fix.specIn _ _ _ _).mono ?_; rintro e w' ⟨rfl, rfl⟩))
    go_ret
    exact ⟨fix.ret_bool (by unfold okG; simp [h0]), World.grownBy_alloc _ _ _⟩
  rcases Bool.eq_false_or_eq_true (inb hi (-1000000) 1000000) with h1 | h1
  rotate_left
  · go_enter Tryz.func101, Tryz.ntmps101
    go_wp2_with (first | (go_at_call 78; refine (fix.specSizeOk _ _).mono ?_; rintro e w' ⟨rfl, rfl⟩) | (go_at_call 24; refine (fix.specIn _ _ _ _).mono ?_; rintro e w' ⟨rfl, rfl⟩))
    go_ret
    exact ⟨fix.ret_bool (by unfold okG; simp [h0, h1]), World.grownBy_alloc _ _ _⟩
  rcases Bool.eq_false_or_eq_true (decide (lo ≤ hi)) with h2 | h2
  rotate_left
  · go_enter Tryz.func101, Tryz.ntmps101
    go_wp2_with (first | (go_at_call 78; refine (fix.specSizeOk _ _).mono ?_; rintro e w' ⟨rfl, rfl⟩) | (go_at_call 24; refine (fix.specIn _ _ _ _).mono ?_; rintro e w' ⟨rfl, rfl⟩))
    go_ret
    exact ⟨fix.ret_bool (by unfold okG; simp [h0, h1, h2]), World.grownBy_alloc _ _ _⟩
  · go_enter Tryz.func101, Tryz.ntmps101
    go_wp2_with (first | (go_at_call 78; refine (fix.specSizeOk _ _).mono ?_; rintro e w' ⟨rfl, rfl⟩) | (go_at_call 24; refine (fix.specIn _ _ _ _).mono ?_; rintro e w' ⟨rfl, rfl⟩))
    go_ret
    exact ⟨fix.ret_bool (by unfold okG; simp [h0, h1, h2]), World.grownBy_alloc _ _ _⟩

theorem okG_other (lo hi ra : Int) : okG lo hi ra = (inb lo (-1000000) 1000000 && (inb hi (-1000000) 1000000 && (inb ra (-1000000) 1000000 && (decide (lo ≤ hi) && decide (ra ≥ 1))))) := by
  apply Bool.eq_iff_iff.2
  rw [okG_iff]
  simp only [inb, Bool.and_eq_true, decide_eq_true_eq]
  omega
set_option maxHeartbeats 1000000 in
theorem implRangeOk (lo hi ra : Int) (w : World) : Calls Tryz.prog 124 #[.agg #[.int .i64 lo, .int .i64 hi, .int .i64 ra]] w (Ret (.bool (okG lo hi ra)) w) := by
  rcases Bool.eq_false_or_eq_true (inb lo (-1000000) 1000000) with h0 | h0
  rotate_left
  · go_enter Tryz.func124, Tryz.ntmps124
    go_wp2_with (go_at_call 55; refine (fix.implSizeOk _ _).mono ?_; rintro e w' ⟨rfl, rfl⟩)
    go_ret
    exact ⟨fix.ret_bool (by rw [okG_other]; simp [h0]), World.grownBy_alloc _ _ _⟩
  rcases Bool.eq_false_or_eq_true (inb hi (-1000000) 1000000) with h1 | h1
  rotate_left
  · go_enter Tryz.func124, Tryz.ntmps124
    go_wp2_with (go_at_call 55; refine (fix.implSizeOk _ _).mono ?_; rintro e w' ⟨rfl, rfl⟩)
    go_ret
    exact ⟨fix.ret_bool (by rw [okG_other]; simp [h0, h1]), World.grownBy_alloc _ _ _⟩
  rcases Bool.eq_false_or_eq_true (inb ra (-1000000) 1000000) with h3 | h3
  rotate_left
  · go_enter Tryz.func124, Tryz.ntmps124
    go_wp2_with (go_at_call 55; refine (fix.implSizeOk _ _).mono ?_; rintro e w' ⟨rfl, rfl⟩)
    go_ret
    exact ⟨fix.ret_bool (by rw [okG_other]; simp [h0, h1, h3]), World.grownBy_alloc _ _ _⟩
  rcases Bool.eq_false_or_eq_true (decide (lo ≤ hi)) with h2 | h2
  rotate_left
  · go_enter Tryz.func124, Tryz.ntmps124
    go_wp2_with (go_at_call 55; refine (fix.implSizeOk _ _).mono ?_; rintro e w' ⟨rfl, rfl⟩)
    go_ret
    exact ⟨fix.ret_bool (by rw [okG_other]; simp [h0, h1, h3, h2]), World.grownBy_alloc _ _ _⟩
  rcases Bool.eq_false_or_eq_true (decide (ra ≥ 1)) with h4 | h4
  rotate_left
  · go_enter Tryz.func124, Tryz.ntmps124
    go_wp2_with (go_at_call 55; refine (fix.implSizeOk _ _).mono ?_; rintro e w' ⟨rfl, rfl⟩)
    go_ret
    exact ⟨fix.ret_bool (by rw [okG_other]; simp [h0, h1, h3, h2, h4]), World.grownBy_alloc _ _ _⟩
  · go_enter Tryz.func124, Tryz.ntmps124
    go_wp2_with (go_at_call 55; refine (fix.implSizeOk _ _).mono ?_; rintro e w' ⟨rfl, rfl⟩)
    go_ret
    exact ⟨fix.ret_bool (by rw [okG_other]; simp [h0, h1, h3, h2, h4]), World.grownBy_alloc _ _ _⟩

end Go.Proofs.YtdikhdfpcipdbaaGreatDoor.sane

