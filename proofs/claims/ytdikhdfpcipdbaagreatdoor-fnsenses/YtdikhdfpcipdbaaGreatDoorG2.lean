/- Chapter 2 on plain lists: what a table is, what is at it, whether it rises, its greatest Y. Nothing here names the program. A table in memory: its points lie in one block, two cells each. A list of points that came in: read, copied into new memory, compared; its bulk. Two readings compared. -/
import Derived.Test.YtdikhdfpcipdbaaGreatDoorG1
import Derived.BigQuiet
import Derived.Deep.QuietTactic
import Derived.OwnWalk
import Derived.Deep.SlicePairs
import Derived.Laws.MakeOwn
import Derived.Laws.Small
import Derived.Laws.Entries
/- Chapter 2 on plain lists: what a table is, what is at it, whether it rises, its greatest Y. Nothing here names the program. -/
namespace Go.Proofs.YtdikhdfpcipdbaaGreatDoor.tab
open Go.Proofs.YtdikhdfpcipdbaaGreatDoor.nums
set_option linter.unusedVariables false

abbrev Pts := List (Int × Int)
def px (ps : Pts) (k : Nat) : Int := (ps.getD k (0, 0)).1
def py (ps : Pts) (k : Nat) : Int := (ps.getD k (0, 0)).2
/-- X and Y of the k-th are sizes. -/
def szB (ps : Pts) (k : Nat) : Bool := inb (px ps k) (-1000000) 1000000 && inb (py ps k) (-1000000) 1000000
/-- All of the first n are right, and X rises. -/
def Good (ps : Pts) (n : Nat) : Prop := (∀ k, k < n → szB ps k = true) ∧ ∀ k, k + 1 < n → px ps k < px ps (k + 1)
def OkT (ps : Pts) : Prop := 2 ≤ ps.length ∧ ps.length ≤ 8 ∧ Good ps ps.length
open Classical in
noncomputable def okB (ps : Pts) : Bool := decide (OkT ps)
open Classical in
theorem okB_true {ps : Pts} (h : OkT ps) : okB ps = true := by unfold okB; simp [h]
theorem okB_false {ps : Pts} (h : ¬ OkT ps) : okB ps = false := by unfold okB; simp [h]
/-- What is between the k-th and the one behind it. -/
def mid (ps : Pts) (k : Nat) (x : Int) : Int := kPlus (py ps k) (kPart (py ps (k + 1) - py ps k) (x - px ps k) (px ps (k + 1) - px ps k))
/-- y is what stands at x of a right table. -/
def AtIs (ps : Pts) (x y : Int) : Prop :=
  (x ≤ px ps 0 ∧ y = py ps 0) ∨ (px ps 0 < x ∧ px ps (ps.length - 1) ≤ x ∧ y = py ps (ps.length - 1)) ∨
  ∃ k, k + 1 < ps.length ∧ px ps 0 < x ∧ px ps k ≤ x ∧ x < px ps (k + 1) ∧ y = mid ps k x
/-- The greatest of the first n + 1. -/
def gr (ps : Pts) : Nat → Int
  | 0 => py ps 0
  | n + 1 => max (gr ps n) (py ps (n + 1))

theorem szB_iff {ps : Pts} {k : Nat} : szB ps k = true ↔ (-1000000 ≤ px ps k ∧ px ps k ≤ 1000000) ∧ -1000000 ≤ py ps k ∧ py ps k ≤ 1000000 := by
  unfold szB inb; simp
theorem Good.sz {ps : Pts} {n k : Nat} (h : Good ps n) (hk : k < n) : (-1000000 ≤ px ps k ∧ px ps k ≤ 1000000) ∧ -1000000 ≤ py ps k ∧ py ps k ≤ 1000000 := szB_iff.1 (h.1 k hk)
theorem OkT.sz {ps : Pts} {k : Nat} (h : OkT ps) : (-1000000 ≤ px ps k ∧ px ps k ≤ 1000000) ∧ -1000000 ≤ py ps k ∧ py ps k ≤ 1000000 := by
  by_cases hk : k < ps.length
  · exact h.2.2.sz hk
  · have : ps.getD k (0, 0) = (0, 0) := by simp [List.getD, List.getElem?_eq_none (by omega : ps.length ≤ k)]
    unfold px py; rw [this]; simp
theorem Good.mono {ps : Pts} {n k : Nat} (h : Good ps n) (hk : k ≤ n) : Good ps k := ⟨fun i hi => h.1 i (by omega), fun i hi => h.2 i (by omega)⟩
theorem Good.zero (ps : Pts) : Good ps 0 := ⟨fun i hi => by omega, fun i hi => by omega⟩
theorem Good.first {ps : Pts} (h : szB ps 0 = true) : Good ps 1 := by
  refine ⟨fun i hi => ?_, fun i hi => by omega⟩
  obtain rfl : i = 0 := by omega
  exact h
theorem Good.next {ps : Pts} {n : Nat} (h : Good ps (n + 1)) (hs : szB ps (n + 1) = true) (hx : px ps n < px ps (n + 1)) : Good ps (n + 1 + 1) :=
  ⟨fun i hi => by
    by_cases e : i = n + 1
    · subst e; exact hs
    · exact h.1 i (by omega), fun i hi => by
    by_cases e : i = n
    · subst e; exact hx
    · exact h.2 i (by omega)⟩
theorem Good.lt {ps : Pts} {n : Nat} (h : Good ps n) : ∀ (j i : Nat), i < j → j < n → px ps i < px ps j
  | 0, i, hij, hj => by omega
  | j + 1, i, hij, hj => by
    have h1 := h.2 j (by omega)
    by_cases e : i = j
    · subst e; exact h1
    · have := h.lt j i (by omega) (by omega); omega
theorem Good.le {ps : Pts} {n : Nat} (h : Good ps n) (j i : Nat) (hij : i ≤ j) (hj : j < n) : px ps i ≤ px ps j := by
  by_cases e : i = j
  · subst e; omega
  · have := h.lt j i (by omega) hj; omega

/-- There is one answer. -/
theorem AtIs.one {ps : Pts} {x y z : Int} (hg : OkT ps) (h : AtIs ps x y) (h' : AtIs ps x z) : y = z := by
  obtain ⟨h2, h8, hg⟩ := hg
  have hl := hg.lt (ps.length - 1) 0 (by omega) (by omega)
  rcases h with ⟨a, rfl⟩ | ⟨a, b, rfl⟩ | ⟨k, hk, a, b, c, rfl⟩ <;> rcases h' with ⟨a', rfl⟩ | ⟨a', b', rfl⟩ | ⟨k', hk', a', b', c', rfl⟩
  all_goals first | rfl | (exfalso; omega) | skip
  · have := hg.le (ps.length - 1) (k' + 1) (by omega) (by omega); omega
  · have := hg.le (ps.length - 1) (k + 1) (by omega) (by omega); omega
  · have e : k = k' := by
      by_cases h1 : k < k'
      · have := hg.le k' (k + 1) (by omega) (by omega); omega
      · by_cases h3 : k' < k
        · have := hg.le k (k' + 1) (by omega) (by omega); omega
        · omega
    subst e; rfl

theorem tdiv_mono {a b c : Int} (h0 : 0 ≤ a) (h : a ≤ b) (hc : 0 < c) : a.tdiv c ≤ b.tdiv c := by
  rw [Int.tdiv_eq_ediv_of_nonneg h0, Int.tdiv_eq_ediv_of_nonneg (by omega)]
  exact Int.ediv_le_ediv hc h

/-- The part of a way d, at dx of DX: from 0 to d. -/
theorem part_up {d dx DX : Int} (hd0 : 0 ≤ d) (hx0 : 0 ≤ dx) (hx1 : dx ≤ DX) (hX : 0 < DX) (hm : dx ≤ 2000000) : 0 ≤ kPart d dx DX ∧ kPart d dx DX ≤ d := by
  unfold kPart
  split
  · omega
  · have h1 : fit dx = dx := fit_same _ (by omega) (by omega)
    have f0 : 0 ≤ fit d := by unfold fit btw; omega
    have f1 : fit d ≤ d := by unfold fit btw; omega
    rw [h1]
    have e : (fit d * DX).tdiv DX = fit d := Int.mul_tdiv_cancel _ (by omega)
    have h2 : fit d * dx ≤ fit d * DX := Int.mul_le_mul_of_nonneg_left hx1 f0
    have h3 : 0 ≤ fit d * dx := Int.mul_nonneg f0 hx0
    have h4 := tdiv_mono h3 h2 hX
    have h5 : 0 ≤ (fit d * dx).tdiv DX := Int.tdiv_nonneg h3 (by omega)
    rw [e] at h4
    have h6 := fit_le d
    have h7 : fit ((fit d * dx).tdiv DX) = (fit d * dx).tdiv DX := fit_same _ (by omega) (by omega)
    omega
theorem fit_neg (d : Int) : fit (-d) = -fit d := by unfold fit btw; omega
theorem part_neg (d dx DX : Int) : kPart (-d) dx DX = -kPart d dx DX := by
  unfold kPart
  split
  · rfl
  · rw [fit_neg, Int.neg_mul, Int.neg_tdiv, fit_neg]
theorem part_mono {d a b DX : Int} (hd0 : 0 ≤ d) (h0 : 0 ≤ a) (h : a ≤ b) (hX : 0 < DX) : kPart d a DX ≤ kPart d b DX := by
  unfold kPart
  split
  · omega
  · have f0 : 0 ≤ fit d := by unfold fit btw; omega
    have g0 : 0 ≤ fit a := by unfold fit btw; omega
    have g1 : fit a ≤ fit b := by unfold fit btw; omega
    have h2 : fit d * fit a ≤ fit d * fit b := Int.mul_le_mul_of_nonneg_left g1 f0
    have h4 := tdiv_mono (Int.mul_nonneg f0 g0) h2 hX
    unfold fit btw at h4 ⊢; omega
theorem part_zero' (d DX : Int) : kPart d 0 DX = 0 := by
  unfold kPart
  split
  · rfl
  · have : fit 0 = 0 := by unfold fit btw; omega
    rw [this]; simp; unfold fit btw; omega

/-- Between two it is between. -/
theorem mid_bd {ps : Pts} (h : OkT ps) {k : Nat} {x : Int} (hk : k + 1 < ps.length) (h1 : px ps k ≤ x) (h2 : x ≤ px ps (k + 1)) :
    min (py ps k) (py ps (k + 1)) ≤ mid ps k x ∧ mid ps k x ≤ max (py ps k) (py ps (k + 1)) := by
  obtain ⟨⟨a1, a2⟩, b1, b2⟩ := h.sz (k := k)
  obtain ⟨⟨c1, c2⟩, d1, d2⟩ := h.sz (k := k + 1)
  have hlt := h.2.2.2 k hk
  unfold mid
  have fp : fit (py ps k) = py ps k := fit_same _ b1 b2
  by_cases hd : py ps k ≤ py ps (k + 1)
  · have := part_up (d := py ps (k + 1) - py ps k) (dx := x - px ps k) (DX := px ps (k + 1) - px ps k) (by omega) (by omega) (by omega) (by omega) (by omega)
    generalize kPart (py ps (k + 1) - py ps k) (x - px ps k) (px ps (k + 1) - px ps k) = q at *
    unfold kPlus; rw [fp]; unfold fit btw; omega
  · have e : py ps (k + 1) - py ps k = -(py ps k - py ps (k + 1)) := by omega
    have := part_up (d := py ps k - py ps (k + 1)) (dx := x - px ps k) (DX := px ps (k + 1) - px ps k) (by omega) (by omega) (by omega) (by omega) (by omega)
    rw [e, part_neg]
    generalize kPart (py ps k - py ps (k + 1)) (x - px ps k) (px ps (k + 1) - px ps k) = q at *
    unfold kPlus; rw [fp]; unfold fit btw; omega
theorem mid_mono {ps : Pts} (h : OkT ps) {k : Nat} {x z : Int} (hk : k + 1 < ps.length) (hy : py ps k ≤ py ps (k + 1)) (h1 : px ps k ≤ x) (hxz : x ≤ z) (h2 : z ≤ px ps (k + 1)) : mid ps k x ≤ mid ps k z := by
  have hlt := h.2.2.2 k hk
  unfold mid
  have := part_mono (d := py ps (k + 1) - py ps k) (a := x - px ps k) (b := z - px ps k) (DX := px ps (k + 1) - px ps k) (by omega) (by omega) (by omega) (by omega)
  unfold kPlus fit btw; omega

theorem AtIs.point {ps : Pts} (h : OkT ps) {k : Nat} (hk : k < ps.length) {y : Int} (hy : AtIs ps (px ps k) y) : y = py ps k := by
  refine AtIs.one h hy ?_
  have h2 := h.1
  by_cases h0 : k = 0
  · subst h0; exact .inl ⟨by omega, rfl⟩
  · have hl := h.2.2.lt k 0 (by omega) hk
    by_cases hn : k = ps.length - 1
    · subst hn; exact .inr (.inl ⟨hl, by omega, rfl⟩)
    · refine .inr (.inr ⟨k, by omega, hl, by omega, h.2.2.2 k (by omega), ?_⟩)
      obtain ⟨⟨a1, a2⟩, b1, b2⟩ := h.sz (k := k)
      unfold mid
      rw [Int.sub_self, part_zero']
      unfold kPlus fit btw; omega
theorem rise_le {ps : Pts} (hr : ∀ k, k + 1 < ps.length → py ps k ≤ py ps (k + 1)) : ∀ (j i : Nat), i ≤ j → j < ps.length → py ps i ≤ py ps j
  | 0, i, hij, hj => by
    obtain rfl : i = 0 := by omega
    exact Int.le_refl _
  | j + 1, i, hij, hj => by
    by_cases e : i = j + 1
    · subst e; exact Int.le_refl _
    · have := rise_le hr j i (by omega) (by omega)
      have := hr j hj
      omega
/-- Where it rises more is never less. -/
theorem AtIs.mono {ps : Pts} (h : OkT ps) (hr : ∀ k, k + 1 < ps.length → py ps k ≤ py ps (k + 1)) {x z y u : Int} (hxz : x ≤ z) (hy : AtIs ps x y) (hu : AtIs ps z u) : y ≤ u := by
  have h2 := h.1
  have hg := h.2.2
  have R := rise_le hr
  rcases hy with ⟨a, rfl⟩ | ⟨a, b, rfl⟩ | ⟨k, hk, a, b, c, rfl⟩ <;> rcases hu with ⟨a', rfl⟩ | ⟨a', b', rfl⟩ | ⟨k', hk', a', b', c', rfl⟩
  · omega
  · exact R _ _ (by omega) (by omega)
  · have := mid_bd h hk' b' (by omega)
    have := R k' 0 (by omega) (by omega)
    have := R (k' + 1) 0 (by omega) (by omega)
    omega
  · omega
  · omega
  · have := hg.le (ps.length - 1) (k' + 1) (by omega) (by omega)
    omega
  · have := hg.le k 0 (by omega) (by omega); omega
  · have := mid_bd h hk b (by omega)
    have := R (ps.length - 1) k (by omega) (by omega)
    have := R (ps.length - 1) (k + 1) (by omega) (by omega)
    omega
  · by_cases e : k = k'
    · subst e; exact mid_mono h hk (hr k hk) b hxz (by omega)
    · have hlt : k < k' := by
        refine Nat.lt_of_not_le fun hle => ?_
        have := hg.le k (k' + 1) (by omega) (by omega)
        omega
      have := mid_bd h hk b (by omega)
      have := mid_bd h hk' b' (by omega)
      have := R k' (k + 1) (by omega) (by omega)
      have := R k' k (by omega) (by omega)
      have := R (k' + 1) k' (by omega) (by omega)
      omega
end Go.Proofs.YtdikhdfpcipdbaaGreatDoor.tab

/- A table in memory: its points lie in one block, two cells each. -/
namespace Go.Proofs.YtdikhdfpcipdbaaGreatDoor.tab
open Go.ChangeShapes Go.WideShapes Go.ChangeAt Go.RowKit
open Go.Proofs.YtdikhdfpcipdbaaGreatDoor.nums Go.Proofs.YtdikhdfpcipdbaaGreatDoor.mem
set_option linter.unusedVariables false

theorem quiet_w {P : Program} {f : FuncId} {args : Array Value} {w : World} {n : Nat} {v : Value}
    (h : Calls P f args (w.drewN n) fun e w' => e = .returned v ∧ w.drewN n = w') : Calls P f args (w.drewN n) fun e w'' => e = .returned v ∧ ∃ m, w'' = w.drewN m :=
  h.mono fun _ _ ⟨he, hm⟩ => ⟨he, n, hm.symm⟩

/-- The points ps lie in block g, from its start on. -/
def Tab (w : World) (g : Nat) (ps : Pts) : Prop := g < w.heap.size ∧ ∀ k, k < ps.length → w.cell? ⟨g, k * 2, none⟩ = some (.int .i64 (px ps k)) ∧ w.cell? ⟨g, k * 2 + 1, none⟩ = some (.int .i64 (py ps k))
/-- It returns v; of what was there nothing is another. -/
def Ret (v : Value) (w : World) (e : Ending) (w' : World) : Prop := e = .returned v ∧ w.grownBy w' none

theorem Tab.grown {w w' : World} {g : Nat} {ps : Pts} {row : Option Nat} (h : Tab w g ps) (hb : w.grownBy w' row) (hn : some g ≠ row) : Tab w' g ps := by
  refine ⟨Nat.lt_of_lt_of_le h.1 hb.size, fun k hk => ?_⟩
  obtain ⟨h1, h2⟩ := h.2 k hk
  exact ⟨(World.cell?_of_block (hb.block g h.1 hn)).trans h1, (World.cell?_of_block (hb.block g h.1 hn)).trans h2⟩
theorem Tab.kept {w w' : World} {g : Nat} {ps : Pts} (h : Tab w g ps) (hb : w.grownBy w' none) : Tab w' g ps := h.grown hb (by simp)
theorem Tab.below {w w' : World} {g B : Nat} {ps : Pts} (h : Tab w g ps) (hb : Below B w w') (hg : g < B) : Tab w' g ps := by
  refine ⟨Nat.lt_of_lt_of_le h.1 hb.size, fun k hk => ?_⟩
  obtain ⟨h1, h2⟩ := h.2 k hk
  exact ⟨(hb.cell (p := ⟨g, k * 2, none⟩) hg).trans h1, (hb.cell (p := ⟨g, k * 2 + 1, none⟩) hg).trans h2⟩
theorem okB_bad {ps : Pts} {k : Nat} (hk : k < ps.length) (h : szB ps k = false) : okB ps = false := by
  refine okB_false fun ho => ?_
  have := ho.2.2.1 k hk
  rw [h] at this; cases this
theorem okB_fall {ps : Pts} {k : Nat} (hk : k + 1 < ps.length) (h : px ps (k + 1) ≤ px ps k) : okB ps = false := by
  refine okB_false fun ho => ?_
  have := ho.2.2.2 k hk
  omega

/-- It returns what stands at x. -/
def RetAt (ps : Pts) (x : Int) (w : World) (e : Ending) (w' : World) : Prop := ∃ y, AtIs ps x y ∧ e = .returned (.int .i64 y) ∧ w.grownBy w' none
end Go.Proofs.YtdikhdfpcipdbaaGreatDoor.tab

/- A list of points that came in: read, copied into new memory, compared; its bulk. -/
namespace Go.Proofs.YtdikhdfpcipdbaaGreatDoor.tab
open Go.ChangeShapes Go.WideShapes Go.ChangeAt Go.RowKit
open Go.Proofs.YtdikhdfpcipdbaaGreatDoor.nums Go.Proofs.YtdikhdfpcipdbaaGreatDoor.mem
set_option linter.unusedVariables false

/-- The slice that came in holds these points, each of its two numbers in a cell, in a block of the world. -/
def Arg (w : World) (a : Option Addr) (ps : Pts) : Prop :=
  ∀ k, k < ps.length → ∃ x : Addr, a = some x ∧ x.block < w.heap.size ∧ w.cell? (x.add (k * 2)) = some (.int .i64 (px ps k)) ∧ w.cell? ⟨(x.add (k * 2)).block, (x.add (k * 2)).off + 1, none⟩ = some (.int .i64 (py ps k))
theorem add_off (x : Addr) (m j : Nat) : x.add (m + (j + 1)) = ⟨(x.add m).block, (x.add m).off + (j + 1), none⟩ := by
  unfold Addr.add
  by_cases hm : m = 0 <;> simp [hm, Nat.add_assoc]
theorem block_add (a : Addr) (n : Nat) : (a.add n).block = a.block := by unfold Addr.add; split <;> rfl
theorem Arg.kept {w w' : World} {a : Option Addr} {ps : Pts} (h : Arg w a ps) (hg : w.grownBy w' none) : Arg w' a ps := by
  intro k hk
  obtain ⟨x, e, hb, h1, h2⟩ := h k hk
  refine ⟨x, e, Nat.lt_of_lt_of_le hb hg.size, ?_, ?_⟩
  · rw [← h1]; exact World.cell?_of_block (hg.block _ (by rw [block_add]; omega) (by simp))
  · rw [← h2]; exact World.cell?_of_block (hg.block _ (by show (x.add (k * 2)).block < _; rw [block_add]; omega) (by simp))

theorem wpList_make_has {P : Program} (w : World) {ops : Array Oper} {rest : List Oper} {o : Oper} {a : Act} {Q : Exit → Act → World → Prop}
    (hg : o.guard = none) (l c : Operand) (t : TypeId) (hop : o.op = Op.makeSlice t l c)
    (e : TypeId) (i : TypeInfo) (z : Value) (size : Nat) (h1 : P.underlying t = some (.slice e)) (h2 : P.info? e = some i) (h3 : i.zero = some z) (h4 : i.size = size)
    (kl kc : IntKind) (L C : Int) (n : Nat) (hl : a.eval l = .int kl L) (hc : a.eval c = .int kc C) (hL : L = (n : Int)) (hC : C = (n : Int)) (b2 : i.bytes * n ≤ 281474976710656) (b3 : n ≤ maxLen)
    (hK : wpList P ops Q rest (a.put o.dst (.slice (some ⟨w.heap.size, 0, none⟩) n n)) (w.alloc (.cells (madeCells z.cells (n * size)) e))) :
    wpList P ops Q (o :: rest) a w := by
  refine wpList_plain hg fun K hK' => ?_
  subst hL
  subst hC
  subst h4
  have b2' : (i.bytes : Int) * (n : Int) ≤ 281474976710656 := by
    have h : ((i.bytes * n : Nat) : Int) ≤ 281474976710656 := by omega
    rwa [Int.natCast_mul] at h
  unfold maxLen at b3
  have hr := run_make (P := P) w t e i z h1 h2 h3 kl kc n n (by omega) (Int.le_refl _) b2' (by omega)
  simp only [Int.toNat_natCast] at hr
  unfold Oper.wp
  simp [execOp, hop, hl, hc, hr, Result.andThen]
  exact hK' _ _ hK

/-- A copy: a new block that holds the points; of what was there nothing is another. -/
def Copied (ps : Pts) (w : World) (e : Ending) (w' : World) : Prop := ∃ g, e = .returned (.slice (some ⟨g, 0, none⟩) ps.length ps.length) ∧ w.heap.size ≤ g ∧ w.grownBy w' none ∧ Tab w' g ps

end Go.Proofs.YtdikhdfpcipdbaaGreatDoor.tab

/- Two readings compared. -/
namespace Go.Proofs.YtdikhdfpcipdbaaGreatDoor.rd
open Go.ChangeShapes Go.WideShapes Go.ChangeAt Go.RowKit
open Go.Proofs.YtdikhdfpcipdbaaGreatDoor.nums Go.Proofs.YtdikhdfpcipdbaaGreatDoor.mem
set_option linter.unusedVariables false

/-- A reading: its value, its age, whether it was. -/
abbrev R := Int × Int × Bool
def eqR (r s : R) : Bool := r.1 == s.1 && (r.2.1 == s.2.1 && r.2.2 == s.2.2)

theorem fieldsR : ∃ fs : List Field, Tryz.prog.underlying 42 = some (.struct fs.toArray) ∧ fs.map (fun f => (f.name, f.type, f.offset)) = [("Value", 2, 0), ("Age", 2, 1), ("Was", 4, 2)] :=
  ⟨_, Tryz.underlying42, rfl⟩
theorem partI (w : World) (xs : Array Value) (k : Nat) (v : Int) (h : xs[k]? = some (.int .i64 v)) : (part 2 xs k).run Tryz.prog w = .ok (.int .i64 v) w := by
  simp [part, go_sem, h]
theorem partB (w : World) (xs : Array Value) (k : Nat) (v : Bool) (h : xs[k]? = some (.bool v)) : (part 4 xs k).run Tryz.prog w = .ok (.bool v) w := by
  simp [part, go_sem, h]
theorem eqI (w : World) (d : Nat) (a b : Int) : (Op.equalIn (d + 1) 2 (.int .i64 a) (.int .i64 b)).run Tryz.prog w = .ok (a == b) w := by
  simp [Op.equalIn, run_underlying Tryz.underlying2]
theorem eqB (w : World) (d : Nat) (a b : Bool) : (Op.equalIn (d + 1) 4 (.bool a) (.bool b)).run Tryz.prog w = .ok (a == b) w := run_equalIn_bool w d _ a b Tryz.underlying4
theorem equalR (w : World) (d : Nat) (v a v' a' : Int) (o o' : Bool) : (Op.equalIn (d + 2) 42 (.agg #[.int .i64 v, .int .i64 a, .bool o]) (.agg #[.int .i64 v', .int .i64 a', .bool o'])).run Tryz.prog w = .ok (eqR (v, a, o) (v', a', o')) w := by
  obtain ⟨fs, hu, hf⟩ := fieldsR
  have hp : Tryz.prog.stoodInHeld 42 = false := by kernel_rfl
  unfold Op.equalIn
  simp only [Sem.run_bind, run_underlying hu, Result.andThen_ok, run_program, hp, Bool.false_eq_true, if_false]
  rw [← Array.forIn_toList]
  match fs, hf with
  | f0 :: f1 :: f2 :: fs, hf =>
    simp only [List.map_cons, List.cons.injEq, Prod.mk.injEq, List.map_eq_nil_iff] at hf
    obtain ⟨⟨n0, t0, o0⟩, ⟨n1, t1, o1⟩, ⟨n2, t2, o2⟩, rfl⟩ := hf
    simp [n0, n1, n2, t0, t1, t2, o0, o1, o2, partI, partB, eqI, eqB]
    unfold eqR
    by_cases h0 : v = v' <;> by_cases h1 : a = a' <;> by_cases h2 : o = o' <;> simp [h0, h1, h2]
  | [], hf => simp at hf
  | [_], hf => simp at hf
  | [_, _], hf => simp at hf
theorem eqlR (w : World) (v a v' a' : Int) (o o' : Bool) : (binOp .eql 42 (.agg #[.int .i64 v, .int .i64 a, .bool o]) (.agg #[.int .i64 v', .int .i64 a', .bool o'])).run Tryz.prog w = .ok (.bool (eqR (v, a, o) (v', a', o'))) w := by
  simp only [binOp]
  simp [Op.equal, Op.maxDepth, equalR w 9998]
theorem neqR (w : World) (v a v' a' : Int) (o o' : Bool) : (binOp .neq 42 (.agg #[.int .i64 v, .int .i64 a, .bool o]) (.agg #[.int .i64 v', .int .i64 a', .bool o'])).run Tryz.prog w = .ok (.bool (!eqR (v, a, o) (v', a', o'))) w := by
  simp only [binOp]
  simp [Op.equal, Op.maxDepth, equalR w 9998]
theorem guardR (w : World) (op : BinOp) (x y : Operand) (xs ys : Array Value) : (eqGuard op 42 x y (.agg xs) (.agg ys)).run Tryz.prog w = .ok () w := by
  have hm : Tryz.prog.eqGuardType Tryz.prog.depth 42 = false := by kernel_rfl
  cases op <;> simp [eqGuard, run_program, hm]
end Go.Proofs.YtdikhdfpcipdbaaGreatDoor.rd

