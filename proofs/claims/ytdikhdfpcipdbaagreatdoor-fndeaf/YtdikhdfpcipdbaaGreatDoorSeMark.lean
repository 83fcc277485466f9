/- Senses copied, compared, marked and held. -/
import Derived.Test.YtdikhdfpcipdbaaGreatDoorSeArg
namespace Go.Proofs.YtdikhdfpcipdbaaGreatDoor.se
open Go.ChangeShapes Go.WideShapes Go.ChangeAt Go.RowKit
open Go.Proofs.YtdikhdfpcipdbaaGreatDoor.nums Go.Proofs.YtdikhdfpcipdbaaGreatDoor.mem
open Go.Proofs.YtdikhdfpcipdbaaGreatDoor.tab (Ret)
open Go.Proofs.YtdikhdfpcipdbaaGreatDoor.rd (R okR zR OwnR mkR mkR_len)
open Go.Proofs.YtdikhdfpcipdbaaGreatDoor.il (nth Ints Own mks mks_len)
set_option linter.unusedVariables false

theorem six {w : World} {g : Nat} {t : TypeId} {a b c d e f : Value} (k : Has w g t #[a, b, c, d, e, f]) :
    (w.cell? ⟨g, 0, none⟩ = some a ∧ w.cell? ⟨g, 1, none⟩ = some b ∧ w.cell? ⟨g, 2, none⟩ = some c) ∧ w.cell? ⟨g, 3, none⟩ = some d ∧ w.cell? ⟨g, 4, none⟩ = some e ∧ w.cell? ⟨g, 5, none⟩ = some f :=
  ⟨⟨k.cell 0, k.cell 1, k.cell 2⟩, k.cell 3, k.cell 4, k.cell 5⟩
theorem free6 {w : World} {g : Nat} {t : TypeId} {a b c d e f : Value} (k : Has w g t #[a, b, c, d, e, f]) :
    (w.frozen? ⟨g, 0, none⟩ = false ∧ w.frozen? ⟨g, 1, none⟩ = false ∧ w.frozen? ⟨g, 2, none⟩ = false) ∧ w.frozen? ⟨g, 3, none⟩ = false ∧ w.frozen? ⟨g, 4, none⟩ = false ∧ w.frozen? ⟨g, 5, none⟩ = false :=
  ⟨⟨k.frozen 0, k.frozen 1, k.frozen 2⟩, k.frozen 3, k.frozen 4, k.frozen 5⟩
/-- What the chapter may be asked of at most. -/
structure Bd (s : S) (n : Nat) : Prop where
  sp : s.sp.length ≤ n
  he : s.he.length ≤ n
  fa : s.fa.length ≤ n
  sq : s.sq.length ≤ n
theorem bd_bulk {s : S} {n : Nat} (h : bulk s ≤ n) : Bd s n := by unfold bulk at h; exact ⟨by omega, by omega, by omega, by omega⟩
/-- Where the marks of each list begin. -/
def m1 (m : Nat) (s : S) : Nat := m + 3 * s.sp.length
def m2 (m : Nat) (s : S) : Nat := m1 m s + 3 * s.he.length
def m3 (m : Nat) (s : S) : Nat := m2 m s + 3 * s.fa.length
def m4 (m : Nat) (s : S) : Nat := m3 m s + s.sq.length
def mkS (m : Nat) (s : S) : S := ⟨mkR m s.sp.length, mkR (m1 m s) s.he.length, mkR (m2 m s) s.fa.length, s.wn, s.ar, mks (m3 m s) s.sq.length⟩
def MarkedS (m : Nat) (s : S) (p : P) (w : World) (e : Ending) (w' : World) : Prop := e = .returned (.int .i64 (m4 m s : Int)) ∧ Chg (blkS s p) w w' ∧ Arg w' (mkS m s) p

theorem arg_chg {S : Nat → Prop} {w w' : World} {a : Option Addr} {l : List R} (h : Chg S w w') (H : rd.Arg w a l) (hn : ∀ x : Addr, a = some x → ¬ S x.block) : rd.Arg w' a l := by
  intro k hk
  obtain ⟨x, e, hb, h0, h1, h2⟩ := H k hk
  have key : ∀ y : Addr, y.block = x.block → w'.cell? y = w.cell? y := fun y hy => World.cell?_of_block (h.block _ (by rw [hy]; exact hb) (by rw [hy]; exact hn x e))
  exact ⟨x, e, Nat.lt_of_lt_of_le hb h.size, (key _ (block_add _ _)).trans h0, (key ⟨(x.add (k * 3)).block, _, none⟩ (block_add _ _)).trans h1, (key ⟨(x.add (k * 3)).block, _, none⟩ (block_add _ _)).trans h2⟩
theorem ownR_chg {S : Nat → Prop} {w w' : World} {a : Option Addr} {l : List R} (h : Chg S w w') (H : OwnR w a l) (hn : ∀ x : Addr, a = some x → ¬ S x.block) : OwnR w' a l := by
  rcases H with H | ⟨g, cs, rfl, hc, hj⟩
  · exact Or.inl H
  · exact Or.inr ⟨g, cs, rfl, h.has hc (hn _ rfl), hj⟩
theorem own_chg {S : Nat → Prop} {w w' : World} {a : Option Addr} {l : List Int} (h : Chg S w w') (H : Own w a l) (hn : ∀ x, il.blk a l = some x → ¬ S x) : Own w' a l := by
  rcases H with H | ⟨g, o, cs, rfl, hc, hj⟩
  · exact Or.inl H
  · by_cases hl : l = []
    · exact Or.inl hl
    · exact Or.inr ⟨g, o, cs, rfl, h.has hc (hn _ (il.blk_some hl)), hj⟩
theorem OwnS.chg {T : Nat → Prop} {b : Nat} {w w' : World} {s : S} {p : P} (h : OwnS b w s p) (hc : Chg T w w') (hn : ∀ c, blkS s p c → ¬ T c) : OwnS b w' s p :=
  ⟨ownR_chg hc h.sp (fun x e => hn _ (Or.inl ⟨x, e, rfl⟩)), ownR_chg hc h.he (fun x e => hn _ (Or.inr (Or.inl ⟨x, e, rfl⟩))), ownR_chg hc h.fa (fun x e => hn _ (Or.inr (Or.inr (Or.inl ⟨x, e, rfl⟩)))), own_chg hc h.sq (fun x e => hn _ (Or.inr (Or.inr (Or.inr e)))), h.b1, h.b2, h.b3, h.b4, h.d12, h.d13, h.d23⟩
theorem blk_ne {a b : Option Addr} (h : ∀ x y : Addr, a = some x → b = some y → x.block ≠ y.block) {x : Addr} (e : a = some x) : some x.block ≠ rd.blk b := by
  cases b with
  | none => simp [rd.blk]
  | some y => have := h x y e rfl; simp [rd.blk]; exact this
theorem blk_of {a : Option Addr} {b : Nat} (h : some b = rd.blk a) : ∃ x : Addr, a = some x ∧ x.block = b := by
  cases a with
  | none => simp [rd.blk] at h
  | some y => exact ⟨y, rfl, by simp [rd.blk] at h; exact h.symm⟩
theorem lt_blk {a : Option Addr} {g : Nat} (h : ∀ x : Addr, a = some x → x.block < g) : some g ≠ rd.blk a := by
  intro e
  obtain ⟨x, hx, hb⟩ := blk_of e
  have := h x hx; omega
theorem OwnR.int {w : World} {a : Option Addr} {l : List R} {b : Option Addr} {n : List Int} (h : OwnR w a l) (k : Own w b n) {x : Addr} (e : a = some x) : some x.block ≠ il.blk b n := by
  rcases h with ⟨h, _⟩ | ⟨g, cs, h, hc, hj⟩
  · rw [h] at e; cases e
  · rw [h] at e; injection e with e; subst e; exact k.ne hc (by decide)
theorem OwnR.int' {w : World} {a : Option Addr} {l : List R} {b : Option Addr} {n : List Int} (h : OwnR w a l) (k : Own w b n) {x : Nat} (e : il.blk b n = some x) : some x ≠ rd.blk a := by
  intro e2
  obtain ⟨y, hy, hb⟩ := blk_of e2
  exact OwnR.int h k hy (by rw [hb]; exact e.symm)

end Go.Proofs.YtdikhdfpcipdbaaGreatDoor.se
