/- What came in: senses; read, their bulk. -/
import Derived.Test.YtnkimjmpjnhlnaaDoorSe
import Derived.ChangeSame
import Derived.Deep.Strs
import Derived.StillTailTactics
namespace Go.Proofs.YtnkimjmpjnhlnaaDoor.se
open Go.ChangeShapes Go.WideShapes Go.ChangeAt Go.RowKit
open Go.Proofs.YtnkimjmpjnhlnaaDoor.nums Go.Proofs.YtnkimjmpjnhlnaaDoor.mem
open Go.Proofs.YtnkimjmpjnhlnaaDoor.tab (Ret)
open Go.Proofs.YtnkimjmpjnhlnaaDoor.rd (R okR zR OwnR)
open Go.Proofs.YtnkimjmpjnhlnaaDoor.il (nth Ints Own)
set_option linter.unusedVariables false

section
variable {H : Type} {enc : TypeId × Value → H} {P : Program} {w : World} {base : Nat} {spare : Nat → Bool} {held : Bool}
/-- The six fields of a struct are read one by one. -/
theorem trod_struct6 {t : TypeId} {f0 f1 f2 f3 f4 f5 : Field} {fuel : Nat} {cs : List Value} {x : DataW H × List MemPlace} (ht : P.underlying t = some (.struct #[f0, f1, f2, f3, f4, f5])) (h : DataW.trod enc P w base spare held fuel t cs = some x) :
    ∃ y0 y1 y2 y3 y4 y5 n, cs.length = P.cellsOf t ∧
      (DataW.trod enc P w base spare held n f0.type ((cs.drop f0.offset).take (P.cellsOf f0.type)) = some y0 ∧ DataW.trod enc P w base spare held n f1.type ((cs.drop f1.offset).take (P.cellsOf f1.type)) = some y1 ∧
      DataW.trod enc P w base spare held n f2.type ((cs.drop f2.offset).take (P.cellsOf f2.type)) = some y2 ∧ DataW.trod enc P w base spare held n f3.type ((cs.drop f3.offset).take (P.cellsOf f3.type)) = some y3) ∧
      DataW.trod enc P w base spare held n f4.type ((cs.drop f4.offset).take (P.cellsOf f4.type)) = some y4 ∧ DataW.trod enc P w base spare held n f5.type ((cs.drop f5.offset).take (P.cellsOf f5.type)) = some y5 := by
  obtain ⟨xs, n, _, rfl, hl, hlen, hf⟩ := DataW.trod_struct ht h
  match xs, hlen with
  | [y0, y1, y2, y3, y4, y5], _ =>
    exact ⟨y0, y1, y2, y3, y4, y5, n, hl, ⟨by simpa using hf 0 f0 rfl, by simpa using hf 1 f1 rfl, by simpa using hf 2 f2 rfl, by simpa using hf 3 f3 rfl⟩, by simpa using hf 4 f4 rfl, by simpa using hf 5 f5 rfl⟩
end

theorem readings_of_trod {H : Type} {enc : TypeId × Value → H} {w : World} {base : Nat} {held : Bool} {fuel : Nat} {cs : List Value} {y : DataW H × List MemPlace}
    (hf : DataW.trod enc Tryd.prog w base (fun _ => true) held fuel 25 cs = some y) : ∃ (a : Option Addr) (cap : Nat) (l : List R), cs = [.slice a l.length cap] ∧ l.length ≤ maxLen ∧ rd.Arg w a l := by
  have hs : ∃ a len cap, cs = [Value.slice a len cap] := by
    rcases Go.Deep.open_slice Tryd.underlying25 hf with ⟨hcs, _⟩ | ⟨x, l, c, m, n, D, Pq, hcs, _⟩
    · exact ⟨_, _, _, hcs⟩
    · exact ⟨_, _, _, hcs⟩
  obtain ⟨a, len, cap, rfl⟩ := hs
  obtain ⟨d, p⟩ := y
  obtain ⟨l, e, hl, hA⟩ := rd.open_readings (a := a) (len := len) (cap := cap) (d := d) (p := p) ⟨fuel, hf⟩
  subst e
  exact ⟨a, cap, l, rfl, hl, hA⟩

theorem ints_of_trod {H : Type} {enc : TypeId × Value → H} {w : World} {base : Nat} {held : Bool} {fuel : Nat} {cs : List Value} {y : DataW H × List MemPlace}
    (hf : DataW.trod enc Tryd.prog w base (fun _ => true) held fuel 26 cs = some y) : ∃ (a : Option Addr) (cap : Nat) (l : List Int), cs = [.slice a l.length cap] ∧ l.length ≤ maxLen ∧ Ints w a l := by
  have hs : ∃ a len cap, cs = [Value.slice a len cap] := by
    rcases open_ints Tryd.underlying26 Tryd.underlying2 (by kernel_rfl) hf with ⟨hcs, _⟩ | ⟨x, len, cap, zs, hcs, _⟩
    · exact ⟨_, _, _, hcs⟩
    · exact ⟨_, _, _, hcs⟩
  obtain ⟨a, len, cap, rfl⟩ := hs
  obtain ⟨d, p⟩ := y
  obtain ⟨l, e, hl, hA, _⟩ := il.open_ints' (a := a) (len := len) (cap := cap) (d := d) (p := p) ⟨fuel, hf⟩
  subst e
  exact ⟨a, cap, l, rfl, hl, hA⟩

/-- How many there are in all. -/
def bulk (s : S) : Nat := s.sp.length + s.he.length + s.fa.length + s.sq.length
/-- No list is longer than any can be. -/
structure Lim (s : S) : Prop where
  sp : s.sp.length ≤ maxLen
  he : s.he.length ≤ maxLen
  fa : s.fa.length ≤ maxLen
  sq : s.sq.length ≤ maxLen
set_option maxRecDepth 100000 in
theorem open_senses {H : Type} {enc : TypeId × Value → H} {w : World} {r : Reach} {b0 base : Nat} {held : Bool} {v : Value} {d : DataW H} {p : List MemPlace}
    (hval : Value.okWide Tryd.prog w r b0 28 v) (h : DataW.Trod enc Tryd.prog w base (fun _ => true) held 28 v d p) : ∃ s q, v = sv s q ∧ Arg w s q ∧ Lim s := by
  obtain ⟨cs, rfl, hs⟩ := okWide_struct Tryd.underlying28 hval
  obtain ⟨fuel, hf⟩ := h
  have h2 : Tryd.prog.cellsOf 28 = 6 := by kernel_rfl
  rw [h2] at hs
  obtain ⟨y0, y1, y2, y3, y4, y5, n, hl, ⟨t0, t1, t2, t3⟩, t4, t5⟩ := trod_struct6 Tryd.underlying28 hf
  obtain ⟨a0, k0, l0, e0, m0, A0⟩ := readings_of_trod t0
  obtain ⟨a1, k1, l1, e1, m1, A1⟩ := readings_of_trod t1
  obtain ⟨a2, k2, l2, e2, m2, A2⟩ := readings_of_trod t2
  obtain ⟨z3, e3, _, _⟩ := DataW.trod_int Tryd.underlying2 t3
  obtain ⟨z4, e4, _⟩ := DataW.trod_bool Tryd.underlying4 t4
  obtain ⟨a5, k5, l5, e5, m5, A5⟩ := ints_of_trod t5
  have c0 : Tryd.prog.cellsOf 25 = 1 := by kernel_rfl
  have c1 : Tryd.prog.cellsOf 2 = 1 := by kernel_rfl
  have c2 : Tryd.prog.cellsOf 4 = 1 := by kernel_rfl
  have c3 : Tryd.prog.cellsOf 26 = 1 := by kernel_rfl
  obtain ⟨l⟩ := cs
  match l, hs with
  | [x0, x1, x2, x3, x4, x5], _ =>
    simp [Value.cells, c0, c1, c2, c3] at e0 e1 e2 e3 e4 e5
    refine ⟨⟨l0, l1, l2, z3, z4, l5⟩, ⟨a0, k0, a1, k1, a2, k2, a5, k5⟩, ?_, ⟨A0, A1, A2, A5⟩, ⟨m0, m1, m2, m5⟩⟩
    rw [e0, e1, e2, e3, e4, e5]

theorem szReadingsL (a : Option Addr) (len cap L : Nat) (w : World) (hl : len ≤ maxLen) (hL : L ≤ 1048576) :
    Calls Tryd.prog 42 #[.slice a len cap, .int .i64 L] w fun e w' => e = .returned (.int .i64 (if len ≤ L then (L : Int) - (len : Int) else -1)) ∧ w = w' := by
  unfold maxLen at hl
  by_cases h : len ≤ L
  · rw [if_pos h]
    have h0 : decide ((L : Int) - (len : Int) < 0) = false := by simp; omega
    go_enter Tryd.func42, Tryd.ntmps42
    go_wp2
    go_ret
    exact ⟨rfl, rfl⟩
  · rw [if_neg h]
    have h0 : decide ((L : Int) - (len : Int) < 0) = true := by simp; omega
    go_enter Tryd.func42, Tryd.ntmps42
    go_wp2
    go_ret
    exact ⟨rfl, rfl⟩
theorem szR_yes (a : Option Addr) (len cap L M : Nat) (w : World) (hl : len ≤ maxLen) (hL : L ≤ 1048576) (h : L = M + len) :
    Calls Tryd.prog 42 #[.slice a len cap, .int .i64 L] w fun e w' => e = .returned (.int .i64 M) ∧ w = w' := by
  have := szReadingsL a len cap L w hl hL
  rw [if_pos (by omega), show (L : Int) - (len : Int) = M by omega] at this
  exact this
theorem szR_no (a : Option Addr) (len cap L : Nat) (w : World) (hl : len ≤ maxLen) (hL : L ≤ 1048576) (h : ¬ len ≤ L) :
    Calls Tryd.prog 42 #[.slice a len cap, .int .i64 L] w fun e w' => e = .returned (.int .i64 (-1)) ∧ w = w' := by
  have := szReadingsL a len cap L w hl hL
  rw [if_neg h] at this
  exact this
theorem szI_yes (a : Option Addr) (len cap L M : Nat) (w : World) (hl : len ≤ maxLen) (hL : L ≤ 1048576) (h : L = M + len) :
    Calls Tryd.prog 16 #[.slice a len cap, .int .i64 L] w fun e w' => e = .returned (.int .i64 M) ∧ w = w' := by
  have := il.szInts a len cap L w hl hL
  rw [if_pos (by omega), show (L : Int) - (len : Int) = M by omega] at this
  exact this
theorem szI_no (a : Option Addr) (len cap L : Nat) (w : World) (hl : len ≤ maxLen) (hL : L ≤ 1048576) (h : ¬ len ≤ L) :
    Calls Tryd.prog 16 #[.slice a len cap, .int .i64 L] w fun e w' => e = .returned (.int .i64 (-1)) ∧ w = w' := by
  have := il.szInts a len cap L w hl hL
  rw [if_neg h] at this
  exact this
end Go.Proofs.YtnkimjmpjnhlnaaDoor.se
