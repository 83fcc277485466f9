/- The draws of chapter 6, continued: lists; a reading and a number. Chapter 3 on plain pairs: what one sign does to a bounce, and many. Chapter 3: the model's small functions. Chapter 3: the program's functions answer as one plain function does. -/
import Derived.Test.YtdikhdfpcipdbaaGreatDoorG15
import Derived.Test.YtdikhdfpcipdbaaGreatDoorG1
import Derived.WalkKit
import Derived.Test.YtdikhdfpcipdbaaGreatDoorG2
import Derived.StillTailTactics
import Derived.WalkMore
/- The draws of chapter 6, continued: lists; a reading and a number. -/
namespace Go.Proofs.YtdikhdfpcipdbaaGreatDoor.rd
open Go.ChangeShapes Go.WideShapes Go.ChangeAt Go.RowKit
open Go.Proofs.YtdikhdfpcipdbaaGreatDoor.nums Go.Proofs.YtdikhdfpcipdbaaGreatDoor.mem Go.Proofs.YtdikhdfpcipdbaaGreatDoor.cur
open Go.Proofs.YtdikhdfpcipdbaaGreatDoor.tab (Ret quiet_w wpList_make_has add_off)
set_option linter.unusedVariables false

/-- All are numbers that a draw gives. -/
def RngL (l : List R) : Prop := ∀ r ∈ l, In64 r.1 ∧ -1 ≤ r.2.1 ∧ r.2.1 ≤ 1001
theorem RngL.snoc {l : List R} (h : RngL l) {r : R} (hr : In64 r.1 ∧ -1 ≤ r.2.1 ∧ r.2.1 ≤ 1001) : RngL (l ++ [r]) := fun s hs => by
  rcases List.mem_append.1 hs with h1 | h1
  · exact h s h1
  · have e : s = r := by simpa using h1
    rw [e]; exact hr
/-- A draw of m readings from the cursor in block q, in a row of new memory. -/
def DrawnL (m : Nat) (b : Option Addr) (n c : Nat) (w : World) (q : Nat) (e : Ending) (w' : World) : Prop :=
  ∃ (g cap : Nat) (l : List R), e = .returned (.slice (some ⟨g, 0, none⟩) l.length cap) ∧ l.length = m ∧ RngL l ∧ w.heap.size ≤ g ∧ w.grownBy w' (some q) ∧ Cur b n c w' q ∧ w'.ownsRow w.heap.size 42 3 (.slice (some ⟨g, 0, none⟩) l.length cap) l.length (rowR l)

theorem row_kept {w w' : World} {base k cap g q : Nat} {e : TypeId} {xs : List Value} (h : w.ownsRow base e 3 (.slice (some ⟨g, 0, none⟩) k cap) k xs) (hg : w.grownBy w' (some q)) (hq : q < base) : w'.ownsRow base e 3 (.slice (some ⟨g, 0, none⟩) k cap) k xs := by
  have := (h.lt g rfl).1
  exact h.kept hg (.inr (by simp [Value.ownBlock]; omega))

set_option maxRecDepth 100000 in
set_option maxHeartbeats 4000000 in
theorem drawList (b : Option Addr) (n c q m : Nat) (w : World) (hn : n ≤ 4096) (hm : m ≤ 1000) (h : Cur b n c w q) :
    Calls Tryz.prog 60 #[.pointer (some ⟨q, 0, none⟩), .int .i64 m] w (DrawnL m b n c w q) := by
  obtain ⟨i0, hi, hz0, hz1, hz2⟩ := info_parts infoReading
  have hq := h.lt
  have g0 : w.grownBy (w.alloc (Obj.cells #[] 42)) (some q) := World.grownBy_alloc _ _ _
  have o0 := World.ownsRow_made (base := w.heap.size) (e := 42) (size := 3) w #[] 0 (Nat.le_refl _) (Nat.zero_le _) rfl
  have h0 := h.alloc (Obj.cells #[] 42)
  go_enter Tryz.func60, Tryz.ntmps60
  go_wp2_with fail
  go_loopw [1, 5] (fun r t wr => ∃ (k g cap : Nat) (l : List R), k ≤ m ∧ r = .int .i64 (k : Int) ∧ t = .slice (some ⟨g, 0, none⟩) l.length cap ∧ l.length + k = m ∧ RngL l ∧ w.heap.size ≤ g ∧ wr.ownsRow w.heap.size 42 3 (.slice (some ⟨g, 0, none⟩) l.length cap) l.length (rowR l) ∧ w.grownBy wr (some q) ∧ Cur b n c wr q) (fun r _ _ => (intOf r).toNat)
  case atStart => exact ⟨m, _, _, [], Nat.le_refl _, rfl, rfl, by simp, fun r hr => by simp at hr, Nat.le_refl _, o0, g0, h0⟩
  case round =>
    clear o0 g0 h0
    obtain ⟨k, g, cap, l, hk, rfl, rfl, hlk, hR, hge, hown, hg, hcur⟩ := hrel
    have HLK := Lib.hid hlk
    have hl : l.length ≤ 1000 := by omega
    clear hlk
    have hsz := hg.size
    by_cases hm0 : 0 < k
    · have hd : decide (0 < (k : Int)) = true := by simp [hm0]
      go_wp2_with fail
      refine (drawAny b n c q _ hn hcur).mono ?_
      rintro e w2 ⟨v, a, o, hva, rfl, g2, h2⟩
      replace hg := gr_trans hg g2
      replace hown := row_kept hown g2 hq
      have hsz2 := g2.size
      have hRn := hR.snoc (r := (v, a, o)) hva
      clear g2 hcur hva
      go_wp2_with (at_builtin; refine wpList_append_lies _ rfl _ _ _ rfl w.heap.size 42 i0 _ 3 24 Tryz.underlying24 hi hz0 hz1 hz2 rfl (by omega) (.slice (some ⟨g, 0, none⟩) l.length cap) l.length _ rfl (hown.alloc _) ⟨w2.heap.size, 0, none⟩ 1 1 [.int .i64 v, .int .i64 a, .bool o] rfl rfl (World.news_of_block (cs := #[.int .i64 v, .int .i64 a, .bool o]) (t := 42) (fr := (0, 0)) (heap_alloc_new w2 _)) (by simp [Value.oneCell']) (by omega) (by unfold maxLen; omega) (by omega) (by simp; omega) (w2.heap.size + 1) (by simp) ?_; intro gg cap1 w3 hown3 hgrow hat hlt3)
      have hgw : w2.grownBy w3 (some g) := gr_trans (World.grownBy_alloc _ _ _) hgrow
      have hg03 := gr_past hg hgw hge
      have hc3 : Cur b n c w3 q := h2.kept hgw (fun r e => by injection e with e; omega)
      clear hgrow hgw hown h2
      go_wp2_with fail
      go_roundw
      case rel => exact ⟨k - 1, gg, cap1, l ++ [(v, a, o)], by omega, by congr 1; omega, by simp, by have := HLK.out; simp; omega, hRn, by
        rcases hat with hat | hat
        · simp [Value.ownBlock] at hat; omega
        · omega, by rw [rowR_snoc]; simpa using hown3, hg03, hc3⟩
      case measure => simp [intOf]; omega
    · have hd : decide (0 < (k : Int)) = false := by simp; omega
      go_wp2_with fail
      go_ret
      exact ⟨g, cap, l, rfl, by have := HLK.out; omega, hR, hge, hg, hcur, hown⟩

end Go.Proofs.YtdikhdfpcipdbaaGreatDoor.rd

/- Chapter 3 on plain pairs: what one sign does to a bounce, and many. -/
namespace Go.Proofs.YtdikhdfpcipdbaaGreatDoor.bnc
open Go.Proofs.YtdikhdfpcipdbaaGreatDoor.nums
set_option linter.unusedVariables false

abbrev B := Int × Bool
def bv (b : B) : Value := .agg #[.int .i64 b.1, .bool b.2]
/-- One sign. -/
def feel (u d : Int) (b : B) (s : Bool) : B :=
  match s with
  | true => (min u (b.1 + 1), b.2 || decide (u ≤ min u (b.1 + 1)))
  | false => (min d (max 0 (b.1 - 1)), b.2 && decide (0 < min d (max 0 (b.1 - 1))))
/-- One after the other. -/
def felt (u d : Int) (b : B) (l : List Bool) : B := l.foldl (feel u d) b
def right (b : B) (u d : Int) : Bool := inb b.1 0 100 && (inb u 1 100 && inb d 1 100)
def Rng (u : Int) : Prop := 1 ≤ u ∧ u ≤ 100

theorem inb_iff {x l h : Int} : inb x l h = true ↔ l ≤ x ∧ x ≤ h := by unfold inb; simp
theorem inb_no {x l h : Int} (k : ¬ (l ≤ x ∧ x ≤ h)) : inb x l h = false := by unfold inb; simp; omega
theorem right_iff {b : B} {u d : Int} : right b u d = true ↔ (0 ≤ b.1 ∧ b.1 ≤ 100) ∧ Rng u ∧ Rng d := by unfold right Rng; simp [inb_iff]

theorem feel_rng {u d : Int} {b : B} (s : Bool) (hu : Rng u) (hd : Rng d) (h0 : 0 ≤ b.1) (h1 : b.1 ≤ 100) : 0 ≤ (feel u d b s).1 ∧ (feel u d b s).1 ≤ 100 := by
  obtain ⟨u0, u1⟩ := hu
  obtain ⟨d0, d1⟩ := hd
  cases s <;> simp only [feel] <;> omega
theorem felt_rng {u d : Int} (hu : Rng u) (hd : Rng d) : ∀ (l : List Bool) (b : B), 0 ≤ b.1 → b.1 ≤ 100 → 0 ≤ (felt u d b l).1 ∧ (felt u d b l).1 ≤ 100
  | [], b, h0, h1 => ⟨h0, h1⟩
  | s :: l, b, h0, h1 => by
    obtain ⟨k0, k1⟩ := feel_rng s hu hd h0 h1
    exact felt_rng hu hd l _ k0 k1
end Go.Proofs.YtdikhdfpcipdbaaGreatDoor.bnc

/- Chapter 3: the model's small functions. -/
namespace Go.Proofs.YtdikhdfpcipdbaaGreatDoor.bnc
open Go.ChangeShapes Go.WideShapes Go.ChangeAt Go.RowKit
open Go.Proofs.YtdikhdfpcipdbaaGreatDoor.nums Go.Proofs.YtdikhdfpcipdbaaGreatDoor.mem
open Go.Proofs.YtdikhdfpcipdbaaGreatDoor.tab (Ret quiet_w)
set_option linter.unusedVariables false

/-- It returns this bounce; of what was there nothing is another. -/
def RetB (b : B) (w : World) (e : Ending) (w' : World) : Prop := e = .returned (.agg #[.int .i64 b.1, .bool b.2]) ∧ w.grownBy w' none
theorem two {w : World} {g : Nat} {t : TypeId} {a b : Value} (h : Has w g t #[a, b]) : w.cell? ⟨g, 0, none⟩ = some a ∧ w.cell? ⟨g, 1, none⟩ = some b ∧ w.frozen? ⟨g, 0, none⟩ = false ∧ w.frozen? ⟨g, 1, none⟩ = false :=
  ⟨h.cell 0, h.cell 1, h.frozen 0, h.frozen 1⟩
theorem fresh1 (w : World) (o : Obj) (t : TypeId) (cs : Array Value) : Has ((w.alloc o).alloc (.cells cs t)) (w.heap.size + 1) t cs := by
  have := Has.fresh (w.alloc o) t cs
  simpa using this
theorem set2 {w : World} {g : Nat} {t : TypeId} {a b : Value} (h : Has w g t #[a, b]) (a' b' : Value) : Has ((w.setCell ⟨g, 0, none⟩ a').setCell ⟨g, 1, none⟩ b') g t #[a', b'] := (h.put 0 a' rfl).put 1 b' rfl
/-- One sign, or nothing where something is out of range. -/
def one (u d : Int) (b : B) (s : Bool) : B := if right b u d = true then feel u d b s else (0, false)
/-- Many signs, or nothing. -/
def many (u d : Int) (b : B) (l : List Bool) : B := if right b u d = true ∧ l.length ≤ 200 then felt u d b l else (0, false)
/-- The signs l lie in block g, from its start on. -/
def Bs (w : World) (g : Nat) (l : List Bool) : Prop := g < w.heap.size ∧ ∀ k, k < l.length → w.cell? ⟨g, k, none⟩ = some (.bool (l.getD k false))
theorem Bs.grown {w w' : World} {g : Nat} {l : List Bool} {row : Option Nat} (h : Bs w g l) (hb : w.grownBy w' row) (hn : some g ≠ row) : Bs w' g l :=
  ⟨Nat.lt_of_lt_of_le h.1 hb.size, fun k hk => (World.cell?_of_block (hb.block g h.1 hn)).trans (h.2 k hk)⟩
theorem Bs.kept {w w' : World} {g : Nat} {l : List Bool} (h : Bs w g l) (hb : w.grownBy w' none) : Bs w' g l := h.grown hb (by simp)

theorem specBounceOk (N : Int) (on : Bool) (w : World) : Calls Tryz.prog 158 #[.agg #[.int .i64 N, .bool on]] w (Ret (.bool (inb N 0 100)) w) := by
  go_enter Tryz.func158, Tryz.ntmps158
  go_wp2_with fail
  refine (fix.specIn _ _ _ _).mono ?_
  rintro e w' ⟨rfl, rfl⟩
  go_wp2_with fail
  go_ret
  exact ⟨rfl, World.grownBy_alloc _ _ _⟩

set_option maxHeartbeats 1000000 in
theorem specFeel (N : Int) (on s : Bool) (u d : Int) (w : World) (h0 : 0 ≤ N) (h1 : N ≤ 100) : Calls Tryz.prog 173 #[.agg #[.int .i64 N, .bool on], .bool s, .int .i64 u, .int .i64 d] w (RetB (feel u d (N, on) s) w) := by
  cases s
  · go_enter Tryz.func173, Tryz.ntmps173
    go_wp2_with fail
    refine (fix.specMax _ _ _).mono ?_
    rintro e w' ⟨rfl, rfl⟩
    go_wp2_with fail
    refine (fix.specMin _ _ _).mono ?_
    rintro e w' ⟨rfl, rfl⟩
    cases on
    all_goals go_wp2_with fail
    all_goals exact bodyPost_ret (by simp [results, Tryz.results173, go_sem]; rfl) rfl ⟨by simp [feel], gr_alloc (World.grownBy_alloc _ _ _) _⟩
  · go_enter Tryz.func173, Tryz.ntmps173
    go_wp2_with fail
    refine (fix.specMin _ _ _).mono ?_
    rintro e w' ⟨rfl, rfl⟩
    cases on
    all_goals go_wp2_with fail
    all_goals exact bodyPost_ret (by simp [results, Tryz.results173, go_sem]; rfl) rfl ⟨by simp [feel], gr_alloc (World.grownBy_alloc _ _ _) _⟩

end Go.Proofs.YtdikhdfpcipdbaaGreatDoor.bnc

/- Chapter 3: the program's functions answer as one plain function does. -/
namespace Go.Proofs.YtdikhdfpcipdbaaGreatDoor.bnc
open Go.ChangeShapes Go.WideShapes Go.ChangeAt Go.RowKit
open Go.Proofs.YtdikhdfpcipdbaaGreatDoor.nums Go.Proofs.YtdikhdfpcipdbaaGreatDoor.mem
open Go.Proofs.YtdikhdfpcipdbaaGreatDoor.tab (Ret quiet_w)
set_option linter.unusedVariables false

end Go.Proofs.YtdikhdfpcipdbaaGreatDoor.bnc

