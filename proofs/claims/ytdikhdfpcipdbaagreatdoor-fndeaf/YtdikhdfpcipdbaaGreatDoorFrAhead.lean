/- frameAhead: kindOf, labels and gotos, numbers gathered in a row of its own. -/
import Derived.Test.YtdikhdfpcipdbaaGreatDoorFrNum
import Derived.StillTailTactics
import Derived.Lib.IndexLaws
namespace Go.Proofs.YtdikhdfpcipdbaaGreatDoor.frm
open Go.ChangeShapes Go.WideShapes Go.ChangeAt Go.RowKit
open Go.Proofs.YtdikhdfpcipdbaaGreatDoor.nums Go.Proofs.YtdikhdfpcipdbaaGreatDoor.mem Go.Proofs.YtdikhdfpcipdbaaGreatDoor.txt Go.Proofs.YtdikhdfpcipdbaaGreatDoor.fix
open Go.Proofs.YtdikhdfpcipdbaaGreatDoor.tab (Ret quiet_w wpList_make_has)
set_option linter.unusedVariables false

/-- The kind of a letter; 0 of another byte. -/
def kindL (c : UInt8) : Int := 1 + Lib.indexByte [83, 72, 70, 80] c
theorem idx_bd (c : UInt8) : -1 ≤ Lib.indexByte [83, 72, 70, 80] c ∧ Lib.indexByte [83, 72, 70, 80] c ≤ 3 := by
  simp only [Lib.indexByte]
  repeat' split
  all_goals simp_all
theorem kindL_letter {k : Int} (h1 : 1 ≤ k) (h2 : k ≤ 4) : kindL (letter k) = k := by
  have hk : k = 1 ∨ k = 2 ∨ k = 3 ∨ k = 4 := by omega
  rcases hk with rfl | rfl | rfl | rfl <;> decide +kernel

/-- No frame's text begins so. -/
def NotFrame (l : List UInt8) : Prop := ∀ x ns t, (∀ n ∈ ns, -1000000000 < n ∧ n < 1000000000) → ns ≠ [] → l ≠ x :: (blanks ns ++ 32 :: 42 :: t)
/-- Of a frame's text acc is read, r is left. -/
def Reads (l : List UInt8) (acc : List Int) (r : List UInt8) : Prop :=
  ∀ x ns t, (∀ n ∈ ns, -1000000000 < n ∧ n < 1000000000) → l = x :: (blanks ns ++ 32 :: 42 :: t) → ∃ ms, ns = acc ++ ms ∧ r = blanks ms ++ 32 :: 42 :: t
theorem Reads.start (x : UInt8) (l : List UInt8) : Reads (x :: l) [] l := fun y ns t _ e => ⟨ns, rfl, by simp only [List.cons.injEq] at e; exact e.2⟩
theorem Reads.noBlank {l : List UInt8} {acc : List Int} {r : List UInt8} (h : Reads l acc r) (hb : byt r 0 ≠ 32) : NotFrame l := by
  intro x ns t hs _ e
  obtain ⟨ms, _, hr⟩ := h x ns t hs e
  apply hb
  cases ms with
  | nil => rw [hr]; simp [byt, blanks]
  | cons m ms => rw [hr, blanks_cons]; simp [byt]
theorem itoa_star (m : Int) (t : List UInt8) : byt (Lib.itoa m ++ t) 0 ≠ 42 := by
  obtain ⟨c, r, hc, hd⟩ := itoa_head m
  rw [hc]
  simp only [byt, List.cons_append, List.getD_cons_zero]
  rintro rfl
  rcases hd with hd | hd <;> simp [isD] at hd
theorem Reads.star {l : List UInt8} {acc : List Int} {r : List UInt8} (h : Reads l acc r) (hb : byt (r.drop 1) 0 = 42) : ∀ x ns t, (∀ n ∈ ns, -1000000000 < n ∧ n < 1000000000) → l = x :: (blanks ns ++ 32 :: 42 :: t) → ns = acc := by
  intro x ns t hs e
  obtain ⟨ms, hn, hr⟩ := h x ns t hs e
  cases ms with
  | nil => simpa using hn
  | cons m ms =>
    rw [hr, blanks_cons] at hb
    simp only [List.cons_append, List.drop_succ_cons, List.drop_zero, List.append_assoc] at hb
    exact absurd hb (itoa_star m _)
theorem Reads.tail {l : List UInt8} {acc : List Int} {r : List UInt8} (h : Reads l acc r) (hb : byt (r.drop 1) 0 ≠ 42) {x : UInt8} {ns : List Int} {t : List UInt8} (hs : ∀ n ∈ ns, -1000000000 < n ∧ n < 1000000000) (e : l = x :: (blanks ns ++ 32 :: 42 :: t)) :
    ∃ m ms, ns = acc ++ m :: ms ∧ numF (r.drop 1) = some (m, blanks ms ++ 32 :: 42 :: t) := by
  obtain ⟨ms, hn, hr⟩ := h x ns t hs e
  cases ms with
  | nil => rw [hr] at hb; simp [blanks, byt] at hb
  | cons m ms =>
    have hm := hs m (by rw [hn]; simp)
    refine ⟨m, ms, hn, ?_⟩
    rw [hr, blanks_cons]
    simp only [List.cons_append, List.drop_succ_cons, List.drop_zero, List.append_assoc]
    exact numF_itoa m _ (blanks_stop ms t) hm.1 hm.2
theorem Reads.bad {l : List UInt8} {acc : List Int} {r : List UInt8} (h : Reads l acc r) (hb : byt (r.drop 1) 0 ≠ 42) (hn : numF (r.drop 1) = none) : NotFrame l := by
  intro x ns t hs _ e
  obtain ⟨m, ms, _, h2⟩ := h.tail hb hs e
  rw [hn] at h2; cases h2
theorem Reads.next {l : List UInt8} {acc : List Int} {r : List UInt8} (h : Reads l acc r) (hb : byt (r.drop 1) 0 ≠ 42) {n : Int} {r' : List UInt8} (hn : numF (r.drop 1) = some (n, r')) : Reads l (acc ++ [n]) r' := by
  intro x ns t hs e
  obtain ⟨m, ms, h1, h2⟩ := h.tail hb hs e
  rw [hn] at h2
  simp only [Option.some.injEq, Prod.mk.injEq] at h2
  obtain ⟨rfl, rfl⟩ := h2
  exact ⟨ms, by simpa using h1, rfl⟩

/-- The world in the midst of frameAhead: the result's cells are new and empty. -/
def Mid (w w' : World) : Prop := w.grownBy w' none ∧ Has w' w.heap.size 50 #[.int .i64 0, .int .i64 0, .slice none 0 0]
theorem Mid.start (w : World) : Mid w (w.alloc (Obj.cells #[.int .i64 0, .int .i64 0, .slice none 0 0] 50)) := ⟨World.grownBy_alloc _ _ _, Has.fresh _ _ _⟩
theorem Mid.grown {w w' w'' : World} (h : Mid w w') (hg : w'.grownBy w'' none) : Mid w w'' := ⟨gr_trans h.1 hg, h.2.grown hg (by simp)⟩
theorem Mid.own {w w' w'' : World} {e : TypeId} {size n : Nat} {v : Value} {xs : List Value} (h : Mid w w') (ho : w'.ownsRow (w.heap.size + 1) e size v n xs) (hg : w'.grownBy w'' v.ownBlock) : Mid w w'' := by
  cases hb : v.ownBlock with
  | none => rw [hb] at hg; exact h.grown hg
  | some q =>
    have hq := (ho.lt q hb).1
    rw [hb] at hg
    exact ⟨gr_past h.1 hg (by omega), h.2.grown hg (fun e => by injection e with e; omega)⟩
theorem own_ne_none (v : Value) : v.ownBlock = none ∨ v.ownBlock ≠ none := Decidable.em _
theorem hown1_base {w w' : World} (h : Mid w w') : w.heap.size + 1 ≤ w'.heap.size := h.2.lt

/-- What holds at each label: 0 at no frame, 1 at a blank, 2 at the star. -/
def AheadJ (l : List UInt8) (w : World) : Nat → Act → World → Prop
  | 0, a, w' => Mid w w' ∧ ∃ (u4 u5 u6 u7 u8 u9 u10 u11 u12 u13 u14 u15 u16 u17 u18 u19 u20 u21 u22 u23 u24 u25 u26 u27 u28 u29 u30 u31 u32 u33 u34 u35 u36 u37 u38 u39 u40 u41 u42 u43 u44 : Value), a = { tmps := #[str l, undef, .pointer (some ⟨w.heap.size, 0, none⟩), .bool false, u4, u5, u6, u7, u8, u9, u10, u11, u12, u13, u14, u15, u16, u17, u18, u19, u20, u21, u22, u23, u24, u25, u26, u27, u28, u29, u30, u31, u32, u33, u34, u35, u36, u37, u38, u39, u40, u41, u42, u43, u44], defers := [] } ∧ Hid (NotFrame l)
  | 1, a, w' => Mid w w' ∧ ∃ (ao : Option Addr) (cap : Nat) (acc : List Int) (r : List UInt8) (u5 u7 u8 u9 u10 u11 u12 u13 u14 u15 u16 u17 u18 u19 u20 u21 u22 u23 u24 u25 u26 u27 u28 u29 u30 u31 u32 u33 u34 u35 u36 u37 u38 u39 u40 u41 u42 u43 u44 : Value), a = { tmps := #[str l, undef, .pointer (some ⟨w.heap.size, 0, none⟩), .bool false, .slice ao acc.length cap, u5, str r, u7, u8, u9, u10, u11, u12, u13, u14, u15, u16, u17, u18, u19, u20, u21, u22, u23, u24, u25, u26, u27, u28, u29, u30, u31, u32, u33, u34, u35, u36, u37, u38, u39, u40, u41, u42, u43, u44], defers := [] } ∧ w'.ownsRow (w.heap.size + 1) 2 1 (.slice ao acc.length cap) acc.length (vals acc) ∧ Hid (Reads l acc r) ∧ r.length + acc.length ≤ l.length ∧ l ≠ []
  | 2, a, w' => Mid w w' ∧ ∃ (ao : Option Addr) (cap : Nat) (acc : List Int) (u5 u6 u7 u8 u9 u10 u11 u12 u13 u14 u15 u16 u17 u18 u19 u20 u21 u22 u23 u24 u25 u26 u27 u28 u29 u30 u31 u32 u33 u34 u35 u36 u37 u38 u39 u40 u41 u42 u43 u44 : Value), a = { tmps := #[str l, undef, .pointer (some ⟨w.heap.size, 0, none⟩), .bool false, .slice ao acc.length cap, u5, u6, u7, u8, u9, u10, u11, u12, u13, u14, u15, u16, u17, u18, u19, u20, u21, u22, u23, u24, u25, u26, u27, u28, u29, u30, u31, u32, u33, u34, u35, u36, u37, u38, u39, u40, u41, u42, u43, u44], defers := [] } ∧ w'.ownsRow (w.heap.size + 1) 2 1 (.slice ao acc.length cap) acc.length (vals acc) ∧ Hid (∀ x ns t, (∀ n ∈ ns, -1000000000 < n ∧ n < 1000000000) → l = x :: (blanks ns ++ 32 :: 42 :: t) → ns = acc) ∧ acc.length ≤ l.length ∧ l ≠ []
  | _, _, _ => False

/-- The numbers vs lie in new memory that may be written. -/
def Own (base : Nat) (w : World) (a : Option Addr) (vs : List Int) : Prop := ∃ (g o : Nat) (cs : Array Value), (vs ≠ [] → a = some ⟨g, o, none⟩) ∧ base ≤ g ∧ Has w g 2 cs ∧ ∀ j, j < vs.length → cs[o + j]? = some (.int .i64 (nth vs j))
theorem Own.ints {base : Nat} {w : World} {a : Option Addr} {vs : List Int} (h : Own base w a vs) : Ints w a vs := by
  obtain ⟨g, o, cs, ha, _, hc, hj⟩ := h
  intro k hk
  refine ⟨_, ha (fun e => by rw [e] at hk; simp at hk), hc.lt, ?_⟩
  rw [addo, hc.cell]; exact hj k hk
/-- What frameAhead answers: no frame's text; or what the frame must be, if it is one's. -/
def Ahead (l : List UInt8) (w : World) (e : Ending) (w' : World) : Prop := w.grownBy w' none ∧
  ((e = .returned (.tuple #[fr 0 0 none 0 0, .bool false]) ∧ NotFrame l) ∨
   ∃ (k sq : Int) (a : Option Addr) (cap : Nat) (vs : List Int), e = .returned (.tuple #[fr k sq a vs.length cap, .bool true]) ∧ l ≠ [] ∧ vs.length ≤ l.length ∧ Own w.heap.size w' a vs ∧
     ∀ x ns t, (∀ n ∈ ns, -1000000000 < n ∧ n < 1000000000) → l = x :: (blanks ns ++ 32 :: 42 :: t) → ns = sq :: vs ∧ k = kindL x)

end Go.Proofs.YtdikhdfpcipdbaaGreatDoor.frm
