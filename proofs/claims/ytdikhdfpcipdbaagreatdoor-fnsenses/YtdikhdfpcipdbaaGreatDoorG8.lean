/- frameAhead: kindOf, labels and gotos, numbers gathered in a row of its own. ReadFrame of the program. The model's l1Split, l1At, l1Read. The model's l1Read. -/
import Derived.Test.YtdikhdfpcipdbaaGreatDoorG7
import Derived.StillTailTactics
import Derived.Lib.IndexLaws
/- frameAhead: kindOf, labels and gotos, numbers gathered in a row of its own. -/
namespace Go.Proofs.YtdikhdfpcipdbaaGreatDoor.frm
open Go.ChangeShapes Go.WideShapes Go.ChangeAt Go.RowKit
open Go.Proofs.YtdikhdfpcipdbaaGreatDoor.nums Go.Proofs.YtdikhdfpcipdbaaGreatDoor.mem Go.Proofs.YtdikhdfpcipdbaaGreatDoor.txt Go.Proofs.YtdikhdfpcipdbaaGreatDoor.fix
open Go.Proofs.YtdikhdfpcipdbaaGreatDoor.tab (Ret quiet_w wpList_make_has)
set_option linter.unusedVariables false

/-- Of a frame's text acc is read, r is left. -/
def Reads (l : List UInt8) (acc : List Int) (r : List UInt8) : Prop :=
  ∀ x ns t, (∀ n ∈ ns, -1000000000 < n ∧ n < 1000000000) → l = x :: (blanks ns ++ 32 :: 42 :: t) → ∃ ms, ns = acc ++ ms ∧ r = blanks ms ++ 32 :: 42 :: t
theorem Reads.start (x : UInt8) (l : List UInt8) : Reads (x :: l) [] l := fun y ns t _ e => ⟨ns, rfl, by simp only [List.cons.injEq] at e; exact e.2⟩
theorem itoa_star (m : Int) (t : List UInt8) : byt (Lib.itoa m ++ t) 0 ≠ 42 := by
  obtain ⟨c, r, hc, hd⟩ := itoa_head m
  rw [hc]
  simp only [byt, List.cons_append, List.getD_cons_zero]
  rintro rfl
  rcases hd with hd | hd <;> simp [isD] at hd
theorem Reads.star {l : List UInt8} {acc : List Int} {r : List UInt8} (h : Reads l acc r) (hb : byt (r.drop 1) 0 = 42) : ∀ x ns t, (∀ n ∈ ns, -1000000000 < n ∧ n < 1000000000) → l = x :: (blanks ns ++ 32 :: 42 :: t) → ns = acc := by
  intro x ns t hs e
  obtain ⟨ms, hn, hr⟩ := h x ns t hs e
  cases ms with
  | nil => simpa using hn
  | cons m ms =>
    rw [hr, blanks_cons] at hb
    simp only [List.cons_append, List.drop_succ_cons, List.drop_zero, List.append_assoc] at hb
    exact absurd hb (itoa_star m _)
theorem Reads.tail {l : List UInt8} {acc : List Int} {r : List UInt8} (h : Reads l acc r) (hb : byt (r.drop 1) 0 ≠ 42) {x : UInt8} {ns : List Int} {t : List UInt8} (hs : ∀ n ∈ ns, -1000000000 < n ∧ n < 1000000000) (e : l = x :: (blanks ns ++ 32 :: 42 :: t)) :
    ∃ m ms, ns = acc ++ m :: ms ∧ numF (r.drop 1) = some (m, blanks ms ++ 32 :: 42 :: t) := by
  obtain ⟨ms, hn, hr⟩ := h x ns t hs e
  cases ms with
  | nil => rw [hr] at hb; simp [blanks, byt] at hb
  | cons m ms =>
    have hm := hs m (by rw [hn]; simp)
    refine ⟨m, ms, hn, ?_⟩
    rw [hr, blanks_cons]
    simp only [List.cons_append, List.drop_succ_cons, List.drop_zero, List.append_assoc]
    exact numF_itoa m _ (blanks_stop ms t) hm.1 hm.2
theorem Reads.next {l : List UInt8} {acc : List Int} {r : List UInt8} (h : Reads l acc r) (hb : byt (r.drop 1) 0 ≠ 42) {n : Int} {r' : List UInt8} (hn : numF (r.drop 1) = some (n, r')) : Reads l (acc ++ [n]) r' := by
  intro x ns t hs e
  obtain ⟨m, ms, h1, h2⟩ := h.tail hb hs e
  rw [hn] at h2
  simp only [Option.some.injEq, Prod.mk.injEq] at h2
  obtain ⟨rfl, rfl⟩ := h2
  exact ⟨ms, by simpa using h1, rfl⟩

/-- The world in the midst of frameAhead: the result's cells are new and empty. -/
def Mid (w w' : World) : Prop := w.grownBy w' none ∧ Has w' w.heap.size 50 #[.int .i64 0, .int .i64 0, .slice none 0 0]
theorem Mid.start (w : World) : Mid w (w.alloc (Obj.cells #[.int .i64 0, .int .i64 0, .slice none 0 0] 50)) := ⟨World.grownBy_alloc _ _ _, Has.fresh _ _ _⟩
theorem Mid.grown {w w' w'' : World} (h : Mid w w') (hg : w'.grownBy w'' none) : Mid w w'' := ⟨gr_trans h.1 hg, h.2.grown hg (by simp)⟩
theorem Mid.own {w w' w'' : World} {e : TypeId} {size n : Nat} {v : Value} {xs : List Value} (h : Mid w w') (ho : w'.ownsRow (w.heap.size + 1) e size v n xs) (hg : w'.grownBy w'' v.ownBlock) : Mid w w'' := by
  cases hb : v.ownBlock with
  | none => rw [hb] at hg; exact h.grown hg
  | some q =>
    have hq := (ho.lt q hb).1
    rw [hb] at hg
    exact ⟨gr_past h.1 hg (by omega), h.2.grown hg (fun e => by injection e with e; omega)⟩
theorem own_ne_none (v : Value) : v.ownBlock = none ∨ v.ownBlock ≠ none := Decidable.em _
/-- The numbers vs lie in new memory that may be written. -/
def Own (base : Nat) (w : World) (a : Option Addr) (vs : List Int) : Prop := ∃ (g o : Nat) (cs : Array Value), (vs ≠ [] → a = some ⟨g, o, none⟩) ∧ base ≤ g ∧ Has w g 2 cs ∧ ∀ j, j < vs.length → cs[o + j]? = some (.int .i64 (nth vs j))
theorem Own.ints {base : Nat} {w : World} {a : Option Addr} {vs : List Int} (h : Own base w a vs) : Ints w a vs := by
  obtain ⟨g, o, cs, ha, _, hc, hj⟩ := h
  intro k hk
  refine ⟨_, ha (fun e => by rw [e] at hk; simp at hk), hc.lt, ?_⟩
  rw [addo, hc.cell]; exact hj k hk
end Go.Proofs.YtdikhdfpcipdbaaGreatDoor.frm

/- ReadFrame of the program. -/
namespace Go.Proofs.YtdikhdfpcipdbaaGreatDoor.frm
open Go.ChangeShapes Go.WideShapes Go.ChangeAt Go.RowKit
open Go.Proofs.YtdikhdfpcipdbaaGreatDoor.nums Go.Proofs.YtdikhdfpcipdbaaGreatDoor.mem Go.Proofs.YtdikhdfpcipdbaaGreatDoor.txt Go.Proofs.YtdikhdfpcipdbaaGreatDoor.fix
open Go.Proofs.YtdikhdfpcipdbaaGreatDoor.tab (Ret quiet_w wpList_make_has)
set_option linter.unusedVariables false

theorem Own.grown {base : Nat} {w w' : World} {a : Option Addr} {vs : List Int} {row : Option Nat} (h : Own base w a vs) (hg : w.grownBy w' row) (hn : ∀ g, base ≤ g → some g ≠ row) : Own base w' a vs := by
  obtain ⟨g, o, cs, ha, hb, hc, hj⟩ := h
  exact ⟨g, o, cs, ha, hb, hc.grown hg (hn g hb), hj⟩
theorem Own.kept {base : Nat} {w w' : World} {a : Option Addr} {vs : List Int} (h : Own base w a vs) (hg : w.grownBy w' none) : Own base w' a vs := h.grown hg (fun _ _ => by simp)
theorem Own.up {base base' : Nat} {w : World} {a : Option Addr} {vs : List Int} (h : Own base w a vs) (hb : base' ≤ base) : Own base' w a vs := by
  obtain ⟨g, o, cs, ha, hb', hc, hj⟩ := h
  exact ⟨g, o, cs, ha, by omega, hc, hj⟩

theorem Own.set {n : Nat} {w : World} {a : Option Addr} {vs : List Int} (h : Own (n + 1) w a vs) (i : Nat) (u : Value) : Own (n + 1) (w.setCell ⟨n, i, none⟩ u) a vs :=
  h.grown (gr_set (gr_refl w (some n)) i u) (fun g hg e => by injection e with e; omega)

/-- What ReadFrame answers, where r is what is read. -/
def ReadOut (r : Option (Int × Int × List Int)) (w : World) (e : Ending) (w' : World) : Prop := w.grownBy w' none ∧
  match r with
  | some (k, sq, vs) => ∃ a cap, e = .returned (.tuple #[fr k sq a vs.length cap, .bool true]) ∧ Own w.heap.size w' a vs
  | none => e = .returned (.tuple #[fr 0 0 none 0 0, .bool false])

theorem ok_of_show {k sq : Int} {vs : List Int} (h : showF k sq vs ≠ []) : okF k sq vs = true := by
  cases ho : okF k sq vs
  · exact absurd (showF_not ho) h
  · rfl
theorem read_some {l : List UInt8} {k sq : Int} {vs : List Int} (hne : l ≠ []) (h : showF k sq vs = l) : IsRead l (some (k, sq, vs)) := ⟨ok_of_show (by rw [h]; exact hne), h⟩
end Go.Proofs.YtdikhdfpcipdbaaGreatDoor.frm

/- The model's l1Split, l1At, l1Read. -/
namespace Go.Proofs.YtdikhdfpcipdbaaGreatDoor.frm
open Go.ChangeShapes Go.WideShapes Go.ChangeAt Go.RowKit
open Go.Proofs.YtdikhdfpcipdbaaGreatDoor.nums Go.Proofs.YtdikhdfpcipdbaaGreatDoor.mem Go.Proofs.YtdikhdfpcipdbaaGreatDoor.txt Go.Proofs.YtdikhdfpcipdbaaGreatDoor.fix
open Go.Proofs.YtdikhdfpcipdbaaGreatDoor.tab (Ret quiet_w wpList_make_has)
set_option linter.unusedVariables false

/-- The pieces between blanks. -/
def splitB : List UInt8 → List (List UInt8)
  | [] => [[]]
  | c :: l => if c = 32 then [] :: splitB l else match splitB l with
    | p :: ps => (c :: p) :: ps
    | [] => [[c]]
theorem splitB_one (a : List UInt8) (h : ∀ c ∈ a, c ≠ 32) : splitB a = [a] := by
  induction a with
  | nil => rfl
  | cons c a ih =>
    rw [splitB, if_neg (h c (by simp)), ih (fun x hx => h x (by simp [hx]))]
theorem splitB_app (a b : List UInt8) (h : ∀ c ∈ a, c ≠ 32) : splitB (a ++ 32 :: b) = a :: splitB b := by
  induction a with
  | nil => simp [splitB]
  | cons c a ih =>
    rw [List.cons_append, splitB, if_neg (h c (by simp)), ih (fun x hx => h x (by simp [hx]))]
theorem mem_cut (l : List UInt8) (f i : Nat) (hi : i ≤ l.length) (h : ∀ j, f ≤ j → j < i → byt l j ≠ 32) : ∀ c ∈ (l.drop f).take (i - f), c ≠ 32 := by
  intro c hc
  obtain ⟨j, hj, rfl⟩ := List.getElem_of_mem hc
  have hj2 : j < i - f := by simp at hj; omega
  have := h (f + j) (by omega) (by omega)
  simp only [List.getElem_take, List.getElem_drop]
  intro e
  apply this
  rw [byt, List.getD, List.getElem?_eq_getElem (by simp at hj; omega)]
  exact e
theorem split_at (l : List UInt8) (f i : Nat) (hf : f ≤ i) (hi : i < l.length) (h : ∀ j, f ≤ j → j < i → byt l j ≠ 32) (hb : byt l i = 32) :
    splitB (l.drop f) = (l.drop f).take (i - f) :: splitB (l.drop (i + 1)) := by
  have e : l.drop f = (l.drop f).take (i - f) ++ 32 :: l.drop (i + 1) := by
    have h1 : (l.drop f).drop (i - f) = l.drop i := by rw [List.drop_drop]; congr 1; omega
    have h2 : l.drop i = 32 :: l.drop (i + 1) := by
      rw [List.drop_eq_getElem_cons hi]
      congr 1
      rw [byt, List.getD, List.getElem?_eq_getElem hi] at hb
      exact hb
    rw [← h2, ← h1]
    exact (List.take_append_drop _ _).symm
  have := splitB_app _ (l.drop (i + 1)) (mem_cut l f i (by omega) h)
  rw [← e] at this
  exact this
theorem split_end (l : List UInt8) (f : Nat) (hf : f ≤ l.length) (h : ∀ j, f ≤ j → j < l.length → byt l j ≠ 32) : splitB (l.drop f) = [(l.drop f).take (l.length - f)] := by
  have e : (l.drop f).take (l.length - f) = l.drop f := List.take_of_length_le (by simp)
  have := splitB_one _ (mem_cut l f l.length (Nat.le_refl _) h)
  rw [e] at this ⊢
  exact this

abbrev strs (p : List (List UInt8)) : List Value := p.map fun x => str x
/-- The texts p lie in a row of their own. -/
abbrev SRow (w : World) (base g cap : Nat) (p : List (List UInt8)) : Prop := w.ownsRow base 9 1 (.slice (some ⟨g, 0, none⟩) p.length cap) p.length (strs p)
def Pieces (l : List UInt8) (w : World) (e : Ending) (w' : World) : Prop := ∃ g cap, e = .returned (.slice (some ⟨g, 0, none⟩) (splitB l).length cap) ∧ w.grownBy w' none ∧ SRow w' w.heap.size g cap (splitB l)
/-- Up to i the text is cut, the last piece begins at f. -/
structure Cut (l : List UInt8) (f i : Nat) (p : List (List UInt8)) : Prop where
  few : p.length ≤ i
  mid : i ≤ l.length → f ≤ i ∧ splitB l = p ++ splitB (l.drop f) ∧ ∀ j, f ≤ j → j < i → byt l j ≠ 32
  fin : l.length < i → splitB l = p ∧ i = l.length + 1
theorem Cut.start (l : List UInt8) : Cut l 0 0 [] := ⟨by simp, fun _ => ⟨Nat.le_refl _, rfl, fun j _ h => by omega⟩, fun h => by omega⟩
theorem Cut.go {l : List UInt8} {f i : Nat} {p : List (List UInt8)} (h : Cut l f i p) (hi : i < l.length) (hb : byt l i ≠ 32) : Cut l f (i + 1) p := by
  obtain ⟨h1, h2, h3⟩ := h.mid (by omega)
  refine ⟨by have := h.few; omega, fun _ => ⟨by omega, h2, fun j hj hj' => ?_⟩, fun hh => by omega⟩
  by_cases e : j = i
  · subst e; exact hb
  · exact h3 j hj (by omega)
theorem Cut.cut {l : List UInt8} {f i : Nat} {p : List (List UInt8)} (h : Cut l f i p) (hi : i < l.length) (hb : byt l i = 32) : Cut l (i + 1) (i + 1) (p ++ [(l.drop f).take (i - f)]) := by
  obtain ⟨h1, h2, h3⟩ := h.mid (by omega)
  refine ⟨by have := h.few; simp; omega, fun _ => ⟨Nat.le_refl _, ?_, fun j hj hj' => by omega⟩, fun hh => by omega⟩
  rw [h2, split_at l f i h1 hi h3 hb]; simp
theorem Cut.last {l : List UInt8} {f : Nat} {p : List (List UInt8)} (h : Cut l f l.length p) : Cut l (l.length + 1) (l.length + 1) (p ++ [(l.drop f).take (l.length - f)]) := by
  obtain ⟨h1, h2, h3⟩ := h.mid (Nat.le_refl _)
  refine ⟨by have := h.few; simp; omega, fun hh => by omega, fun _ => ⟨?_, rfl⟩⟩
  rw [h2, split_end l f h1 h3]

set_option maxRecDepth 100000 in
set_option maxHeartbeats 2000000 in
theorem specSplit (l : List UInt8) (w : World) (hl : l.length ≤ 1048576) : Calls Tryz.prog 184 #[str l, .int .u8 32] w (Pieces l w) := by
  obtain ⟨i0, hi, hz0, hz1, hz2⟩ := info_parts infoStr
  have hat := at_byt l
  have o0 := World.ownsRow_made (base := w.heap.size) (e := 9) (size := 1) w #[] 0 (Nat.le_refl _) (Nat.zero_le _) rfl
  go_enter Tryz.func184, Tryz.ntmps184
  go_wp2_with fail
  go_loopw [5, 6, 7] (fun t fr i wr => ∃ (g cap f k : Nat) (p : List (List UInt8)), t = .slice (some ⟨g, 0, none⟩) p.length cap ∧ fr = .int .i64 f ∧ i = .int .i64 k ∧ SRow wr w.heap.size g cap p ∧ k ≤ l.length + 1 ∧ Cut l f k p ∧ w.grownBy wr none) (fun t fr i _ => l.length + 1 - (intOf i).toNat)
  case atStart => exact ⟨w.heap.size, 0, 0, 0, [], rfl, rfl, rfl, o0, by omega, Cut.start l, World.grownBy_alloc _ _ _⟩
  case round =>
    clear o0
    obtain ⟨g, cap, f, k, p, rfl, rfl, rfl, hown, hk, hC, hg⟩ := hrel
    have hge := (hown.lt g rfl).1
    have hbase := hg.size
    by_cases hlt : k < l.length
    · obtain ⟨m1, m2, m3⟩ := hC.mid (by omega)
      clear m2 m3
      have hkl : ((k : Int) == l.length) = false := by simp; omega
      by_cases hb : byt l k = 32
      · have hx : ((byt l k).toNat : Int) = 32 := by rw [hb]; rfl
        have hC2 := hC.cut hlt hb
        have hex := ByteArray.extract_mk l f k
        have hfew := hC.few
        generalize (l.drop f).take (k - f) = q at *
        go_wp2_with (at_builtin; go_must (refine wpList_append_lies _ rfl _ _ _ rfl w.heap.size 9 i0 _ 1 16 Tryz.underlying241 hi hz0 hz1 hz2 rfl (by omega) (.slice (some ⟨g, 0, none⟩) p.length cap) p.length (strs p) rfl (hown.alloc _) ⟨wr.heap.size, 0, none⟩ 1 1 [str q] rfl rfl (World.news_of_block (cs := #[str q]) (t := 9) (fr := (0, 0)) (heap_alloc_new wr _)) (by simp [Value.oneCell']) (by omega) (by unfold maxLen; omega) (by omega) (by simp; omega) (wr.heap.size + 1) (by simp) ?_); intro gg cap1 w2 hown2 hgrow hatt hlt2)
        have hgrow2 : (wr.alloc (Obj.cells #[.string ⟨q.toArray⟩] 9)).grownBy w2 (some g) := hgrow
        have hel : p.length + 1 = (p ++ [q]).length := by simp
        rw [hel] at hown2
        rw [show strs p ++ [str q] = strs (p ++ [q]) by simp [strs]] at hown2
        go_roundw
        case rel => exact ⟨gg, cap1, k + 1, k + 1, p ++ [q], by simp, by go_num, by go_num, hown2, by omega, hC2, gr_past (gr_alloc hg _) hgrow2 hge⟩
        case measure => simp [intOf]; omega
      · have hx : (((byt l k).toNat : Int) == 32) = false := by
          rw [beq_eq_false_iff_ne]
          intro e
          exact hb (UInt8.toNat.inj (by have : (32 : UInt8).toNat = 32 := rfl; omega))
        have hC2 := hC.go hlt hb
        go_wp2_with fail
        go_roundw
        case rel => exact ⟨g, cap, f, k + 1, p, rfl, rfl, by go_num, hown, by omega, hC2, hg⟩
        case measure => simp [intOf]; omega
    · by_cases hkl : k = l.length
      · have hC2 : Cut l (k + 1) (k + 1) (p ++ [(l.drop f).take (k - f)]) := by rw [hkl] at hC ⊢; exact hC.last
        obtain ⟨m1, m2, m3⟩ := hC.mid (by omega)
        clear m2 m3
        subst hkl
        have hex := ByteArray.extract_mk l f l.length
        have hfew := hC.few
        generalize (l.drop f).take (l.length - f) = q at *
        go_wp2_with (at_builtin; go_must (refine wpList_append_lies _ rfl _ _ _ rfl w.heap.size 9 i0 _ 1 16 Tryz.underlying241 hi hz0 hz1 hz2 rfl (by omega) (.slice (some ⟨g, 0, none⟩) p.length cap) p.length (strs p) rfl (hown.alloc _) ⟨wr.heap.size, 0, none⟩ 1 1 [str q] rfl rfl (World.news_of_block (cs := #[str q]) (t := 9) (fr := (0, 0)) (heap_alloc_new wr _)) (by simp [Value.oneCell']) (by omega) (by unfold maxLen; omega) (by omega) (by simp; omega) (wr.heap.size + 1) (by simp) ?_); intro gg cap1 w2 hown2 hgrow hatt hlt2)
        have hgrow2 : (wr.alloc (Obj.cells #[.string ⟨q.toArray⟩] 9)).grownBy w2 (some g) := hgrow
        have hel : p.length + 1 = (p ++ [q]).length := by simp
        rw [hel] at hown2
        rw [show strs p ++ [str q] = strs (p ++ [q]) by simp [strs]] at hown2
        go_roundw
        case rel => exact ⟨gg, cap1, l.length + 1, l.length + 1, p ++ [q], by simp, by go_num, by go_num, hown2, by omega, hC2, gr_past (gr_alloc hg _) hgrow2 hge⟩
        case measure => simp [intOf]
      · obtain ⟨hp, _⟩ := hC.fin (by omega)
        go_wp2_with fail
        go_ret
        exact ⟨g, cap, by rw [hp]; rfl, hg, by rw [hp]; exact hown⟩

/-- The kind that a word tells; 0 of another one. -/
def kindW (x : List UInt8) : Int := if x = [83] then 1 else if x = [72] then 2 else if x = [70] then 3 else if x = [80] then 4 else 0
theorem kindW_letter {k : Int} (h1 : 1 ≤ k) (h2 : k ≤ 4) : kindW [letter k] = k := by
  have hk : k = 1 ∨ k = 2 ∨ k = 3 ∨ k = 4 := by omega
  rcases hk with rfl | rfl | rfl | rfl <;> decide +kernel
theorem kindW_bd (x : List UInt8) : 0 ≤ kindW x ∧ kindW x ≤ 4 := by unfold kindW; repeat' split
                                                                    all_goals omega
def four (k : Nat) : List UInt8 := if k = 0 then [83] else if k = 1 then [72] else if k = 2 then [70] else [80]

set_option maxRecDepth 100000 in
set_option maxHeartbeats 2000000 in
theorem specAt (b : Nat) (x : List UInt8) (w : World) (hb : Has w b 9 #[.string ⟨#[83]⟩, .string ⟨#[72]⟩, .string ⟨#[70]⟩, .string ⟨#[80]⟩]) :
    Calls Tryz.prog 185 #[.slice (some ⟨b, 0, none⟩) 4 4, str x] w fun e w' => e = .returned (.int .i64 (kindW x - 1)) ∧ w = w' := by
  have hc : ∀ k, k < 4 → w.cell? ⟨b, k, none⟩ = some (str (four k)) := fun k hk => by
    rw [hb.cell k]
    have : k = 0 ∨ k = 1 ∨ k = 2 ∨ k = 3 := by omega
    rcases this with rfl | rfl | rfl | rfl <;> rfl
  go_enter Tryz.func185, Tryz.ntmps185
  go_wp2_with fail
  go_loopw [5] (fun i wr => w = wr ∧ ∃ k : Nat, k ≤ 4 ∧ i = .int .i64 k ∧ Hid (∀ j, j < k → x ≠ four j)) (fun i _ => 4 - (intOf i).toNat)
  case atStart => exact ⟨rfl, 0, by omega, rfl, Lib.hid (fun j hj => by omega)⟩
  case round =>
    obtain ⟨rfl, k, hk, rfl, hn⟩ := hrel
    by_cases hlt : k < 4
    · have cx := hc k hlt
      clear hc
      by_cases he : four k = x
      · have hx : kindW x - 1 = (k : Int) := by
          have : k = 0 ∨ k = 1 ∨ k = 2 ∨ k = 3 := by omega
          rcases this with rfl | rfl | rfl | rfl <;> (rw [← he]; decide +kernel)
        rw [he] at cx
        clear he
        go_wp2_with fail
        go_ret
        exact ⟨by rw [hx]; rfl, rfl⟩
      · have he2 : (four k == x) = false := by rw [beq_eq_false_iff_ne]; exact he
        have hn2 : Hid (∀ j, j < k + 1 → x ≠ four j) := Lib.hid (fun j hj => by
          by_cases e : j = k
          · subst e; exact fun h => he h.symm
          · exact hn.out j (by omega))
        clear he hn
        generalize four k = q at *
        go_wp2_with fail
        go_roundw
        case rel => exact ⟨trivial, k + 1, by omega, by go_num, hn2⟩
        case measure => simp [intOf]; omega
    · obtain rfl : k = 4 := by omega
      have hx : kindW x = 0 := by
        unfold kindW
        have h0 := hn.out 0 (by omega)
        have h1 := hn.out 1 (by omega)
        have h2 := hn.out 2 (by omega)
        have h3 := hn.out 3 (by omega)
        simp only [four] at h0 h1 h2 h3
        rw [if_neg (by simpa using h0), if_neg (by simpa using h1), if_neg (by simpa using h2), if_neg (by simpa using h3)]
      clear hc
      go_wp2_with fail
      go_ret
      exact ⟨by rw [hx]; rfl, rfl⟩
end Go.Proofs.YtdikhdfpcipdbaaGreatDoor.frm

/- The model's l1Read. -/
namespace Go.Proofs.YtdikhdfpcipdbaaGreatDoor.frm
open Go.ChangeShapes Go.WideShapes Go.ChangeAt Go.RowKit
open Go.Proofs.YtdikhdfpcipdbaaGreatDoor.nums Go.Proofs.YtdikhdfpcipdbaaGreatDoor.mem Go.Proofs.YtdikhdfpcipdbaaGreatDoor.txt Go.Proofs.YtdikhdfpcipdbaaGreatDoor.fix
open Go.Proofs.YtdikhdfpcipdbaaGreatDoor.tab (Ret quiet_w wpList_make_has)
set_option linter.unusedVariables false

def readA (m : List UInt8) : Option Nat := if m.length < 1 ∨ 9 < m.length ∨ m.all isD = false then none else some (val m)
/-- The number that a word tells. -/
def readI (l : List UInt8) : Option Int :=
  if byt l 0 = 45 then (match readA (l.drop 1) with | none => none | some v => if byt (l.drop 1) 0 = 48 then none else some (-(v : Int)))
  else (match readA l with | none => none | some v => if byt l 0 = 48 ∧ 1 < l.length then none else some (v : Int))
def readV : Option Int → Value
  | some n => .tuple #[.int .i64 n, .bool true]
  | none => .tuple #[.int .i64 0, .bool false]

theorem readA_dec (u : Nat) (h : u < 1000000000) : readA (Lib.decDigits u) = some u := by
  have h1 := dec_len 8 u (by simpa using h)
  have h2 : (Lib.decDigits u).length ≠ 0 := fun e => dec_ne u (List.length_eq_zero_iff.1 e)
  rw [readA, if_neg, dec_val]
  rintro (h | h | h)
  · omega
  · omega
  · rw [List.all_eq_false] at h
    obtain ⟨c, hc, hcd⟩ := h
    exact hcd (dec_isD u c hc)
theorem readI_itoa (n : Int) (h1 : -1000000000 < n) (h2 : n < 1000000000) : readI (Lib.itoa n) = some n := by
  unfold Lib.itoa
  split
  · have e : byt (45 :: Lib.decDigits n.natAbs) 0 = 45 := rfl
    have e2 : (45 :: Lib.decDigits n.natAbs).drop 1 = Lib.decDigits n.natAbs := rfl
    rw [readI, if_pos e, e2, readA_dec _ (by omega)]
    obtain ⟨c, r, hc, hd⟩ := dec_head n.natAbs
    have h48 : byt (Lib.decDigits n.natAbs) 0 ≠ 48 := fun h => by
      have := dec_zero n.natAbs (by rw [hc] at h ⊢; simpa [byt] using h)
      omega
    dsimp only
    rw [if_neg h48]
    congr 1; omega
  · obtain ⟨c, r, hc, hd⟩ := dec_head n.toNat
    have e : byt (Lib.decDigits n.toNat) 0 ≠ 45 := fun h => by
      rw [hc] at h
      have : c = 45 := by simpa [byt] using h
      rw [this] at hd; simp [isD] at hd
    rw [readI, if_neg e, readA_dec _ (by omega)]
    dsimp only
    rw [if_neg]
    · congr 1; omega
    · rintro ⟨h48, h1⟩
      have hz := dec_zero n.toNat (by rw [hc] at h48 ⊢; simpa [byt] using h48)
      rw [hz, dec_small (by omega)] at h1
      simp at h1

set_option maxRecDepth 100000 in
set_option maxHeartbeats 4000000 in
theorem specReadI (l : List UInt8) (w : World) (hl : l.length ≤ maxLen) : Calls Tryz.prog 186 #[str l] w fun e w' => e = .returned (readV (readI l)) ∧ w = w' := by
  have hm : l.length ≤ 9223372036854775807 := by unfold maxLen at hl; exact hl
  clear hl
  have hat := at_byt l
  by_cases h45 : byt l 0 = 45
  · have hB0 : ((byt l 0).toNat : Int) = 45 := by rw [h45]; rfl
    have hl0 : 0 < l.length := Nat.pos_of_ne_zero (fun e => by rw [byt_ge l 0 (by omega)] at h45; exact absurd h45 (by decide))
    have hz : (l == ([] : List UInt8)) = false := by rw [beq_eq_false_iff_ne]; intro e; rw [e] at hl0; simp at hl0
    have hRI : readI l = (match readA (l.drop 1) with | none => none | some v => if byt (l.drop 1) 0 = 48 then none else some (-(v : Int))) := by rw [readI, if_pos h45]
    by_cases hbad : (l.drop 1).length < 1 ∨ 9 < (l.drop 1).length
    · have hF := Lib.hid (show readI l = none by rw [hRI, readA, if_pos (by rcases hbad with h | h; exact Or.inl h; exact Or.inr (Or.inl h))])
      have hbd : l.length - 1 < 1 ∨ 9 < l.length - 1 := by simpa using hbad
      clear hRI hbad h45
      rcases hbd with h | h
      · have e1 : decide ((l.length : Int) - 1 < 1) = true := by simp; omega
        go_enter Tryz.func186, Tryz.ntmps186
        go_wp2_with fail
        exact bodyPost_ret (v := readV (readI l)) (by rw [hF.out]; simp [results, Tryz.results186, go_sem, readV]) rfl ⟨rfl, rfl⟩
      · have e1 : decide ((l.length : Int) - 1 < 1) = false := by simp; omega
        have e2 : decide (9 < (l.length : Int) - 1) = true := by simp; omega
        go_enter Tryz.func186, Tryz.ntmps186
        go_wp2_with fail
        exact bodyPost_ret (v := readV (readI l)) (by rw [hF.out]; simp [results, Tryz.results186, go_sem, readV]) rfl ⟨rfl, rfl⟩
    · have hgood : 1 ≤ l.length - 1 ∧ l.length - 1 ≤ 9 := by have := hbad; simp at this; omega
      have e1 : decide ((l.length : Int) - 1 < 1) = false := by simp; omega
      have e2 : decide (9 < (l.length : Int) - 1) = false := by simp; omega
      go_enter Tryz.func186, Tryz.ntmps186
      go_wp2_with fail
      go_loopw [6, 7] (fun n i wr => w = wr ∧ ∃ k : Nat, k ≤ l.length - 1 ∧ i = .int .i64 ((k : Int) + 1) ∧ n = .int .i64 (val ((l.drop 1).take k) : Int) ∧ Hid (∀ j, j < k → isD (byt (l.drop 1) j) = true)) (fun n i _ => l.length - (intOf i).toNat)
      case atStart => exact ⟨rfl, 0, Nat.zero_le _, rfl, rfl, Lib.hid (fun j hj => by omega)⟩
      case round =>
        obtain ⟨rfl, k, hk, rfl, rfl, hD⟩ := hrel
        have hvb := val_bd (l.drop 1) k hD.out (by omega)
        by_cases hlt : k < l.length - 1
        · have hbt := UInt8.toNat_lt (byt l (k + 1))
          have eidx : byt (l.drop 1) k = byt l (k + 1) := by rw [byt_drop, Nat.add_comm]
          cases hd : isD (byt l (k + 1))
          · have hF := Lib.hid (show readI l = none by
              rw [hRI, readA, if_pos (Or.inr (Or.inr (List.all_eq_false.2 ⟨byt (l.drop 1) k, ?_, by rw [eidx, hd]; simp⟩)))]
              rw [byt, List.getD, List.getElem?_eq_getElem (by simp; omega)]
              exact List.getElem_mem _)
            have hx : (byt l (k + 1)).toNat < 48 ∨ 57 < (byt l (k + 1)).toNat := by
              have : ¬ (48 ≤ (byt l (k + 1)).toNat ∧ (byt l (k + 1)).toNat ≤ 57) := fun h => by rw [(isD_iff _).2 h] at hd; cases hd
              omega
            clear hD hRI hd eidx
            rcases hx with hx | hx
            · have t1 : decide (((byt l (k + 1)).toNat : Int) < 48) = true := by simp; omega
              go_wp2_with fail
              exact bodyPost_ret (v := readV (readI l)) (by rw [hF.out]; simp [results, Tryz.results186, go_sem, readV]) rfl ⟨rfl, rfl⟩
            · have t1 : decide (((byt l (k + 1)).toNat : Int) < 48) = false := by simp; omega
              have t2 : decide (57 < ((byt l (k + 1)).toNat : Int)) = true := by simp; omega
              go_wp2_with fail
              exact bodyPost_ret (v := readV (readI l)) (by rw [hF.out]; simp [results, Tryz.results186, go_sem, readV]) rfl ⟨rfl, rfl⟩
          · have hx := (isD_iff _).1 hd
            have t1 : decide (((byt l (k + 1)).toNat : Int) < 48) = false := by simp; omega
            have t2 : decide (57 < ((byt l (k + 1)).toNat : Int)) = false := by simp; omega
            have hV := val_take (l.drop 1) k (by simp; omega)
            rw [eidx] at hV
            have hD2 : Hid (∀ j, j < k + 1 → isD (byt (l.drop 1) j) = true) := Lib.hid (fun j hj => by
              by_cases e : j = k
              · subst e; rw [eidx]; exact hd
              · exact hD.out j (by omega))
            have HV := Lib.hid hV
            clear hV hD hd eidx
            generalize val ((l.drop 1).take k) = V at *
            go_wp2_with fail
            go_roundw
            case rel => exact ⟨trivial, k + 1, by omega, by go_num, by rw [HV.out]; go_num, hD2⟩
            case measure => simp [intOf]; omega
        · have hkE : k = l.length - 1 := by omega
          have hlen : (l.drop 1).length = k := by simp; omega
          have hA : readA (l.drop 1) = some (val ((l.drop 1).take k)) := by
            rw [readA, if_neg, List.take_of_length_le (by omega)]
            rintro (h | h | h)
            · omega
            · omega
            · rw [List.all_eq_false] at h
              obtain ⟨c, hc, hcd⟩ := h
              obtain ⟨j, hj, rfl⟩ := List.getElem_of_mem hc
              have := hD.out j (by omega)
              rw [byt, List.getD, List.getElem?_eq_getElem hj] at this
              exact hcd this
          have hend : decide ((k : Int) + 1 < l.length) = false := by simp; omega
          rw [hA] at hRI
          dsimp only at hRI
          clear hA hD hlen
          generalize val ((l.drop 1).take k) = V at *
          by_cases h48 : byt l 1 = 48
          · have hF := Lib.hid (show readI l = none by rw [hRI, if_pos (by rw [byt_drop]; exact h48)])
            have hx : ((byt l 1).toNat : Int) = 48 := by rw [h48]; rfl
            clear hRI h48 h45
            go_wp2_with fail
            exact bodyPost_ret (v := readV (readI l)) (by rw [hF.out]; simp [results, Tryz.results186, go_sem, readV]) rfl ⟨rfl, rfl⟩
          · have hF := Lib.hid (show readI l = some (-(V : Int)) by rw [hRI, if_neg (by rw [byt_drop]; exact h48)])
            have hx : (((byt l 1).toNat : Int) == 48) = false := by
              rw [beq_eq_false_iff_ne]
              intro e
              exact h48 (UInt8.toNat.inj (by have : (48 : UInt8).toNat = 48 := rfl; omega))
            clear hRI h48 h45
            go_wp2_with fail
            exact bodyPost_ret (v := readV (readI l)) (by rw [hF.out]; simp [results, Tryz.results186, go_sem, readV]) rfl ⟨rfl, rfl⟩
  · have hB0 : (((byt l 0).toNat : Int) == 45) = false := by
      rw [beq_eq_false_iff_ne]
      intro e
      exact h45 (UInt8.toNat.inj (by have : (45 : UInt8).toNat = 45 := rfl; omega))
    have hRI : readI l = (match readA (l) with | none => none | some v => if byt l 0 = 48 ∧ 1 < l.length then none else some (v : Int)) := by rw [readI, if_neg h45]
    by_cases hbad : (l).length < 1 ∨ 9 < (l).length
    · have hF := Lib.hid (show readI l = none by rw [hRI, readA, if_pos (by rcases hbad with h | h; exact Or.inl h; exact Or.inr (Or.inl h))])
      have hbd : l.length < 1 ∨ 9 < l.length := by simpa using hbad
      clear hRI hbad h45
      rcases hbd with h | h
      · obtain rfl : l = [] := List.length_eq_zero_iff.1 (by omega)
        clear hat
        go_enter Tryz.func186, Tryz.ntmps186
        go_wp2_with fail
        exact bodyPost_ret (v := readV (readI [])) (by rw [hF.out]; simp [results, Tryz.results186, go_sem, readV]) rfl ⟨rfl, rfl⟩
      · have e1 : decide ((l.length : Int) < 1) = false := by simp; omega
        have e2 : decide (9 < (l.length : Int)) = true := by simp; omega
        have hz : (l == ([] : List UInt8)) = false := by rw [beq_eq_false_iff_ne]; intro e; rw [e] at h; simp at h
        have hl0 : 0 < l.length := by omega
        go_enter Tryz.func186, Tryz.ntmps186
        go_wp2_with fail
        exact bodyPost_ret (v := readV (readI l)) (by rw [hF.out]; simp [results, Tryz.results186, go_sem, readV]) rfl ⟨rfl, rfl⟩
    · have hgood : 1 ≤ l.length ∧ l.length ≤ 9 := by have := hbad; simp at this; omega
      have e1 : decide ((l.length : Int) < 1) = false := by simp; omega
      have e2 : decide (9 < (l.length : Int)) = false := by simp; omega
      have hl0 : 0 < l.length := by omega
      have hz : (l == ([] : List UInt8)) = false := by rw [beq_eq_false_iff_ne]; intro e; rw [e] at hl0; simp at hl0
      go_enter Tryz.func186, Tryz.ntmps186
      go_wp2_with fail
      go_loopw [6, 7] (fun n i wr => w = wr ∧ ∃ k : Nat, k ≤ l.length ∧ i = .int .i64 ((k : Int) + 0) ∧ n = .int .i64 (val ((l).take k) : Int) ∧ Hid (∀ j, j < k → isD (byt (l) j) = true)) (fun n i _ => l.length - (intOf i).toNat)
      case atStart => exact ⟨rfl, 0, Nat.zero_le _, rfl, rfl, Lib.hid (fun j hj => by omega)⟩
      case round =>
        obtain ⟨rfl, k, hk, rfl, rfl, hD⟩ := hrel
        have hvb := val_bd (l) k hD.out (by omega)
        by_cases hlt : k < l.length
        · have hbt := UInt8.toNat_lt (byt l (k))
          have eidx : byt (l) k = byt l (k) := rfl
          cases hd : isD (byt l (k))
          · have hF := Lib.hid (show readI l = none by
              rw [hRI, readA, if_pos (Or.inr (Or.inr (List.all_eq_false.2 ⟨byt (l) k, ?_, by rw [eidx, hd]; simp⟩)))]
              rw [byt, List.getD, List.getElem?_eq_getElem (by omega)]
              exact List.getElem_mem _)
            have hx : (byt l (k)).toNat < 48 ∨ 57 < (byt l (k)).toNat := by
              have : ¬ (48 ≤ (byt l (k)).toNat ∧ (byt l (k)).toNat ≤ 57) := fun h => by rw [(isD_iff _).2 h] at hd; cases hd
              omega
            clear hD hRI hd eidx
            rcases hx with hx | hx
            · have t1 : decide (((byt l (k)).toNat : Int) < 48) = true := by simp; omega
              go_wp2_with fail
              exact bodyPost_ret (v := readV (readI l)) (by rw [hF.out]; simp [results, Tryz.results186, go_sem, readV]) rfl ⟨rfl, rfl⟩
            · have t1 : decide (((byt l (k)).toNat : Int) < 48) = false := by simp; omega
              have t2 : decide (57 < ((byt l (k)).toNat : Int)) = true := by simp; omega
              go_wp2_with fail
              exact bodyPost_ret (v := readV (readI l)) (by rw [hF.out]; simp [results, Tryz.results186, go_sem, readV]) rfl ⟨rfl, rfl⟩
          · have hx := (isD_iff _).1 hd
            have t1 : decide (((byt l (k)).toNat : Int) < 48) = false := by simp; omega
            have t2 : decide (57 < ((byt l (k)).toNat : Int)) = false := by simp; omega
            have hV := val_take (l) k (by omega)
            rw [eidx] at hV
            have hD2 : Hid (∀ j, j < k + 1 → isD (byt (l) j) = true) := Lib.hid (fun j hj => by
              by_cases e : j = k
              · subst e; rw [eidx]; exact hd
              · exact hD.out j (by omega))
            have HV := Lib.hid hV
            clear hV hD hd eidx
            generalize val ((l).take k) = V at *
            go_wp2_with fail
            go_roundw
            case rel => exact ⟨trivial, k + 1, by omega, by go_num, by rw [HV.out]; go_num, hD2⟩
            case measure => simp [intOf]; omega
        · have hkE : k = l.length := by omega
          have hlen : (l).length = k := by omega
          have hA : readA (l) = some (val ((l).take k)) := by
            rw [readA, if_neg, List.take_of_length_le (by omega)]
            rintro (h | h | h)
            · omega
            · omega
            · rw [List.all_eq_false] at h
              obtain ⟨c, hc, hcd⟩ := h
              obtain ⟨j, hj, rfl⟩ := List.getElem_of_mem hc
              have := hD.out j (by omega)
              rw [byt, List.getD, List.getElem?_eq_getElem hj] at this
              exact hcd this
          have hend : decide ((k : Int) + 0 < l.length) = false := by simp; omega
          rw [hA] at hRI
          dsimp only at hRI
          clear hA hD hlen
          generalize val ((l).take k) = V at *
          by_cases h48 : byt l 0 = 48
          · have hx : ((byt l 0).toNat : Int) = 48 := by rw [h48]; rfl
            clear hB0
            by_cases h1 : 1 < l.length
            · have hF := Lib.hid (show readI l = none by rw [hRI, if_pos ⟨h48, h1⟩])
              have h1' : decide (1 < (l.length : Int)) = true := by simp; omega
              clear hRI h48 h45
              go_wp2_with fail
              exact bodyPost_ret (v := readV (readI l)) (by rw [hF.out]; simp [results, Tryz.results186, go_sem, readV]) rfl ⟨rfl, rfl⟩
            · have hF := Lib.hid (show readI l = some (V : Int) by rw [hRI, if_neg (fun h => h1 h.2)])
              have h1' : decide (1 < (l.length : Int)) = false := by simp; omega
              clear hRI h48 h45
              go_wp2_with fail
              exact bodyPost_ret (v := readV (readI l)) (by rw [hF.out]; simp [results, Tryz.results186, go_sem, readV]) rfl ⟨rfl, rfl⟩
          · have hF := Lib.hid (show readI l = some (V : Int) by rw [hRI, if_neg (fun h => h48 h.1)])
            have hx : (((byt l 0).toNat : Int) == 48) = false := by
              rw [beq_eq_false_iff_ne]
              intro e
              exact h48 (UInt8.toNat.inj (by have : (48 : UInt8).toNat = 48 := rfl; omega))
            clear hRI h48 h45
            go_wp2_with fail
            exact bodyPost_ret (v := readV (readI l)) (by rw [hF.out]; simp [results, Tryz.results186, go_sem, readV]) rfl ⟨rfl, rfl⟩
end Go.Proofs.YtdikhdfpcipdbaaGreatDoor.frm

