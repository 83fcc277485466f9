/- The model's l1Split, l1At, l1Read. -/
import Derived.Test.YtdikhdfpcipdbaaGreatDoorFrRead
namespace Go.Proofs.YtdikhdfpcipdbaaGreatDoor.frm
open Go.ChangeShapes Go.WideShapes Go.ChangeAt Go.RowKit
open Go.Proofs.YtdikhdfpcipdbaaGreatDoor.nums Go.Proofs.YtdikhdfpcipdbaaGreatDoor.mem Go.Proofs.YtdikhdfpcipdbaaGreatDoor.txt Go.Proofs.YtdikhdfpcipdbaaGreatDoor.fix
open Go.Proofs.YtdikhdfpcipdbaaGreatDoor.tab (Ret quiet_w wpList_make_has)
set_option linter.unusedVariables false

/-- The pieces between blanks. -/
def splitB : List UInt8 → List (List UInt8)
  | [] => [[]]
  | c :: l => if c = 32 then [] :: splitB l else match splitB l with
    | p :: ps => (c :: p) :: ps
    | [] => [[c]]
theorem splitB_one (a : List UInt8) (h : ∀ c ∈ a, c ≠ 32) : splitB a = [a] := by
  induction a with
  | nil => rfl
  | cons c a ih =>
    rw [splitB, if_neg (h c (by simp)), ih (fun x hx => h x (by simp [hx]))]
theorem splitB_app (a b : List UInt8) (h : ∀ c ∈ a, c ≠ 32) : splitB (a ++ 32 :: b) = a :: splitB b := by
  induction a with
  | nil => simp [splitB]
  | cons c a ih =>
    rw [List.cons_append, splitB, if_neg (h c (by simp)), ih (fun x hx => h x (by simp [hx]))]
theorem mem_cut (l : List UInt8) (f i : Nat) (hi : i ≤ l.length) (h : ∀ j, f ≤ j → j < i → byt l j ≠ 32) : ∀ c ∈ (l.drop f).take (i - f), c ≠ 32 := by
  intro c hc
  obtain ⟨j, hj, rfl⟩ := List.getElem_of_mem hc
  have hj2 : j < i - f := by simp at hj; omega
  have := h (f + j) (by omega) (by omega)
  simp only [List.getElem_take, List.getElem_drop]
  intro e
  apply this
  rw [byt, List.getD, List.getElem?_eq_getElem (by simp at hj; omega)]
  exact e
theorem split_at (l : List UInt8) (f i : Nat) (hf : f ≤ i) (hi : i < l.length) (h : ∀ j, f ≤ j → j < i → byt l j ≠ 32) (hb : byt l i = 32) :
    splitB (l.drop f) = (l.drop f).take (i - f) :: splitB (l.drop (i + 1)) := by
  have e : l.drop f = (l.drop f).take (i - f) ++ 32 :: l.drop (i + 1) := by
    have h1 : (l.drop f).drop (i - f) = l.drop i := by rw [List.drop_drop]; congr 1; omega
    have h2 : l.drop i = 32 :: l.drop (i + 1) := by
      rw [List.drop_eq_getElem_cons hi]
      congr 1
      rw [byt, List.getD, List.getElem?_eq_getElem hi] at hb
      exact hb
    rw [← h2, ← h1]
    exact (List.take_append_drop _ _).symm
  have := splitB_app _ (l.drop (i + 1)) (mem_cut l f i (by omega) h)
  rw [← e] at this
  exact this
theorem split_end (l : List UInt8) (f : Nat) (hf : f ≤ l.length) (h : ∀ j, f ≤ j → j < l.length → byt l j ≠ 32) : splitB (l.drop f) = [(l.drop f).take (l.length - f)] := by
  have e : (l.drop f).take (l.length - f) = l.drop f := List.take_of_length_le (by simp)
  have := splitB_one _ (mem_cut l f l.length (Nat.le_refl _) h)
  rw [e] at this ⊢
  exact this

abbrev strs (p : List (List UInt8)) : List Value := p.map fun x => str x
/-- The texts p lie in a row of their own. -/
abbrev SRow (w : World) (base g cap : Nat) (p : List (List UInt8)) : Prop := w.ownsRow base 9 1 (.slice (some ⟨g, 0, none⟩) p.length cap) p.length (strs p)
def Pieces (l : List UInt8) (w : World) (e : Ending) (w' : World) : Prop := ∃ g cap, e = .returned (.slice (some ⟨g, 0, none⟩) (splitB l).length cap) ∧ w.grownBy w' none ∧ SRow w' w.heap.size g cap (splitB l)
/-- Up to i the text is cut, the last piece begins at f. -/
structure Cut (l : List UInt8) (f i : Nat) (p : List (List UInt8)) : Prop where
  few : p.length ≤ i
  mid : i ≤ l.length → f ≤ i ∧ splitB l = p ++ splitB (l.drop f) ∧ ∀ j, f ≤ j → j < i → byt l j ≠ 32
  fin : l.length < i → splitB l = p ∧ i = l.length + 1
theorem Cut.start (l : List UInt8) : Cut l 0 0 [] := ⟨by simp, fun _ => ⟨Nat.le_refl _, rfl, fun j _ h => by omega⟩, fun h => by omega⟩
theorem Cut.go {l : List UInt8} {f i : Nat} {p : List (List UInt8)} (h : Cut l f i p) (hi : i < l.length) (hb : byt l i ≠ 32) : Cut l f (i + 1) p := by
  obtain ⟨h1, h2, h3⟩ := h.mid (by omega)
  refine ⟨by have := h.few; omega, fun _ => ⟨by omega, h2, fun j hj hj' => ?_⟩, fun hh => by omega⟩
  by_cases e : j = i
  · subst e; exact hb
  · exact h3 j hj (by omega)
theorem Cut.cut {l : List UInt8} {f i : Nat} {p : List (List UInt8)} (h : Cut l f i p) (hi : i < l.length) (hb : byt l i = 32) : Cut l (i + 1) (i + 1) (p ++ [(l.drop f).take (i - f)]) := by
  obtain ⟨h1, h2, h3⟩ := h.mid (by omega)
  refine ⟨by have := h.few; simp; omega, fun _ => ⟨Nat.le_refl _, ?_, fun j hj hj' => by omega⟩, fun hh => by omega⟩
  rw [h2, split_at l f i h1 hi h3 hb]; simp
theorem Cut.last {l : List UInt8} {f : Nat} {p : List (List UInt8)} (h : Cut l f l.length p) : Cut l (l.length + 1) (l.length + 1) (p ++ [(l.drop f).take (l.length - f)]) := by
  obtain ⟨h1, h2, h3⟩ := h.mid (Nat.le_refl _)
  refine ⟨by have := h.few; simp; omega, fun hh => by omega, fun _ => ⟨?_, rfl⟩⟩
  rw [h2, split_end l f h1 h3]

set_option maxRecDepth 100000 in
set_option maxHeartbeats 2000000 in
theorem specSplit (l : List UInt8) (w : World) (hl : l.length ≤ 1048576) : Calls Tryz.prog 184 #[str l, .int .u8 32] w (Pieces l w) := by
  obtain ⟨i0, hi, hz0, hz1, hz2⟩ := info_parts infoStr
  have hat := at_byt l
  have o0 := World.ownsRow_made (base := w.heap.size) (e := 9) (size := 1) w #[] 0 (Nat.le_refl _) (Nat.zero_le _) rfl
  go_enter Tryz.func184, Tryz.ntmps184
  go_wp2_with fail
  go_loopw [5, 6, 7] (fun t fr i wr => ∃ (g cap f k : Nat) (p : List (List UInt8)), t = .slice (some ⟨g, 0, none⟩) p.length cap ∧ fr = .int .i64 f ∧ i = .int .i64 k ∧ SRow wr w.heap.size g cap p ∧ k ≤ l.length + 1 ∧ Cut l f k p ∧ w.grownBy wr none) (fun t fr i _ => l.length + 1 - (intOf i).toNat)
  case atStart => exact ⟨w.heap.size, 0, 0, 0, [], rfl, rfl, rfl, o0, by omega, Cut.start l, World.grownBy_alloc _ _ _⟩
  case round =>
    clear o0
    obtain ⟨g, cap, f, k, p, rfl, rfl, rfl, hown, hk, hC, hg⟩ := hrel
    have hge := (hown.lt g rfl).1
    have hbase := hg.size
    by_cases hlt : k < l.length
    · obtain ⟨m1, m2, m3⟩ := hC.mid (by omega)
      clear m2 m3
      have hkl : ((k : Int) == l.length) = false := by simp; omega
      by_cases hb : byt l k = 32
      · have hx : ((byt l k).toNat : Int) = 32 := by rw [hb]; rfl
        have hC2 := hC.cut hlt hb
        have hex := ByteArray.extract_mk l f k
        have hfew := hC.few
        generalize (l.drop f).take (k - f) = q at *
        go_wp2_with (at_builtin; go_must (refine wpList_append_lies _ rfl _ _ _ rfl w.heap.size 9 i0 _ 1 16 Tryz.underlying241 hi hz0 hz1 hz2 rfl (by omega) (.slice (some ⟨g, 0, none⟩) p.length cap) p.length (strs p) rfl (hown.alloc _) ⟨wr.heap.size, 0, none⟩ 1 1 [str q] rfl rfl (World.news_of_block (cs := #[str q]) (t := 9) (fr := (0, 0)) (heap_alloc_new wr _)) (by simp [Value.oneCell']) (by omega) (by unfold maxLen; omega) (by omega) (by simp; omega) (wr.heap.size + 1) (by simp) ?_); intro gg cap1 w2 hown2 hgrow hatt hlt2)
        have hgrow2 : (wr.alloc (Obj.cells #[.string ⟨q.toArray⟩] 9)).grownBy w2 (some g) := hgrow
        have hel : p.length + 1 = (p ++ [q]).length := by simp
        rw [hel] at hown2
        rw [show strs p ++ [str q] = strs (p ++ [q]) by simp [strs]] at hown2
        go_roundw
        case rel => exact ⟨gg, cap1, k + 1, k + 1, p ++ [q], by simp, by go_num, by go_num, hown2, by omega, hC2, gr_past (gr_alloc hg _) hgrow2 hge⟩
        case measure => simp [intOf]; omega
      · have hx : (((byt l k).toNat : Int) == 32) = false := by
          rw [beq_eq_false_iff_ne]
          intro e
          exact hb (UInt8.toNat.inj (by have : (32 : UInt8).toNat = 32 := rfl; omega))
        have hC2 := hC.go hlt hb
        go_wp2_with fail
        go_roundw
        case rel => exact ⟨g, cap, f, k + 1, p, rfl, rfl, by go_num, hown, by omega, hC2, hg⟩
        case measure => simp [intOf]; omega
    · by_cases hkl : k = l.length
      · have hC2 : Cut l (k + 1) (k + 1) (p ++ [(l.drop f).take (k - f)]) := by rw [hkl] at hC ⊢; exact hC.last
        obtain ⟨m1, m2, m3⟩ := hC.mid (by omega)
        clear m2 m3
        subst hkl
        have hex := ByteArray.extract_mk l f l.length
        have hfew := hC.few
        generalize (l.drop f).take (l.length - f) = q at *
        go_wp2_with (at_builtin; go_must (refine wpList_append_lies _ rfl _ _ _ rfl w.heap.size 9 i0 _ 1 16 Tryz.underlying241 hi hz0 hz1 hz2 rfl (by omega) (.slice (some ⟨g, 0, none⟩) p.length cap) p.length (strs p) rfl (hown.alloc _) ⟨wr.heap.size, 0, none⟩ 1 1 [str q] rfl rfl (World.news_of_block (cs := #[str q]) (t := 9) (fr := (0, 0)) (heap_alloc_new wr _)) (by simp [Value.oneCell']) (by omega) (by unfold maxLen; omega) (by omega) (by simp; omega) (wr.heap.size + 1) (by simp) ?_); intro gg cap1 w2 hown2 hgrow hatt hlt2)
        have hgrow2 : (wr.alloc (Obj.cells #[.string ⟨q.toArray⟩] 9)).grownBy w2 (some g) := hgrow
        have hel : p.length + 1 = (p ++ [q]).length := by simp
        rw [hel] at hown2
        rw [show strs p ++ [str q] = strs (p ++ [q]) by simp [strs]] at hown2
        go_roundw
        case rel => exact ⟨gg, cap1, l.length + 1, l.length + 1, p ++ [q], by simp, by go_num, by go_num, hown2, by omega, hC2, gr_past (gr_alloc hg _) hgrow2 hge⟩
        case measure => simp [intOf]
      · obtain ⟨hp, _⟩ := hC.fin (by omega)
        go_wp2_with fail
        go_ret
        exact ⟨g, cap, by rw [hp]; rfl, hg, by rw [hp]; exact hown⟩

/-- The kind that a word tells; 0 of another one. -/
def kindW (x : List UInt8) : Int := if x = [83] then 1 else if x = [72] then 2 else if x = [70] then 3 else if x = [80] then 4 else 0
theorem kindW_letter {k : Int} (h1 : 1 ≤ k) (h2 : k ≤ 4) : kindW [letter k] = k := by
  have hk : k = 1 ∨ k = 2 ∨ k = 3 ∨ k = 4 := by omega
  rcases hk with rfl | rfl | rfl | rfl <;> decide +kernel
theorem kindW_bd (x : List UInt8) : 0 ≤ kindW x ∧ kindW x ≤ 4 := by unfold kindW; repeat' split
                                                                    all_goals omega
def four (k : Nat) : List UInt8 := if k = 0 then [83] else if k = 1 then [72] else if k = 2 then [70] else [80]

set_option maxRecDepth 100000 in
set_option maxHeartbeats 2000000 in
theorem specAt (b : Nat) (x : List UInt8) (w : World) (hb : Has w b 9 #[.string ⟨#[83]⟩, .string ⟨#[72]⟩, .string ⟨#[70]⟩, .string ⟨#[80]⟩]) :
    Calls Tryz.prog 185 #[.slice (some ⟨b, 0, none⟩) 4 4, str x] w fun e w' => e = .returned (.int .i64 (kindW x - 1)) ∧ w = w' := by
  have hc : ∀ k, k < 4 → w.cell? ⟨b, k, none⟩ = some (str (four k)) := fun k hk => by
    rw [hb.cell k]
    have : k = 0 ∨ k = 1 ∨ k = 2 ∨ k = 3 := by omega
    rcases this with rfl | rfl | rfl | rfl <;> rfl
  go_enter Tryz.func185, Tryz.ntmps185
  go_wp2_with fail
  go_loopw [5] (fun i wr => w = wr ∧ ∃ k : Nat, k ≤ 4 ∧ i = .int .i64 k ∧ Hid (∀ j, j < k → x ≠ four j)) (fun i _ => 4 - (intOf i).toNat)
  case atStart => exact ⟨rfl, 0, by omega, rfl, Lib.hid (fun j hj => by omega)⟩
  case round =>
    obtain ⟨rfl, k, hk, rfl, hn⟩ := hrel
    by_cases hlt : k < 4
    · have cx := hc k hlt
      clear hc
      by_cases he : four k = x
      · have hx : kindW x - 1 = (k : Int) := by
          have : k = 0 ∨ k = 1 ∨ k = 2 ∨ k = 3 := by omega
          rcases this with rfl | rfl | rfl | rfl <;> (rw [← he]; decide +kernel)
        rw [he] at cx
        clear he
        go_wp2_with fail
        go_ret
        exact ⟨by rw [hx]; rfl, rfl⟩
      · have he2 : (four k == x) = false := by rw [beq_eq_false_iff_ne]; exact he
        have hn2 : Hid (∀ j, j < k + 1 → x ≠ four j) := Lib.hid (fun j hj => by
          by_cases e : j = k
          · subst e; exact fun h => he h.symm
          · exact hn.out j (by omega))
        clear he hn
        generalize four k = q at *
        go_wp2_with fail
        go_roundw
        case rel => exact ⟨trivial, k + 1, by omega, by go_num, hn2⟩
        case measure => simp [intOf]; omega
    · obtain rfl : k = 4 := by omega
      have hx : kindW x = 0 := by
        unfold kindW
        have h0 := hn.out 0 (by omega)
        have h1 := hn.out 1 (by omega)
        have h2 := hn.out 2 (by omega)
        have h3 := hn.out 3 (by omega)
        simp only [four] at h0 h1 h2 h3
        rw [if_neg (by simpa using h0), if_neg (by simpa using h1), if_neg (by simpa using h2), if_neg (by simpa using h3)]
      clear hc
      go_wp2_with fail
      go_ret
      exact ⟨by rw [hx]; rfl, rfl⟩
end Go.Proofs.YtdikhdfpcipdbaaGreatDoor.frm
