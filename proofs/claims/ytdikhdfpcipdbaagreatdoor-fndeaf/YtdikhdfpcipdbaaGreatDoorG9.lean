/- ReadFrame of the model. Marks in the memory of an answer: markFrame, heldFrame. A list of frames in memory: read; what came in; alike. A list of frames of one's own: marked, and held; the bulk of one that came in; its copy. -/
import Derived.Test.YtdikhdfpcipdbaaGreatDoorG8
import Derived.Deep.Slices
import Derived.StillTailTactics
/- ReadFrame of the model. -/
namespace Go.Proofs.YtdikhdfpcipdbaaGreatDoor.frm
open Go.ChangeShapes Go.WideShapes Go.ChangeAt Go.RowKit
open Go.Proofs.YtdikhdfpcipdbaaGreatDoor.nums Go.Proofs.YtdikhdfpcipdbaaGreatDoor.mem Go.Proofs.YtdikhdfpcipdbaaGreatDoor.txt Go.Proofs.YtdikhdfpcipdbaaGreatDoor.fix
open Go.Proofs.YtdikhdfpcipdbaaGreatDoor.tab (Ret quiet_w wpList_make_has)
set_option linter.unusedVariables false

def pw (p : List (List UInt8)) (j : Nat) : List UInt8 := p.getD j []
theorem pw_lt {p : List (List UInt8)} {j : Nat} (h : j < p.length) : pw p j = p[j] := by simp [pw, List.getD, h]
theorem splitB_ne (l : List UInt8) : 1 ≤ (splitB l).length := by
  induction l with
  | nil => simp [splitB]
  | cons c l ih =>
    rw [splitB]
    split
    · simp
    · split <;> simp
theorem splitB_len (l : List UInt8) : (splitB l).length ≤ l.length + 1 ∧ ∀ p ∈ splitB l, p.length ≤ l.length := by
  induction l with
  | nil => simp [splitB]
  | cons c l ih =>
    rw [splitB]
    split
    · refine ⟨by simp; omega, fun p hp => ?_⟩
      rcases List.mem_cons.1 hp with rfl | hp
      · simp
      · have := ih.2 p hp; simp; omega
    · cases hs : splitB l with
      | nil => have := splitB_ne l; rw [hs] at this; simp at this
      | cons q qs =>
        rw [hs] at ih
        refine ⟨by simp at ih ⊢; omega, fun p hp => ?_⟩
        rcases List.mem_cons.1 hp with rfl | hp
        · have := ih.2 q (by simp); simp; exact this
        · have := ih.2 p (by simp [hp]); simp; omega
theorem splitB_blanks (ns : List Int) (t : List UInt8) (ht : ∀ c ∈ t, c ≠ 32) : ∀ a : List UInt8, (∀ c ∈ a, c ≠ 32) → splitB (a ++ (blanks ns ++ 32 :: t)) = a :: (ns.map Lib.itoa ++ [t]) := by
  induction ns with
  | nil =>
    intro a ha
    rw [blanks_nil, List.nil_append, splitB_app a t ha, splitB_one t ht]; rfl
  | cons n ns ih =>
    intro a ha
    rw [blanks_cons, List.cons_append, splitB_app a _ ha, List.append_assoc, ih (Lib.itoa n) (fun c hc => ?_)]
    · rfl
    · rcases itoa_chars n c hc with h | h
      · intro e; rw [e] at h; simp [isD] at h
      · rw [h]; decide
theorem letter_ne (k : Int) : letter k ≠ 32 := by unfold letter; repeat' split
                                                  all_goals decide
/-- The words of a frame's text but its last byte. -/
theorem words_show {k sq : Int} {vs : List Int} (ho : okF k sq vs = true) : ∃ t, splitB ((showF k sq vs).take ((showF k sq vs).length - 1)) = [letter k] :: ((sq :: vs).map Lib.itoa ++ [t]) := by
  have e : (showF k sq vs).take ((showF k sq vs).length - 1) = [letter k] ++ (blanks (sq :: vs) ++ 32 :: (42 :: Lib.itoa (sumL (aheadF k sq vs)))) := by
    rw [showF_cons ho, ← List.dropLast_eq_take]
    rw [show (letter k :: (blanks (sq :: vs) ++ 32 :: 42 :: (Lib.itoa (sumL (aheadF k sq vs)) ++ [10]))) = ([letter k] ++ (blanks (sq :: vs) ++ 32 :: (42 :: Lib.itoa (sumL (aheadF k sq vs))))) ++ [10] by simp]
    exact List.dropLast_concat
  refine ⟨42 :: Lib.itoa (sumL (aheadF k sq vs)), ?_⟩
  rw [e]
  refine splitB_blanks (sq :: vs) _ (fun c hc => ?_) [letter k] (fun c hc => ?_)
  · rcases List.mem_cons.1 hc with h | h
    · rw [h]; decide
    · rcases itoa_chars _ c h with h | h
      · intro e; rw [e] at h; simp [isD] at h
      · rw [h]; decide
  · rw [List.mem_singleton.1 hc]; exact letter_ne k
/-- What the words must be, if the text is a frame's. -/
theorem words_say {l : List UInt8} {k sq : Int} {vs : List Int} (ho : okF k sq vs = true) (e : showF k sq vs = l) :
    kindW (pw (splitB (l.take (l.length - 1))) 0) = k ∧ (splitB (l.take (l.length - 1))).length = vs.length + 3 ∧ ∀ j, j < vs.length + 1 → readI (pw (splitB (l.take (l.length - 1))) (j + 1)) = some (nth (sq :: vs) j) := by
  obtain ⟨t, ht⟩ := words_show ho
  obtain ⟨k1, k2, _⟩ := okF_parts ho
  rw [e] at ht
  rw [ht]
  refine ⟨kindW_letter k1 k2, by simp, fun j hj => ?_⟩
  have hs := okF_small ho (nth (sq :: vs) j) (nth_mem (by simpa using hj))
  have h1 : pw ([letter k] :: ((sq :: vs).map Lib.itoa ++ [t])) (j + 1) = Lib.itoa (nth (sq :: vs) j) := by
    have hj' : j < (sq :: vs).length := by simpa using hj
    rw [nth_lt hj', pw, List.getD_cons_succ, List.getD, List.getElem?_append_left (by simpa using hj), List.getElem?_map, List.getElem?_eq_getElem hj']
    rfl
  rw [h1]
  exact readI_itoa _ hs.1 hs.2
theorem isRead_empty : IsRead [] none := fun k sq vs ho e => by rw [showF_cons ho] at e; cases e

theorem many_ge {k : Int} (h1 : 1 ≤ k) (h2 : k ≤ 4) : 2 ≤ many k := by
  have hk : k = 1 ∨ k = 2 ∨ k = 3 ∨ k = 4 := by omega
  rcases hk with rfl | rfl | rfl | rfl <;> decide
/-- The numbers read so far. -/
def Told (W : List (List UInt8)) (acc : List Int) : Prop := ∀ j, j < acc.length → readI (pw W (j + 1)) = some (nth acc j)
theorem Told.nil (W : List (List UInt8)) : Told W [] := fun j hj => by simp at hj
theorem Told.snoc {W : List (List UInt8)} {acc : List Int} (h : Told W acc) {n : Int} (hn : readI (pw W (acc.length + 1)) = some n) : Told W (acc ++ [n]) := by
  intro j hj
  rw [nth_snoc]
  by_cases h1 : j < acc.length
  · rw [if_pos h1]; exact h j h1
  · have h2 : j = acc.length := by simp at hj; omega
    rw [if_neg h1, if_pos h2, h2]; exact hn
theorem told_eq {W : List (List UInt8)} {acc ns : List Int} (h : Told W acc) (hl : acc.length = ns.length) (hn : ∀ j, j < ns.length → readI (pw W (j + 1)) = some (nth ns j)) : acc = ns := by
  apply List.ext_getElem hl
  intro j h1 h2
  have a := h j h1
  rw [hn j h2] at a
  simp only [Option.some.injEq] at a
  rw [nth_lt h1, nth_lt h2] at a
  exact a.symm

theorem row_has {w : World} {base g cap n : Nat} {e : TypeId} {xs : List Value} (h : w.ownsRow base e 1 (.slice (some ⟨g, 0, none⟩) n cap) n xs) : ∃ cur : Array Value, Has w g e cur ∧ ∀ (j : Nat) (u : Value), xs[j]? = some u → cur[j]? = some u := by
  rcases h.2 with ⟨hv0, _⟩ | ⟨g', cap', cur, hv, _, hcur, _, _, _, htk⟩
  · cases hv0
  · simp only [Value.slice.injEq, Option.some.injEq, Addr.mk.injEq] at hv
    obtain ⟨⟨rfl, _⟩, _⟩ := hv
    refine ⟨cur, hcur, fun j u hj => ?_⟩
    have hj' : j < n * 1 := by have := (List.getElem?_eq_some_iff.1 hj).1; rw [h.1] at this; exact this
    rw [← htk, List.getElem?_take, if_pos hj'] at hj
    rw [← Array.getElem?_toList]; exact hj
theorem row_own {w : World} {base b0 cap : Nat} {ao : Option Addr} {vs : List Int} (h : w.ownsRow base 2 1 (.slice ao vs.length cap) vs.length (vals vs)) (hb : b0 ≤ base) (hne : vs ≠ []) : Own b0 w ao vs := by
  rcases h.2 with ⟨hv0, hn⟩ | ⟨g', cap', cur, hv, hbg, hcur, _, _, _, htk⟩
  · exact absurd (List.length_eq_zero_iff.1 hn) hne
  · simp only [Value.slice.injEq] at hv
    obtain ⟨rfl, _, rfl⟩ := hv
    refine ⟨g', 0, cur, fun _ => rfl, by omega, hcur, fun j hj => ?_⟩
    have h1 : (cur.toList.take (vs.length * 1))[j]? = (vals vs)[j]? := by rw [htk]
    rw [List.getElem?_take, if_pos (by omega)] at h1
    rw [Nat.zero_add, ← Array.getElem?_toList, h1, nth_lt hj]
    simp [hj]
theorem own_keep {w w' : World} {b base size n : Nat} {t e : TypeId} {cs : Array Value} {v : Value} {xs : List Value} (h : Has w b t cs) (ho : w.ownsRow base e size v n xs) (hb : b < base) (hg : w.grownBy w' v.ownBlock) : Has w' b t cs :=
  h.grown hg (fun e => by have := (ho.lt b e.symm).1; omega)
theorem gr_own {w0 w w' : World} {base size n : Nat} {e : TypeId} {v : Value} {xs : List Value} (h0 : w0.grownBy w none) (ho : w.ownsRow base e size v n xs) (hb : w0.heap.size ≤ base) (hg : w.grownBy w' v.ownBlock) : w0.grownBy w' none := by
  cases hv : v.ownBlock with
  | none => rw [hv] at hg; exact gr_trans h0 hg
  | some q =>
    have := (ho.lt q hv).1
    rw [hv] at hg
    exact gr_past h0 hg (by omega)
theorem row_past {w w' : World} {base size n q : Nat} {e : TypeId} {v : Value} {xs : List Value} (h : w.ownsRow base e size v n xs) (hg : w.grownBy w' (some q)) (hq : q < base) : w'.ownsRow base e size v n xs :=
  h.kept hg (Or.inr (fun e => by have := (h.lt q e).1; omega))

set_option maxRecDepth 100000 in
set_option maxHeartbeats 4000000 in
theorem specRead (l : List UInt8) (r : Option (Int × Int × List Int)) (w : World) (hl : l.length ≤ 1048576) (hr : IsRead l r) : Calls Tryz.prog 172 #[str l] w (ReadOut r w) := by
  obtain ⟨i0, hi, hz0, hz1, hz2⟩ := info_parts infoInt
  have g0 := World.grownBy_alloc w (Obj.cells #[.int .i64 0, .int .i64 0, .slice none 0 0] 50) none
  have H0 := Has.fresh w 50 #[.int .i64 0, .int .i64 0, .slice none 0 0]
  by_cases hne : l = []
  · subst hne
    obtain rfl := isRead_uniq hr isRead_empty
    obtain ⟨p0, p1, p2, q0, q1, q2⟩ := three H0
    go_enter Tryz.func172, Tryz.ntmps172
    go_wp2_with fail
    exact bodyPost_ret (v := .tuple #[fr 0 0 none 0 0, .bool false]) (by simp [results, Tryz.results172, go_sem, p0, p1, p2]) rfl ⟨g0, rfl⟩
  · have hz : (l == ([] : List UInt8)) = false := by rw [beq_eq_false_iff_ne]; exact hne
    have hl0 : 0 < l.length := List.length_pos_iff.2 hne
    have hex : (ByteArray.mk l.toArray).extract 0 (l.length - 1) = ByteArray.mk (l.take (l.length - 1)).toArray := by rw [ByteArray.extract_mk]; simp
    have hS : ∀ W, Calls Tryz.prog 184 #[str (l.take (l.length - 1)), .int .u8 32] W fun e w' => ∃ g cap, e = .returned (.slice (some ⟨g, 0, none⟩) (splitB (l.take (l.length - 1))).length cap) ∧ W.grownBy w' none ∧ SRow w' W.heap.size g cap (splitB (l.take (l.length - 1))) := fun W => specSplit (l.take (l.length - 1)) W (by simp; omega)
    have hW := fun k sq vs (ho : okF k sq vs = true) (e : showF k sq vs = l) => words_say ho e
    have HW := Lib.hid hW
    have hb := splitB_len (l.take (l.length - 1))
    have hb1 := splitB_ne (l.take (l.length - 1))
    rw [show (l.take (l.length - 1)).length = l.length - 1 by simp] at hb
    obtain ⟨hb2, hb3⟩ := hb
    have HB := Lib.hid hb3
    clear hW hb3
    generalize l.take (l.length - 1) = D at *
    generalize hWW : splitB D = W at *
    clear hWW
    generalize hK : kindW (pw W 0) = K at *
    have hKb := kindW_bd (pw W 0)
    rw [hK] at hKb
    have hA := fun b W' hb => specAt b (pw W 0) W' hb
    rw [hK] at hA
    go_enter Tryz.func172, Tryz.ntmps172
    go_wp2_with fail
    refine (hS _).mono ?_
    rintro e w1 ⟨g, cap, rfl, hg1, hrow⟩
    replace g0 := gr_trans g0 hg1
    replace H0 := H0.grown hg1 (by simp)
    have hgb := (hrow.lt g rfl)
    have hsz1 : w.heap.size + 1 ≤ g := by have := hgb.1; simpa using this
    clear hg1 hS hex
    have hrow2 := hrow.alloc (Obj.cells #[.string ⟨#[83]⟩, .string ⟨#[72]⟩, .string ⟨#[70]⟩, .string ⟨#[80]⟩] 9)
    have c0 : (w1.alloc (Obj.cells #[.string ⟨#[83]⟩, .string ⟨#[72]⟩, .string ⟨#[70]⟩, .string ⟨#[80]⟩] 9)).cell? ⟨g, 0, none⟩ = some (str (pw W 0)) := by
      have := hrow2.cells (g := g) rfl 0 (str (pw W 0)) (by rw [pw_lt (by omega)]; simp)
      rwa [add0] at this
    have hW1 : (1 : Int) ≤ W.length := by omega
    have hW0 : 0 < W.length := by omega
    have hb4 := Has.fresh w1 9 #[.string ⟨#[83]⟩, .string ⟨#[72]⟩, .string ⟨#[70]⟩, .string ⟨#[80]⟩]
    go_wp2_with fail
    refine (hA _ _ hb4).mono ?_
    rintro e w2 ⟨rfl, rfl⟩
    replace g0 := gr_alloc (gr_alloc g0 (Obj.cells #[.string ⟨#[83]⟩, .string ⟨#[72]⟩, .string ⟨#[70]⟩, .string ⟨#[80]⟩] 9)) (Obj.cells #[.int .i64 K, .int .i64 0, .slice none 0 0] 50)
    replace H0 := (H0.alloc (Obj.cells #[.string ⟨#[83]⟩, .string ⟨#[72]⟩, .string ⟨#[70]⟩, .string ⟨#[80]⟩] 9)).alloc (Obj.cells #[.int .i64 K, .int .i64 0, .slice none 0 0] 50)
    have HX := Has.fresh (w1.alloc (Obj.cells #[.string ⟨#[83]⟩, .string ⟨#[72]⟩, .string ⟨#[70]⟩, .string ⟨#[80]⟩] 9)) 50 #[.int .i64 K, .int .i64 0, .slice none 0 0]
    replace hrow := hrow2.alloc (Obj.cells #[.int .i64 K, .int .i64 0, .slice none 0 0] 50)
    have hsx : (w1.alloc (Obj.cells #[.string ⟨#[83]⟩, .string ⟨#[72]⟩, .string ⟨#[70]⟩, .string ⟨#[80]⟩] 9)).heap.size = w1.heap.size + 1 := by simp
    rw [hsx] at HX
    have hx1 : g < w1.heap.size + 1 := by have := hgb.2; omega
    clear hrow2 c0 hb4 hsx hA hgb
    have hbw : w1.heap.size + 1 ≠ w.heap.size := by omega
    by_cases hK0 : K = 0
    · have hN : IsRead l none := fun k sq vs ho e => by
        have h1 := (HW.out k sq vs ho e).1
        have h2 := (okF_parts ho).1
        omega
      obtain rfl := isRead_uniq hr hN
      subst hK0
      obtain ⟨p0, p1, p2, q0, q1, q2⟩ := three H0
      obtain ⟨b0, b1, b2, _, _, _⟩ := three HX
      clear hr HW HB hN hK
      go_wp2_with fail
      obtain ⟨r0, r1, r2, _, _, _⟩ := three (set3 H0 (.int .i64 0) (.int .i64 0) (.slice none 0 0))
      exact bodyPost_ret (v := .tuple #[fr 0 0 none 0 0, .bool false]) (by simp [results, Tryz.results172, go_sem, r0, r1, r2]) rfl ⟨gr_new (gr_new (gr_new g0 (Nat.le_refl _) _ _) (Nat.le_refl _) _ _) (Nat.le_refl _) _ _, rfl⟩
    · have hK2 : (K == 0) = false := by rw [beq_eq_false_iff_ne]; exact hK0
      have hM := specMany K
      have hmb : 2 ≤ many K ∧ many K ≤ 6 := ⟨many_ge (by omega) (by omega), many_le K⟩
      obtain ⟨b0, b1, b2, _, _, _⟩ := three HX
      clear hK
      go_wp2_with fail
      refine (hM _).mono ?_
      rintro e w3 ⟨rfl, hg3⟩
      replace g0 := gr_trans g0 hg3
      replace H0 := H0.grown hg3 (by simp)
      replace HX := HX.grown hg3 (by simp)
      replace hrow := hrow.kept hg3 (own_ne_none _)
      have hbx2 := HX.lt
      have hd1 := splitB_ne
      clear hg3 b0 b1 b2 hM hd1
      generalize w1.heap.size + 1 = bx at *
      by_cases hWL : (W.length : Int) = many K + 3
      · have hWL2 : ((W.length : Int) != many K + 3) = false := by rw [bne_eq_false_iff_eq]; exact hWL
        generalize many K = M at *
        obtain ⟨cur, HG, hcur⟩ := row_has hrow
        have hcell : ∀ j, j < W.length → cur[j]? = some (str (pw W j)) := fun j hj => hcur j _ (by rw [pw_lt hj]; simp [hj])
        have HC := Lib.hid hcell
        clear hcur hcell hrow
        have hbx3 := hbx2
        generalize hB : w3.heap.size = B at *
        go_wp2_with fail
        go_loopw [6] (fun i wr => ∃ (acc : List Int) (ao : Option Addr) (cp : Nat) (sq : Int), i = .int .i64 ((acc.length : Int) + 1) ∧ acc.length + 2 ≤ W.length ∧ Has wr bx 50 #[.int .i64 K, .int .i64 sq, .slice ao (acc.length - 1) cp] ∧ Hid (sq = if acc.length = 0 then 0 else nth acc 0) ∧ wr.ownsRow B 2 1 (.slice ao (acc.length - 1) cp) (acc.length - 1) (vals (acc.drop 1)) ∧ Has wr w.heap.size 50 #[.int .i64 0, .int .i64 0, .slice none 0 0] ∧ Has wr g 9 cur ∧ Hid (Told W acc) ∧ w.grownBy wr none ∧ B ≤ wr.heap.size) (fun i _ => W.length - (intOf i).toNat)
        case atStart => exact ⟨[], none, 0, 0, rfl, by simp; omega, HX, Lib.hid rfl, World.ownsRow_nil _ _ _ _, H0, HG, Lib.hid (Told.nil W), g0, by omega⟩
        case round =>
          clear HX H0 HG g0
          obtain ⟨acc, ao, cp, sq, rfl, hal, HX, hsq, hown, H0, HG, hT, hg, hBs⟩ := hrel
          obtain ⟨p0, p1, p2, q0, q1, q2⟩ := three H0
          obtain ⟨b0, b1, b2, f0, f1, f2⟩ := three HX
          by_cases hlt : acc.length + 2 < W.length
          · have hc := (HG.cell (acc.length + 1)).trans (HC.out _ (by omega))
            have hpl : (pw W (acc.length + 1)).length ≤ maxLen := by
              have := HB.out (pw W (acc.length + 1)) (by rw [pw_lt (by omega)]; exact List.getElem_mem _)
              unfold maxLen; omega
            have hRI := fun W' => specReadI (pw W (acc.length + 1)) W' hpl
            cases hn : readI (pw W (acc.length + 1)) with
            | none =>
              rw [hn] at hRI
              have hN : IsRead l none := fun k sq vs ho e => by
                obtain ⟨_, h2, h3⟩ := HW.out k sq vs ho e
                have := h3 acc.length (by omega)
                rw [hn] at this; cases this
              obtain rfl := isRead_uniq hr hN
              unfold readV at hRI
              clear hr HW HB hN hn hsq hT HC
              go_wp2_with fail
              refine (hRI _).mono ?_
              rintro e w4 ⟨rfl, rfl⟩
              go_wp2_with fail
              obtain ⟨r0, r1, r2, _, _, _⟩ := three (set3 H0 (.int .i64 0) (.int .i64 0) (.slice none 0 0))
              exact bodyPost_ret (v := .tuple #[fr 0 0 none 0 0, .bool false]) (by simp [results, Tryz.results172, go_sem, r0, r1, r2]) rfl ⟨gr_new (gr_new (gr_new hg (Nat.le_refl _) _ _) (Nat.le_refl _) _ _) (Nat.le_refl _) _ _, rfl⟩
            | some n =>
              rw [hn] at hRI
              unfold readV at hRI
              have hT2 := Lib.hid (hT.out.snoc hn)
              clear hn
              by_cases ha : acc = []
              · subst ha
                have hc1 : wr.cell? ⟨g, 1, none⟩ = some (str (pw W 1)) := hc
                have hRI1 : ∀ W', Calls Tryz.prog 186 #[str (pw W 1)] W' fun e w' => e = .returned (.tuple #[.int .i64 n, .bool true]) ∧ W' = w' := hRI
                have hW2 : (1 : Int) < (W.length : Int) - 1 := by omega
                clear hc hRI hr HW HB HC hpl hT
                go_wp2_with fail
                refine (hRI1 _).mono ?_
                rintro e w4 ⟨rfl, rfl⟩
                go_wp2_with fail
                go_roundw
                case rel => exact ⟨[n], ao, cp, n, by go_num, by simp; omega, HX.put 1 _ rfl, Lib.hid rfl, row_past hown (gr_set (gr_refl _ (some bx)) _ _) (by omega), has_other H0 (fun e => hbw e.symm) _ _, has_other HG (by omega) _ _, hT2, gr_new hg (by omega) _ _, by simpa [World.setCell] using hBs⟩
                case measure => simp [intOf]; omega
              · have hap : 0 < acc.length := List.length_pos_iff.2 ha
                have hi1 : (((acc.length : Int) + 1) == 1) = false := by rw [beq_eq_false_iff_ne]; omega
                have hW2 : (acc.length : Int) + 1 < (W.length : Int) - 1 := by omega
                have hsub : (acc.drop 1).length = acc.length - 1 := by simp
                clear hr HW HB HC hpl hT
                go_wp2_with fail
                refine (hRI _).mono ?_
                rintro e w4 ⟨rfl, rfl⟩
                go_wp2_with (at_builtin; go_must (refine wpList_append_lies _ rfl _ _ _ rfl B 2 i0 _ 1 8 Tryz.underlying25 hi hz0 hz1 hz2 rfl (by omega) (.slice ao (acc.length - 1) cp) (acc.length - 1) (vals (acc.drop 1)) rfl (hown.alloc _) ⟨wr.heap.size, 0, none⟩ 1 1 [.int .i64 n] rfl rfl (World.news_of_block (cs := #[.int .i64 n]) (t := 2) (fr := (0, 0)) (heap_alloc_new wr _)) (by simp [Value.oneCell']) (by omega) (by unfold maxLen; omega) (by omega) (by simp; omega) (wr.heap.size + 1) (by simp) ?_); intro gg cap1 w2 hown2 hgrow hatt hlt2; have HX2 := own_keep (HX.alloc _) (hown.alloc _) (by omega) hgrow; obtain ⟨y0, y1, y2, z0, z1, z2⟩ := three HX2)
                have hel : acc.length - 1 + 1 = (acc ++ [n]).length - 1 := by simp; omega
                have hdr : vals (acc.drop 1) ++ [Value.int .i64 n] = vals ((acc ++ [n]).drop 1) := by
                  rw [List.drop_append_of_le_length (by omega)]; simp [vals]
                have hsq2 : Hid (sq = if (acc ++ [n]).length = 0 then 0 else nth (acc ++ [n]) 0) := Lib.hid (by
                  rw [hsq.out, if_neg (by omega), if_neg (by simp), nth_snoc, if_pos hap])
                rw [hel, hdr] at hown2
                rw [hel]
                go_roundw
                case rel => exact ⟨acc ++ [n], some ⟨gg, 0, none⟩, cap1, sq, by simp, by simp; omega, HX2.put 2 _ rfl, hsq2, row_past hown2 (gr_set (gr_refl _ (some bx)) _ _) (by omega), has_other (own_keep (H0.alloc _) (hown.alloc _) (by omega) hgrow) (fun e => hbw e.symm) _ _, has_other (own_keep (HG.alloc _) (hown.alloc _) (by omega) hgrow) (by omega) _ _, hT2, gr_new (gr_own (gr_alloc hg _) (hown.alloc _) (by omega) hgrow) (by omega) _ _, by have h1 := hgrow.size; simp at h1; simp [World.setCell]; omega⟩
                case measure => simp [intOf]; omega
          · cases acc with
            | nil => simp at hlt; omega
            | cons a vs =>
              have hvl : W.length = vs.length + 3 := by simp at hlt hal; omega
              have ha : sq = a := by rw [hsq.out]; simp [nth]
              subst ha
              simp only [List.drop_succ_cons, List.drop_zero, List.length_cons, Nat.add_sub_cancel] at hown HX b2
              have hI : Ints wr ao vs := (row_own hown (Nat.le_refl _) (by intro e; rw [e] at hvl; simp at hvl; omega)).ints
              have hSh := specShow K sq ao cp vs wr hI (by unfold maxLen; omega)
              have hend : decide ((vs.length : Int) + 1 + 1 < (W.length : Int) - 1) = false := by simp; omega
              have hTs := hT.out
              by_cases hs : showF K sq vs = l
              · obtain rfl := isRead_uniq hr (read_some hne hs)
                rw [hs] at hSh
                have hO := row_own hown (show w.heap.size + 1 ≤ B by omega) (by intro e; rw [e] at hvl; simp at hvl; omega)
                clear hr hs HW HB HC hT hTs hsq
                go_wp2_with fail
                refine hSh.mono ?_
                rintro e w4 ⟨rfl, hg4⟩
                replace H0 := H0.grown hg4 (by simp)
                replace HX := HX.grown hg4 (by simp)
                obtain ⟨p0, p1, p2, q0, q1, q2⟩ := three H0
                obtain ⟨b0, b1, b2, f0, f1, f2⟩ := three HX
                have hO2 := hO.kept hg4
                go_wp2_with fail
                obtain ⟨r0, r1, r2, _, _, _⟩ := three (set3 H0 (.int .i64 K) (.int .i64 sq) (.slice ao vs.length cp))
                exact bodyPost_ret (v := .tuple #[fr K sq ao vs.length cp, .bool true]) (by simp [results, Tryz.results172, go_sem, r0, r1, r2]) rfl ⟨gr_new (gr_new (gr_new (gr_trans hg hg4) (Nat.le_refl _) _ _) (Nat.le_refl _) _ _) (Nat.le_refl _) _ _, ao, cp, rfl, (((hO2.set _ _).set _ _).set _ _).up (Nat.le_succ _)⟩
              · have hN : IsRead l none := fun k sq' vs' ho e => by
                  obtain ⟨h1, h2, h3⟩ := HW.out k sq' vs' ho e
                  have := told_eq (ns := sq' :: vs') hTs (by simp; omega) (fun j hj => h3 j (by simpa using hj))
                  simp only [List.cons.injEq] at this
                  obtain ⟨rfl, rfl⟩ := this
                  subst h1
                  exact hs e
                obtain rfl := isRead_uniq hr hN
                have hb : (showF K sq vs == l) = false := by rw [beq_eq_false_iff_ne]; exact hs
                clear hr hs HW HB HC hT hTs hsq hN
                generalize showF K sq vs = T at *
                go_wp2_with fail
                refine hSh.mono ?_
                rintro e w4 ⟨rfl, hg4⟩
                replace H0 := H0.grown hg4 (by simp)
                obtain ⟨p0, p1, p2, q0, q1, q2⟩ := three H0
                go_wp2_with fail
                obtain ⟨r0, r1, r2, _, _, _⟩ := three (set3 H0 (.int .i64 0) (.int .i64 0) (.slice none 0 0))
                exact bodyPost_ret (v := .tuple #[fr 0 0 none 0 0, .bool false]) (by simp [results, Tryz.results172, go_sem, r0, r1, r2]) rfl ⟨gr_new (gr_new (gr_new (gr_trans hg hg4) (Nat.le_refl _) _ _) (Nat.le_refl _) _ _) (Nat.le_refl _) _ _, rfl⟩
      · have hWL2 : ((W.length : Int) != many K + 3) = true := by rw [bne_iff_ne]; exact hWL
        have hN : IsRead l none := fun k sq vs ho e => by
          obtain ⟨h1, h2, _⟩ := HW.out k sq vs ho e
          have h3 := (okF_parts ho).2.2.2.2.1
          apply hWL
          rw [h1, h2, ← h3]; simp
        obtain rfl := isRead_uniq hr hN
        obtain ⟨p0, p1, p2, q0, q1, q2⟩ := three H0
        clear hr HW HB hN
        generalize many K = M at *
        go_wp2_with fail
        obtain ⟨r0, r1, r2, _, _, _⟩ := three (set3 H0 (.int .i64 0) (.int .i64 0) (.slice none 0 0))
        exact bodyPost_ret (v := .tuple #[fr 0 0 none 0 0, .bool false]) (by simp [results, Tryz.results172, go_sem, r0, r1, r2]) rfl ⟨gr_new (gr_new (gr_new g0 (Nat.le_refl _) _ _) (Nat.le_refl _) _ _) (Nat.le_refl _) _ _, rfl⟩
end Go.Proofs.YtdikhdfpcipdbaaGreatDoor.frm

/- Marks in the memory of an answer: markFrame, heldFrame. -/
namespace Go.Proofs.YtdikhdfpcipdbaaGreatDoor.frm
open Go.ChangeShapes Go.WideShapes Go.ChangeAt Go.RowKit
open Go.Proofs.YtdikhdfpcipdbaaGreatDoor.nums Go.Proofs.YtdikhdfpcipdbaaGreatDoor.mem Go.Proofs.YtdikhdfpcipdbaaGreatDoor.txt Go.Proofs.YtdikhdfpcipdbaaGreatDoor.fix
open Go.Proofs.YtdikhdfpcipdbaaGreatDoor.tab (Ret quiet_w wpList_make_has)
set_option linter.unusedVariables false

def OwnE (base : Nat) (w : World) (a : Option Addr) (vs : List Int) : Prop := vs = [] ∨ Own base w a vs
theorem OwnE.ints {base : Nat} {w : World} {a : Option Addr} {vs : List Int} (h : OwnE base w a vs) : Ints w a vs := by
  rcases h with rfl | h
  · exact Ints.nil _ _
  · exact h.ints
theorem OwnE.grown {base : Nat} {w w' : World} {a : Option Addr} {vs : List Int} {row : Option Nat} (h : OwnE base w a vs) (hg : w.grownBy w' row) (hn : ∀ g, base ≤ g → some g ≠ row) : OwnE base w' a vs := h.imp id (fun h => h.grown hg hn)
theorem OwnE.kept {base : Nat} {w w' : World} {a : Option Addr} {vs : List Int} (h : OwnE base w a vs) (hg : w.grownBy w' none) : OwnE base w' a vs := h.imp id (fun h => h.kept hg)
/-- What is read, as the answer tells it. -/
def dec : Option (Int × Int × List Int) → Int × Int × List Int × Bool
  | some (k, sq, vs) => (k, sq, vs, true)
  | none => (0, 0, [], false)
theorem ReadOut.got {r : Option (Int × Int × List Int)} {w w' : World} {e : Ending} {k sq : Int} {vs : List Int} {is : Bool} (h : ReadOut r w e w') (hd : dec r = (k, sq, vs, is)) : ∃ a cap, e = .returned (.tuple #[fr k sq a vs.length cap, .bool is]) ∧ OwnE w.heap.size w' a vs ∧ w.grownBy w' none := by
  obtain ⟨hg, h⟩ := h
  match r with
  | some (k', sq', vs') =>
    simp only [dec, Prod.mk.injEq] at hd
    obtain ⟨rfl, rfl, rfl, rfl⟩ := hd
    obtain ⟨a, cap, he, ho⟩ := h
    exact ⟨a, cap, he, Or.inr ho, hg⟩
  | none =>
    simp only [dec, Prod.mk.injEq] at hd
    obtain ⟨rfl, rfl, rfl, rfl⟩ := hd
    exact ⟨none, 0, h, Or.inl rfl, hg⟩
theorem dec_len {l : List UInt8} {r : Option (Int × Int × List Int)} {k sq : Int} {vs : List Int} {is : Bool} (h : IsRead l r) (hd : dec r = (k, sq, vs, is)) : vs.length ≤ 6 := by
  match r with
  | some (k', sq', vs') =>
    simp only [dec, Prod.mk.injEq] at hd
    obtain ⟨rfl, rfl, rfl, rfl⟩ := hd
    exact okF_short h.1
  | none =>
    simp only [dec, Prod.mk.injEq] at hd
    obtain ⟨rfl, rfl, rfl, rfl⟩ := hd
    simp
def marks (n : Nat) : List Int := (List.range n).map fun (j : Nat) => (j : Int) + 1
/-- The marks are laid. -/
def Marked (base n : Nat) (a : Option Addr) (w : World) (e : Ending) (w' : World) : Prop := e = .returned (.int .i64 ((n : Int) + 1)) ∧ (∃ row, w.grownBy w' row ∧ ∀ q, row = some q → base ≤ q ∧ ∃ cs, Has w q 2 cs) ∧ OwnE base w' a (marks n)

theorem Has.marked {w w' : World} {b base : Nat} {t : TypeId} {cs : Array Value} {row : Option Nat} (h : Has w b t cs) (hg : w.grownBy w' row) (hq : ∀ q, row = some q → base ≤ q ∧ ∃ cs, Has w q 2 cs) (hb : b < base ∨ t ≠ 2) : Has w' b t cs := by
  refine h.grown hg (fun e => ?_)
  obtain ⟨h1, cs', h2⟩ := hq b e.symm
  rcases hb with hb | hb
  · omega
  · have h4 := h.symm.trans h2
    simp at h4
    exact hb h4.2
end Go.Proofs.YtdikhdfpcipdbaaGreatDoor.frm

/- A list of frames in memory: read; what came in; alike. -/
namespace Go.Proofs.YtdikhdfpcipdbaaGreatDoor.stm
open Go.ChangeShapes Go.WideShapes Go.ChangeAt Go.RowKit
open Go.Proofs.YtdikhdfpcipdbaaGreatDoor.nums Go.Proofs.YtdikhdfpcipdbaaGreatDoor.mem Go.Proofs.YtdikhdfpcipdbaaGreatDoor.txt Go.Proofs.YtdikhdfpcipdbaaGreatDoor.fix Go.Proofs.YtdikhdfpcipdbaaGreatDoor.frm
open Go.Proofs.YtdikhdfpcipdbaaGreatDoor.tab (Ret quiet_w wpList_make_has add_off)
set_option linter.unusedVariables false

/-- A frame: its kind, its number, its values. -/
abbrev Fr := Int × Int × List Int
/-- Where the values of a frame lie, and how much room there is. -/
abbrev Pl := Option Addr × Nat
def fk (fs : List Fr) (i : Nat) : Int := (fs.getD i (0, 0, [])).1
def fq (fs : List Fr) (i : Nat) : Int := (fs.getD i (0, 0, [])).2.1
def fv (fs : List Fr) (i : Nat) : List Int := (fs.getD i (0, 0, [])).2.2
def pa (ps : List Pl) (i : Nat) : Option Addr := (ps.getD i (none, 0)).1
def pc (ps : List Pl) (i : Nat) : Nat := (ps.getD i (none, 0)).2
theorem fat {fs : List Fr} {i : Nat} (h : i < fs.length) : fs[i] = (fk fs i, fq fs i, fv fs i) := by simp [fk, fq, fv, List.getD, h]

/-- The slice at a holds these frames. -/
def Frs (w : World) (a : Option Addr) (fs : List Fr) (ps : List Pl) : Prop :=
  ∀ k, k < fs.length → ∃ x : Addr, a = some x ∧ x.block < w.heap.size ∧ w.cell? (x.add (k * 3)) = some (.int .i64 (fk fs k)) ∧ w.cell? ⟨(x.add (k * 3)).block, (x.add (k * 3)).off + 1, none⟩ = some (.int .i64 (fq fs k)) ∧
    w.cell? ⟨(x.add (k * 3)).block, (x.add (k * 3)).off + 2, none⟩ = some (.slice (pa ps k) (fv fs k).length (pc ps k)) ∧ Ints w (pa ps k) (fv fs k)
theorem Frs.nil (w : World) (a : Option Addr) (ps : List Pl) : Frs w a [] ps := fun k hk => by simp at hk

/-- Of what was there, only blocks of S are another. -/
structure Chg (S : Nat → Prop) (w w' : World) : Prop where
  os : w'.os = w.os
  tape : w'.tape = w.tape
  output : w'.output = w.output
  size : w.heap.size ≤ w'.heap.size
  block : ∀ b, b < w.heap.size → ¬ S b → w'.heap[b]? = w.heap[b]?
theorem chg_of_gr {w w' : World} {row : Option Nat} {S : Nat → Prop} (h : w.grownBy w' row) (hS : ∀ b, some b = row → S b) : Chg S w w' := ⟨h.os, h.tape, h.output, h.size, fun b hb hn => h.block b hb (fun e => hn (hS b e))⟩
theorem Chg.refl (S : Nat → Prop) (w : World) : Chg S w w := ⟨rfl, rfl, rfl, Nat.le_refl _, fun _ _ _ => rfl⟩
theorem Chg.trans {S : Nat → Prop} {a b c : World} (h : Chg S a b) (k : Chg S b c) : Chg S a c :=
  ⟨k.os.trans h.os, k.tape.trans h.tape, k.output.trans h.output, Nat.le_trans h.size k.size, fun i hi hn => (k.block i (Nat.lt_of_lt_of_le hi h.size) hn).trans (h.block i hi hn)⟩
theorem Chg.mono {S T : Nat → Prop} {a b : World} (h : Chg S a b) (hs : ∀ i, S i → T i) : Chg T a b := ⟨h.os, h.tape, h.output, h.size, fun i hi hn => h.block i hi (fun k => hn (hs i k))⟩
theorem Chg.gr {S : Nat → Prop} {a b c : World} (h : a.grownBy b none) (k : Chg S b c) (hS : ∀ i, S i → a.heap.size ≤ i) : a.grownBy c none :=
  ⟨k.os.trans h.os, k.tape.trans h.tape, k.output.trans h.output, Nat.le_trans h.size k.size, fun i hi hn => (k.block i (Nat.lt_of_lt_of_le hi h.size) (fun s => by have := hS i s; omega)).trans (h.block i hi hn)⟩
theorem Chg.has {S : Nat → Prop} {w w' : World} {g : Nat} {t : TypeId} {cs : Array Value} (h : Chg S w w') (H : Has w g t cs) (hn : ¬ S g) : Has w' g t cs := H.same (h.block g H.lt hn)
theorem Chg.ints {S : Nat → Prop} {w w' : World} {a : Option Addr} {l : List Int} (h : Chg S w w') (H : Ints w a l) (hn : ∀ x : Addr, a = some x → 0 < l.length → ¬ S x.block) : Ints w' a l := by
  intro k hk
  obtain ⟨x, e, hb, h1⟩ := H k hk
  refine ⟨x, e, Nat.lt_of_lt_of_le hb h.size, ?_⟩
  rw [← h1]; exact World.cell?_of_block (h.block _ (by rw [block_add]; omega) (by rw [block_add]; exact hn x e (by omega)))
theorem Chg.frs {S : Nat → Prop} {w w' : World} {a : Option Addr} {fs : List Fr} {ps : List Pl} (h : Chg S w w') (H : Frs w a fs ps) (hn : ∀ x : Addr, a = some x → 0 < fs.length → ¬ S x.block)
    (hv : ∀ k (x : Addr), k < fs.length → pa ps k = some x → 0 < (fv fs k).length → ¬ S x.block) : Frs w' a fs ps := by
  intro k hk
  obtain ⟨x, e, hb, h1, h2, h3, h4⟩ := H k hk
  have hx := hn x e (by omega)
  refine ⟨x, e, Nat.lt_of_lt_of_le hb h.size, ?_, ?_, ?_, h.ints h4 (fun y ey hl => hv k y hk ey hl)⟩
  · rw [← h1]; exact World.cell?_of_block (h.block _ (by rw [block_add]; omega) (by rw [block_add]; exact hx))
  · rw [← h2]; exact World.cell?_of_block (h.block _ (by show (x.add (k * 3)).block < _; rw [block_add]; omega) (by show ¬ S (x.add (k * 3)).block; rw [block_add]; exact hx))
  · rw [← h3]; exact World.cell?_of_block (h.block _ (by show (x.add (k * 3)).block < _; rw [block_add]; omega) (by show ¬ S (x.add (k * 3)).block; rw [block_add]; exact hx))
theorem Frs.kept {w w' : World} {a : Option Addr} {fs : List Fr} {ps : List Pl} (h : Frs w a fs ps) (hg : w.grownBy w' none) : Frs w' a fs ps :=
  (chg_of_gr (S := fun _ => False) hg (fun b e => by cases e)).frs h (fun _ _ _ => id) (fun _ _ _ _ _ => id)

end Go.Proofs.YtdikhdfpcipdbaaGreatDoor.stm

/- A list of frames of one's own: marked, and held; the bulk of one that came in; its copy. -/
namespace Go.Proofs.YtdikhdfpcipdbaaGreatDoor.stm
open Go.ChangeShapes Go.WideShapes Go.ChangeAt Go.RowKit
open Go.Proofs.YtdikhdfpcipdbaaGreatDoor.nums Go.Proofs.YtdikhdfpcipdbaaGreatDoor.mem Go.Proofs.YtdikhdfpcipdbaaGreatDoor.txt Go.Proofs.YtdikhdfpcipdbaaGreatDoor.fix Go.Proofs.YtdikhdfpcipdbaaGreatDoor.frm
open Go.Proofs.YtdikhdfpcipdbaaGreatDoor.tab (Ret quiet_w wpList_make_has add_off)
set_option linter.unusedVariables false

def mks (m n : Nat) : List Int := (List.range n).map fun (j : Nat) => ((m + j : Nat) : Int)
theorem mks_len (m n : Nat) : (mks m n).length = n := by simp [mks]
theorem mks_at {m n j : Nat} (h : j < n) : nth (mks m n) j = ((m + j : Nat) : Int) := by rw [nth_lt (by rw [mks_len]; exact h)]; simp [mks]

/-- The values lie in a block of numbers that is known whole. -/
def OwnV (w : World) (a : Option Addr) (vs : List Int) : Prop := vs = [] ∨ ∃ (g o : Nat) (cs : Array Value), a = some ⟨g, o, none⟩ ∧ Has w g 2 cs ∧ ∀ j, j < vs.length → cs[o + j]? = some (.int .i64 (nth vs j))
theorem OwnV.of {base : Nat} {w : World} {a : Option Addr} {vs : List Int} (h : Own base w a vs) : OwnV w a vs := by
  by_cases hv : vs = []
  · exact Or.inl hv
  · obtain ⟨g, o, cs, ha, hb, hc, hj⟩ := h
    exact Or.inr ⟨g, o, cs, ha hv, hc, hj⟩
theorem OwnV.ints {w : World} {a : Option Addr} {vs : List Int} (h : OwnV w a vs) : Ints w a vs := by
  rcases h with rfl | ⟨g, o, cs, rfl, hc, hj⟩
  · exact Ints.nil _ _
  · intro k hk
    refine ⟨_, rfl, hc.lt, ?_⟩
    rw [addo, hc.cell]; exact hj k hk
/-- The block of the values, where there are any. -/
def blkV (a : Option Addr) (vs : List Int) (b : Nat) : Prop := vs ≠ [] ∧ ∃ x : Addr, a = some x ∧ x.block = b
theorem Chg.ownV {S : Nat → Prop} {w w' : World} {a : Option Addr} {vs : List Int} (h : Chg S w w') (H : OwnV w a vs) (hn : ∀ b, blkV a vs b → ¬ S b) : OwnV w' a vs := by
  rcases H with rfl | ⟨g, o, cs, rfl, hc, hj⟩
  · exact Or.inl rfl
  · by_cases hv : vs = []
    · exact Or.inl hv
    · exact Or.inr ⟨g, o, cs, rfl, h.has hc (hn g ⟨hv, _, rfl, rfl⟩), hj⟩
theorem OwnV.lt {w : World} {a : Option Addr} {vs : List Int} (h : OwnV w a vs) {b : Nat} (hb : blkV a vs b) : b < w.heap.size := by
  obtain ⟨hne, x, rfl, rfl⟩ := hb
  rcases h with rfl | ⟨g, o, cs, e, hc, hj⟩
  · exact absurd rfl hne
  · injection e with e; subst e; exact hc.lt
/-- A block of something else is not the values'. -/
theorem OwnV.ne {w : World} {a : Option Addr} {vs : List Int} (h : OwnV w a vs) {g : Nat} {t : TypeId} {cs : Array Value} (H : Has w g t cs) (ht : t ≠ 2) : ¬ blkV a vs g := by
  rintro ⟨hne, x, rfl, rfl⟩
  rcases h with rfl | ⟨g, o, cs', e, hc, hj⟩
  · exact hne rfl
  · injection e with e
    subst e
    have h4 := H.symm.trans hc
    simp at h4
    exact ht h4.2

end Go.Proofs.YtdikhdfpcipdbaaGreatDoor.stm

