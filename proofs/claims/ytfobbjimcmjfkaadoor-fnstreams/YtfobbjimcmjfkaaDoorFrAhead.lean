/- frameAhead: kindOf, labels and gotos, numbers gathered in a row of its own. -/
import Derived.Test.YtfobbjimcmjfkaaDoorFrNum
import Derived.StillTailTactics
namespace Go.Proofs.YtfobbjimcmjfkaaDoor.frm
open Go.ChangeShapes Go.WideShapes Go.ChangeAt Go.RowKit
open Go.Proofs.YtfobbjimcmjfkaaDoor.nums Go.Proofs.YtfobbjimcmjfkaaDoor.mem Go.Proofs.YtfobbjimcmjfkaaDoor.txt Go.Proofs.YtfobbjimcmjfkaaDoor.fix
open Go.Proofs.YtfobbjimcmjfkaaDoor.tab (Ret quiet_w wpList_make_has)
set_option linter.unusedVariables false

/-- The kind of a letter; 0 of another byte. -/
def kindL (c : UInt8) : Int := 1 + Lib.indexByte [83, 72, 70, 80] c
theorem idx_bd (c : UInt8) : -1 ≤ Lib.indexByte [83, 72, 70, 80] c ∧ Lib.indexByte [83, 72, 70, 80] c ≤ 3 := by
  simp only [Lib.indexByte]
  repeat' split
  all_goals simp_all
theorem kindL_letter {k : Int} (h1 : 1 ≤ k) (h2 : k ≤ 4) : kindL (letter k) = k := by
  have hk : k = 1 ∨ k = 2 ∨ k = 3 ∨ k = 4 := by omega
  rcases hk with rfl | rfl | rfl | rfl <;> decide +kernel

set_option maxRecDepth 100000 in
theorem implKindOf (c : UInt8) (w : World) : Calls Tryd.prog 77 #[.int .u8 (c.toNat : Int)] w fun e w' => e = .returned (.int .i64 (kindL c)) ∧ w = w' := by
  have hc := Tryd.strings_IndexByte (ByteArray.mk #[83, 72, 70, 80]) (c.toNat : Int) w
  have hb := idx_bd c
  rw [show ((c.toNat : Int).toNat.toUInt8) = c by simp, show (ByteArray.mk #[83, 72, 70, 80]).data.toList = [83, 72, 70, 80] from rfl] at hc
  unfold kindL
  generalize Lib.indexByte [83, 72, 70, 80] c = I at *
  go_enter Tryd.func77, Tryd.ntmps77
  go_wp2_with fail
  refine hc.mono ?_
  rintro e w1 ⟨rfl, rfl⟩
  go_wp2_with fail
  go_ret
  exact ⟨rfl, rfl⟩

/-- No frame's text begins so. -/
def NotFrame (l : List UInt8) : Prop := ∀ x ns t, (∀ n ∈ ns, -1000000000 < n ∧ n < 1000000000) → ns ≠ [] → l ≠ x :: (blanks ns ++ 32 :: 42 :: t)
/-- Of a frame's text acc is read, r is left. -/
def Reads (l : List UInt8) (acc : List Int) (r : List UInt8) : Prop :=
  ∀ x ns t, (∀ n ∈ ns, -1000000000 < n ∧ n < 1000000000) → l = x :: (blanks ns ++ 32 :: 42 :: t) → ∃ ms, ns = acc ++ ms ∧ r = blanks ms ++ 32 :: 42 :: t
theorem Reads.start (x : UInt8) (l : List UInt8) : Reads (x :: l) [] l := fun y ns t _ e => ⟨ns, rfl, by simp only [List.cons.injEq] at e; exact e.2⟩
theorem Reads.noBlank {l : List UInt8} {acc : List Int} {r : List UInt8} (h : Reads l acc r) (hb : byt r 0 ≠ 32) : NotFrame l := by
  intro x ns t hs _ e
  obtain ⟨ms, _, hr⟩ := h x ns t hs e
  apply hb
  cases ms with
  | nil => rw [hr]; simp [byt, blanks]
  | cons m ms => rw [hr, blanks_cons]; simp [byt]
theorem itoa_star (m : Int) (t : List UInt8) : byt (Lib.itoa m ++ t) 0 ≠ 42 := by
  obtain ⟨c, r, hc, hd⟩ := itoa_head m
  rw [hc]
  simp only [byt, List.cons_append, List.getD_cons_zero]
  rintro rfl
  rcases hd with hd | hd <;> simp [isD] at hd
theorem Reads.star {l : List UInt8} {acc : List Int} {r : List UInt8} (h : Reads l acc r) (hb : byt (r.drop 1) 0 = 42) : ∀ x ns t, (∀ n ∈ ns, -1000000000 < n ∧ n < 1000000000) → l = x :: (blanks ns ++ 32 :: 42 :: t) → ns = acc := by
  intro x ns t hs e
  obtain ⟨ms, hn, hr⟩ := h x ns t hs e
  cases ms with
  | nil => simpa using hn
  | cons m ms =>
    rw [hr, blanks_cons] at hb
    simp only [List.cons_append, List.drop_succ_cons, List.drop_zero, List.append_assoc] at hb
    exact absurd hb (itoa_star m _)
theorem Reads.tail {l : List UInt8} {acc : List Int} {r : List UInt8} (h : Reads l acc r) (hb : byt (r.drop 1) 0 ≠ 42) {x : UInt8} {ns : List Int} {t : List UInt8} (hs : ∀ n ∈ ns, -1000000000 < n ∧ n < 1000000000) (e : l = x :: (blanks ns ++ 32 :: 42 :: t)) :
    ∃ m ms, ns = acc ++ m :: ms ∧ numF (r.drop 1) = some (m, blanks ms ++ 32 :: 42 :: t) := by
  obtain ⟨ms, hn, hr⟩ := h x ns t hs e
  cases ms with
  | nil => rw [hr] at hb; simp [blanks, byt] at hb
  | cons m ms =>
    have hm := hs m (by rw [hn]; simp)
    refine ⟨m, ms, hn, ?_⟩
    rw [hr, blanks_cons]
    simp only [List.cons_append, List.drop_succ_cons, List.drop_zero, List.append_assoc]
    exact numF_itoa m _ (blanks_stop ms t) hm.1 hm.2
theorem Reads.bad {l : List UInt8} {acc : List Int} {r : List UInt8} (h : Reads l acc r) (hb : byt (r.drop 1) 0 ≠ 42) (hn : numF (r.drop 1) = none) : NotFrame l := by
  intro x ns t hs _ e
  obtain ⟨m, ms, _, h2⟩ := h.tail hb hs e
  rw [hn] at h2; cases h2
theorem Reads.next {l : List UInt8} {acc : List Int} {r : List UInt8} (h : Reads l acc r) (hb : byt (r.drop 1) 0 ≠ 42) {n : Int} {r' : List UInt8} (hn : numF (r.drop 1) = some (n, r')) : Reads l (acc ++ [n]) r' := by
  intro x ns t hs e
  obtain ⟨m, ms, h1, h2⟩ := h.tail hb hs e
  rw [hn] at h2
  simp only [Option.some.injEq, Prod.mk.injEq] at h2
  obtain ⟨rfl, rfl⟩ := h2
  exact ⟨ms, by simpa using h1, rfl⟩

/-- The world in the midst of frameAhead: the result's cells are new and empty. -/
def Mid (w w' : World) : Prop := w.grownBy w' none ∧ Has w' w.heap.size 37 #[.int .i64 0, .int .i64 0, .slice none 0 0]
theorem Mid.start (w : World) : Mid w (w.alloc (Obj.cells #[.int .i64 0, .int .i64 0, .slice none 0 0] 37)) := ⟨World.grownBy_alloc _ _ _, Has.fresh _ _ _⟩
theorem Mid.grown {w w' w'' : World} (h : Mid w w') (hg : w'.grownBy w'' none) : Mid w w'' := ⟨gr_trans h.1 hg, h.2.grown hg (by simp)⟩
theorem Mid.own {w w' w'' : World} {e : TypeId} {size n : Nat} {v : Value} {xs : List Value} (h : Mid w w') (ho : w'.ownsRow (w.heap.size + 1) e size v n xs) (hg : w'.grownBy w'' v.ownBlock) : Mid w w'' := by
  cases hb : v.ownBlock with
  | none => rw [hb] at hg; exact h.grown hg
  | some q =>
    have hq := (ho.lt q hb).1
    rw [hb] at hg
    exact ⟨gr_past h.1 hg (by omega), h.2.grown hg (fun e => by injection e with e; omega)⟩
theorem own_ne_none (v : Value) : v.ownBlock = none ∨ v.ownBlock ≠ none := Decidable.em _
theorem hown1_base {w w' : World} (h : Mid w w') : w.heap.size + 1 ≤ w'.heap.size := h.2.lt

/-- What holds at each label: 0 at no frame, 1 at a blank, 2 at the star. -/
def AheadJ (l : List UInt8) (w : World) : Nat → Act → World → Prop
  | 0, a, w' => Mid w w' ∧ ∃ (u4 u5 u6 u7 u8 u9 u10 u11 u12 u13 u14 u15 u16 u17 u18 u19 u20 u21 u22 u23 u24 u25 u26 u27 u28 u29 u30 u31 u32 u33 u34 u35 u36 u37 u38 u39 u40 u41 u42 u43 u44 : Value), a = { tmps := #[str l, undef, .pointer (some ⟨w.heap.size, 0, none⟩), .bool false, u4, u5, u6, u7, u8, u9, u10, u11, u12, u13, u14, u15, u16, u17, u18, u19, u20, u21, u22, u23, u24, u25, u26, u27, u28, u29, u30, u31, u32, u33, u34, u35, u36, u37, u38, u39, u40, u41, u42, u43, u44], defers := [] } ∧ Hid (NotFrame l)
  | 1, a, w' => Mid w w' ∧ ∃ (ao : Option Addr) (cap : Nat) (acc : List Int) (r : List UInt8) (u5 u7 u8 u9 u10 u11 u12 u13 u14 u15 u16 u17 u18 u19 u20 u21 u22 u23 u24 u25 u26 u27 u28 u29 u30 u31 u32 u33 u34 u35 u36 u37 u38 u39 u40 u41 u42 u43 u44 : Value), a = { tmps := #[str l, undef, .pointer (some ⟨w.heap.size, 0, none⟩), .bool false, .slice ao acc.length cap, u5, str r, u7, u8, u9, u10, u11, u12, u13, u14, u15, u16, u17, u18, u19, u20, u21, u22, u23, u24, u25, u26, u27, u28, u29, u30, u31, u32, u33, u34, u35, u36, u37, u38, u39, u40, u41, u42, u43, u44], defers := [] } ∧ w'.ownsRow (w.heap.size + 1) 2 1 (.slice ao acc.length cap) acc.length (vals acc) ∧ Hid (Reads l acc r) ∧ r.length + acc.length ≤ l.length ∧ l ≠ []
  | 2, a, w' => Mid w w' ∧ ∃ (ao : Option Addr) (cap : Nat) (acc : List Int) (u5 u6 u7 u8 u9 u10 u11 u12 u13 u14 u15 u16 u17 u18 u19 u20 u21 u22 u23 u24 u25 u26 u27 u28 u29 u30 u31 u32 u33 u34 u35 u36 u37 u38 u39 u40 u41 u42 u43 u44 : Value), a = { tmps := #[str l, undef, .pointer (some ⟨w.heap.size, 0, none⟩), .bool false, .slice ao acc.length cap, u5, u6, u7, u8, u9, u10, u11, u12, u13, u14, u15, u16, u17, u18, u19, u20, u21, u22, u23, u24, u25, u26, u27, u28, u29, u30, u31, u32, u33, u34, u35, u36, u37, u38, u39, u40, u41, u42, u43, u44], defers := [] } ∧ w'.ownsRow (w.heap.size + 1) 2 1 (.slice ao acc.length cap) acc.length (vals acc) ∧ Hid (∀ x ns t, (∀ n ∈ ns, -1000000000 < n ∧ n < 1000000000) → l = x :: (blanks ns ++ 32 :: 42 :: t) → ns = acc) ∧ acc.length ≤ l.length ∧ l ≠ []
  | _, _, _ => False

/-- The numbers vs lie in new memory that may be written. -/
def Own (base : Nat) (w : World) (a : Option Addr) (vs : List Int) : Prop := ∃ (g o : Nat) (cs : Array Value), (vs ≠ [] → a = some ⟨g, o, none⟩) ∧ base ≤ g ∧ Has w g 2 cs ∧ ∀ j, j < vs.length → cs[o + j]? = some (.int .i64 (nth vs j))
theorem Own.ints {base : Nat} {w : World} {a : Option Addr} {vs : List Int} (h : Own base w a vs) : Ints w a vs := by
  obtain ⟨g, o, cs, ha, _, hc, hj⟩ := h
  intro k hk
  refine ⟨_, ha (fun e => by rw [e] at hk; simp at hk), hc.lt, ?_⟩
  rw [addo, hc.cell]; exact hj k hk
/-- What frameAhead answers: no frame's text; or what the frame must be, if it is one's. -/
def Ahead (l : List UInt8) (w : World) (e : Ending) (w' : World) : Prop := w.grownBy w' none ∧
  ((e = .returned (.tuple #[fr 0 0 none 0 0, .bool false]) ∧ NotFrame l) ∨
   ∃ (k sq : Int) (a : Option Addr) (cap : Nat) (vs : List Int), e = .returned (.tuple #[fr k sq a vs.length cap, .bool true]) ∧ l ≠ [] ∧ vs.length ≤ l.length ∧ Own w.heap.size w' a vs ∧
     ∀ x ns t, (∀ n ∈ ns, -1000000000 < n ∧ n < 1000000000) → l = x :: (blanks ns ++ 32 :: 42 :: t) → ns = sq :: vs ∧ k = kindL x)

set_option maxRecDepth 100000 in
set_option maxHeartbeats 4000000 in
theorem implAhead (l : List UInt8) (w : World) (hl : l.length ≤ 1048576) : Calls Tryd.prog 60 #[str l] w (Ahead l w) := by
  obtain ⟨i0, hi, hz0, hz1, hz2⟩ := info_parts infoInt
  go_enter Tryd.func60, Tryd.ntmps60
  go_wp2_with fail
  have hst := Mid.start w
  generalize w.alloc (Obj.cells #[.int .i64 0, .int .i64 0, .slice none 0 0] 37) = w0 at *
  refine wp_scope_labels (AheadJ l w) (fun t a _ => if t = 1 then (strOf (a.tmps.getD 6 undef)).length + 2 else if t = 2 then 1 else 0) ?_ ?_
  · cases l with
    | nil =>
      have hF : Hid (NotFrame []) := Lib.hid (fun x ns t _ _ e => by cases e)
      go_wp2_with fail
      go_step3
      exact ⟨hst, _, _, _, _, _, _, _, _, _, _, _, _, _, _, _, _, _, _, _, _, _, _, _, _, _, _, _, _, _, _, _, _, _, _, _, _, _, _, _, _, _, rfl, hF⟩
    | cons x r =>
      have hdr0 : (ByteArray.mk (x :: r).toArray).extract 1 (r.length + 1) = ByteArray.mk r.toArray := str_drop (x :: r) 1
      have hR := Lib.hid (Reads.start x r)
      have hne : x :: r ≠ [] := by simp
      have hown : w0.ownsRow (w.heap.size + 1) 2 1 (.slice none ([] : List Int).length 0) ([] : List Int).length (vals []) := World.ownsRow_nil _ _ _ _
      have hlen : r.length + ([] : List Int).length ≤ (x :: r).length := by simp
      simp only [List.length_cons] at hl
      generalize hll : x :: r = l at *
      have hz : (l == ([] : List UInt8)) = false := by rw [← hll]; rfl
      have hl1 : l.length = r.length + 1 := by rw [← hll]; rfl
      have hl2 : (1 : Int) ≤ l.length := by omega
      clear hll
      go_wp2_with fail
      go_step3
      clear hz hdr0 hl2
      have hB := fun W => implByteAt r 0 W (by unfold maxLen; omega) (Nat.zero_le _)
      by_cases h32 : byt r 0 = 32
      · have hB : ∀ W, Calls Tryd.prog 75 #[str r, .int .i64 0] W fun e w' => e = .returned (.int .u8 32) ∧ W = w' := fun W => by
          have := hB W
          rw [h32] at this; exact this
        have hr1 : 1 ≤ r.length := Nat.one_le_iff_ne_zero.2 (fun e => by rw [byt_ge r 0 (by omega)] at h32; exact absurd h32 (by decide))
        have hdr := str_drop r 1
        have hB2 := fun W => implByteAt (r.drop 1) 0 W (by unfold maxLen; simp; omega) (Nat.zero_le _)
        have hd1 : (r.drop 1).length ≤ r.length := by simp
        by_cases h42 : byt (r.drop 1) 0 = 42
        · have hB2 : ∀ W, Calls Tryd.prog 75 #[str (r.drop 1), .int .i64 0] W fun e w' => e = .returned (.int .u8 42) ∧ W = w' := fun W => by
            have := hB2 W
            rw [h42] at this; exact this
          have hS := Lib.hid (hR.out.star h42)
          clear h32 h42 hR
          generalize r.drop 1 = R1 at *
          go_wp2_with fail
          refine (hB _).mono ?_
          rintro e w1 ⟨rfl, rfl⟩
          go_wp2_with fail
          refine (hB2 _).mono ?_
          rintro e w1 ⟨rfl, rfl⟩
          go_wp2_with fail
          go_step3
          exact ⟨hst, none, 0, [], _, _, _, _, _, _, _, _, _, _, _, _, _, _, _, _, _, _, _, _, _, _, _, _, _, _, _, _, _, _, _, _, _, _, _, _, _, _, _, _, rfl, hown, hS, by omega, hne⟩
        · have hn42 : (((byt (r.drop 1) 0).toNat : Int) == 42) = false := by
            rw [beq_eq_false_iff_ne]
            intro e
            exact h42 (UInt8.toNat.inj (by have : (42 : UInt8).toNat = 42 := rfl; omega))
          have hN := fun W => implNum (r.drop 1) W (by unfold maxLen; simp; omega)
          cases hnum : numF (r.drop 1) with
          | none =>
            rw [hnum] at hN
            have hF := Lib.hid (hR.out.bad h42 hnum)
            clear hnum h32 h42 hR
            generalize r.drop 1 = R1 at *
            go_wp2_with fail
            refine (hB _).mono ?_
            rintro e w1 ⟨rfl, rfl⟩
            go_wp2_with fail
            refine (hB2 _).mono ?_
            rintro e w1 ⟨rfl, rfl⟩
            go_wp2_with fail
            refine (hN _).mono ?_
            rintro e w1 ⟨rfl, hg1⟩
            unfold numV
            go_wp2_with fail
            go_step3
            exact ⟨hst.grown hg1, _, _, _, _, _, _, _, _, _, _, _, _, _, _, _, _, _, _, _, _, _, _, _, _, _, _, _, _, _, _, _, _, _, _, _, _, _, _, _, _, _, rfl, hF⟩
          | some p =>
            obtain ⟨n, r'⟩ := p
            rw [hnum] at hN
            have hR2 := Lib.hid (hR.out.next h42 hnum)
            have hsh := numF_short hnum
            rw [List.length_drop] at hsh
            clear hnum h32 h42 hR
            generalize r.drop 1 = R1 at *
            go_wp2_with fail
            refine (hB _).mono ?_
            rintro e w1 ⟨rfl, rfl⟩
            go_wp2_with fail
            refine (hB2 _).mono ?_
            rintro e w1 ⟨rfl, rfl⟩
            go_wp2_with fail
            refine (hN _).mono ?_
            rintro e w1 ⟨rfl, hg1⟩
            have hown1 := hown.kept hg1 (own_ne_none _)
            have hst1 := hst.grown hg1
            have hsz1 := hown1_base hst1
            clear hg1
            unfold numV
            go_wp2_with (at_builtin; go_must (refine wpList_append_lies _ rfl _ _ _ rfl (w.heap.size + 1) 2 i0 _ 1 8 Tryd.underlying35 hi hz0 hz1 hz2 rfl (by omega) (.slice none ([] : List Int).length 0) ([] : List Int).length (vals []) rfl (hown1.alloc _) ⟨w1.heap.size, 0, none⟩ 1 1 [.int .i64 n] rfl rfl (World.news_of_block (cs := #[.int .i64 n]) (t := 2) (fr := (0, 0)) (heap_alloc_new w1 _)) (by simp [Value.oneCell']) (by omega) (by unfold maxLen; omega) (by omega) (by simp; omega) (w1.heap.size + 1) (by simp) ?_); intro gg cap1 w2 hown2 hgrow hat hlt)
            have hst2 := (hst1.grown (World.grownBy_alloc _ _ _)).own (hown1.alloc _) hgrow
            go_step3
            have hln : r'.length + ([n]).length ≤ l.length := by simp; omega
            exact ⟨hst2, some ⟨gg, 0, none⟩, cap1, [n], r', _, _, _, _, _, _, _, _, _, _, _, _, _, _, _, _, _, _, _, _, _, _, _, _, _, _, _, _, _, _, _, _, _, _, _, _, _, _, _, rfl, hown2, hR2, hln, hne⟩
      · have hn32 : (((byt r 0).toNat : Int) != 32) = true := by
          rw [bne_iff_ne]
          intro e
          exact h32 (UInt8.toNat.inj (by have : (32 : UInt8).toNat = 32 := rfl; omega))
        have hF := Lib.hid (hR.out.noBlank h32)
        clear h32 hR
        go_wp2_with fail
        refine (hB _).mono ?_
        rintro e w1 ⟨rfl, rfl⟩
        go_wp2_with fail
        go_step3
        exact ⟨hst, _, _, _, _, _, _, _, _, _, _, _, _, _, _, _, _, _, _, _, _, _, _, _, _, _, _, _, _, _, _, _, _, _, _, _, _, _, _, _, _, _, rfl, hF⟩
  · intro t a' w' hJ
    match t with
    | 0 =>
      obtain ⟨hst, u4, u5, u6, u7, u8, u9, u10, u11, u12, u13, u14, u15, u16, u17, u18, u19, u20, u21, u22, u23, u24, u25, u26, u27, u28, u29, u30, u31, u32, u33, u34, u35, u36, u37, u38, u39, u40, u41, u42, u43, u44, rfl, hF⟩ := hJ
      refine ⟨_, rfl, ?_⟩
      obtain ⟨p0, p1, p2, q0, q1, q2⟩ := three hst.2
      go_wp2_with fail
      simp only [jumps]
      obtain ⟨r0, r1, r2, _, _, _⟩ := three (set3 hst.2 (.int .i64 0) (.int .i64 0) (.slice none 0 0))
      exact bodyPost_ret (v := .tuple #[fr 0 0 none 0 0, .bool false]) (by simp [results, Tryd.results60, go_sem, r0, r1, r2]) rfl ⟨gr_new (gr_new (gr_new hst.1 (Nat.le_refl _) _ _) (Nat.le_refl _) _ _) (Nat.le_refl _) _ _, Or.inl ⟨rfl, hF.out⟩⟩
    | 1 =>
      obtain ⟨hst, ao, cap, acc, r, u5, u7, u8, u9, u10, u11, u12, u13, u14, u15, u16, u17, u18, u19, u20, u21, u22, u23, u24, u25, u26, u27, u28, u29, u30, u31, u32, u33, u34, u35, u36, u37, u38, u39, u40, u41, u42, u43, u44, rfl, hown, hR, hlen, hne⟩ := hJ
      refine ⟨_, rfl, ?_⟩
      have hB := fun W => implByteAt r 0 W (by unfold maxLen; omega) (Nat.zero_le _)
      by_cases h32 : byt r 0 = 32
      · have hB : ∀ W, Calls Tryd.prog 75 #[str r, .int .i64 0] W fun e w' => e = .returned (.int .u8 32) ∧ W = w' := fun W => by
          have := hB W
          rw [h32] at this; exact this
        have hr1 : 1 ≤ r.length := Nat.one_le_iff_ne_zero.2 (fun e => by rw [byt_ge r 0 (by omega)] at h32; exact absurd h32 (by decide))
        have hdr := str_drop r 1
        have hB2 := fun W => implByteAt (r.drop 1) 0 W (by unfold maxLen; simp; omega) (Nat.zero_le _)
        have hd1 : (r.drop 1).length ≤ r.length := by simp
        by_cases h42 : byt (r.drop 1) 0 = 42
        · have hB2 : ∀ W, Calls Tryd.prog 75 #[str (r.drop 1), .int .i64 0] W fun e w' => e = .returned (.int .u8 42) ∧ W = w' := fun W => by
            have := hB2 W
            rw [h42] at this; exact this
          have hS := Lib.hid (hR.out.star h42)
          clear h32 h42 hR
          generalize r.drop 1 = R1 at *
          go_wp2_with fail
          refine (hB _).mono ?_
          rintro e w1 ⟨rfl, rfl⟩
          go_wp2_with fail
          refine (hB2 _).mono ?_
          rintro e w1 ⟨rfl, rfl⟩
          go_wp2_with fail
          go_step3
          refine ⟨⟨hst, ao, cap, acc, _, _, _, _, _, _, _, _, _, _, _, _, _, _, _, _, _, _, _, _, _, _, _, _, _, _, _, _, _, _, _, _, _, _, _, _, _, _, _, _, rfl, hown, hS, by omega, hne⟩, ?_⟩
          simp [strOf]
        · have hn42 : (((byt (r.drop 1) 0).toNat : Int) == 42) = false := by
            rw [beq_eq_false_iff_ne]
            intro e
            exact h42 (UInt8.toNat.inj (by have : (42 : UInt8).toNat = 42 := rfl; omega))
          have hN := fun W => implNum (r.drop 1) W (by unfold maxLen; simp; omega)
          cases hnum : numF (r.drop 1) with
          | none =>
            rw [hnum] at hN
            have hF := Lib.hid (hR.out.bad h42 hnum)
            clear hnum h32 h42 hR
            generalize r.drop 1 = R1 at *
            go_wp2_with fail
            refine (hB _).mono ?_
            rintro e w1 ⟨rfl, rfl⟩
            go_wp2_with fail
            refine (hB2 _).mono ?_
            rintro e w1 ⟨rfl, rfl⟩
            go_wp2_with fail
            refine (hN _).mono ?_
            rintro e w1 ⟨rfl, hg1⟩
            unfold numV
            go_wp2_with fail
            go_step3
            refine ⟨⟨hst.grown hg1, _, _, _, _, _, _, _, _, _, _, _, _, _, _, _, _, _, _, _, _, _, _, _, _, _, _, _, _, _, _, _, _, _, _, _, _, _, _, _, _, _, rfl, hF⟩, ?_⟩
            simp [strOf]
          | some p =>
            obtain ⟨n, r'⟩ := p
            rw [hnum] at hN
            have hR2 := Lib.hid (hR.out.next h42 hnum)
            have hsh := numF_short hnum
            rw [List.length_drop] at hsh
            clear hnum h32 h42 hR
            generalize r.drop 1 = R1 at *
            go_wp2_with fail
            refine (hB _).mono ?_
            rintro e w1 ⟨rfl, rfl⟩
            go_wp2_with fail
            refine (hB2 _).mono ?_
            rintro e w1 ⟨rfl, rfl⟩
            go_wp2_with fail
            refine (hN _).mono ?_
            rintro e w1 ⟨rfl, hg1⟩
            have hown1 := hown.kept hg1 (own_ne_none _)
            have hst1 := hst.grown hg1
            have hsz1 := hown1_base hst1
            clear hg1
            unfold numV
            go_wp2_with (at_builtin; go_must (refine wpList_append_lies _ rfl _ _ _ rfl (w.heap.size + 1) 2 i0 _ 1 8 Tryd.underlying35 hi hz0 hz1 hz2 rfl (by omega) (.slice ao acc.length cap) acc.length (vals acc) rfl (hown1.alloc _) ⟨w1.heap.size, 0, none⟩ 1 1 [.int .i64 n] rfl rfl (World.news_of_block (cs := #[.int .i64 n]) (t := 2) (fr := (0, 0)) (heap_alloc_new w1 _)) (by simp [Value.oneCell']) (by omega) (by unfold maxLen; omega) (by omega) (by simp; omega) (w1.heap.size + 1) (by simp) ?_); intro gg cap1 w2 hown2 hgrow hat hlt)
            have hst2 := (hst1.grown (World.grownBy_alloc _ _ _)).own (hown1.alloc _) hgrow
            go_step3
            have hel : acc.length + 1 = (acc ++ [n]).length := by simp
            have hln : r'.length + (acc ++ [n]).length ≤ l.length := by simp; omega
            rw [hel] at hown2 ⊢
            rw [show vals acc ++ [Value.int .i64 n] = vals (acc ++ [n]) by simp [vals]] at hown2
            refine ⟨⟨hst2, some ⟨gg, 0, none⟩, cap1, acc ++ [n], r', _, _, _, _, _, _, _, _, _, _, _, _, _, _, _, _, _, _, _, _, _, _, _, _, _, _, _, _, _, _, _, _, _, _, _, _, _, _, _, rfl, hown2, hR2, hln, hne⟩, ?_⟩
            simp [strOf]; omega
      · have hn32 : (((byt r 0).toNat : Int) != 32) = true := by
          rw [bne_iff_ne]
          intro e
          exact h32 (UInt8.toNat.inj (by have : (32 : UInt8).toNat = 32 := rfl; omega))
        have hF := Lib.hid (hR.out.noBlank h32)
        clear h32 hR
        go_wp2_with fail
        refine (hB _).mono ?_
        rintro e w1 ⟨rfl, rfl⟩
        go_wp2_with fail
        go_step3
        refine ⟨⟨hst, _, _, _, _, _, _, _, _, _, _, _, _, _, _, _, _, _, _, _, _, _, _, _, _, _, _, _, _, _, _, _, _, _, _, _, _, _, _, _, _, _, rfl, hF⟩, ?_⟩
        simp [strOf]
    | 2 =>
      obtain ⟨hst, ao, cap, acc, u5, u6, u7, u8, u9, u10, u11, u12, u13, u14, u15, u16, u17, u18, u19, u20, u21, u22, u23, u24, u25, u26, u27, u28, u29, u30, u31, u32, u33, u34, u35, u36, u37, u38, u39, u40, u41, u42, u43, u44, rfl, hown, hS, hlen, hne⟩ := hJ
      refine ⟨_, rfl, ?_⟩
      obtain ⟨p0, p1, p2, q0, q1, q2⟩ := three hst.2
      cases acc with
      | nil =>
        have hF : NotFrame l := fun x ns t hs hn e => hn (hS.out x ns t hs e)
        have HF := Lib.hid hF
        clear hF
        go_wp2_with fail
        go_step3
        go_wp2_with fail
        simp only [jumps]
        obtain ⟨r0, r1, r2, _, _, _⟩ := three (set3 hst.2 (.int .i64 0) (.int .i64 0) (.slice none 0 0))
        exact bodyPost_ret (v := .tuple #[fr 0 0 none 0 0, .bool false]) (by simp [results, Tryd.results60, go_sem, r0, r1, r2]) rfl ⟨gr_new (gr_new (gr_new hst.1 (Nat.le_refl _) _ _) (Nat.le_refl _) _ _) (Nat.le_refl _) _ _, Or.inl ⟨rfl, HF.out⟩⟩
      | cons sq vs =>
        rcases hown.2 with ⟨hv0, _⟩ | ⟨g, cap', cur, hv, hbg, hcur, hnc, hcm, hcs, htk⟩
        · simp at hv0
        · have hg : Has w' g 2 cur := hcur
          simp only [Value.slice.injEq] at hv
          obtain ⟨rfl, _, rfl⟩ := hv
          have hcells := hown.cells (g := g) rfl
          have c0 := hcells 0 (.int .i64 sq) rfl
          rw [add0] at c0
          have hx0 : 0 < l.length := List.length_pos_iff.2 hne
          have hat := at_byt l
          have hK := fun W => implKindOf (byt l 0) W
          have hvl : (sq :: vs).length = vs.length + 1 := rfl
          rw [hvl] at hlen hnc ⊢
          clear hvl
          have hb1 : (1 : Int) ≤ (vs.length : Int) + 1 := by omega
          have hgne : w.heap.size ≠ g := by omega
          have hown' : ∀ j, j < vs.length → cur[1 + j]? = some (.int .i64 (nth vs j)) := fun j hj => by
            have h1 : (cur.toList.take ((sq :: vs).length * 1))[1 + j]? = (vals (sq :: vs))[1 + j]? := by rw [htk]
            rw [List.getElem?_take, if_pos (by simp; omega)] at h1
            rw [← Array.getElem?_toList, h1, nth_lt hj]
            simp [Nat.add_comm 1 j, hj]
          by_cases hc1 : cap = 1
          · subst hc1
            obtain rfl : vs = [] := List.length_eq_zero_iff.1 (by omega)
            go_wp2_with fail
            go_region_held3 (fun W => W.cell? ⟨g, 0, none⟩ = some (.int .i64 sq)) (first | go_keep)
              (first | (go_at_call 77; refine (hK _).mono ?_; rintro e v1 ⟨rfl, rfl⟩))
            go_wp2_with fail
            simp only [jumps]
            obtain ⟨r0, r1, r2, _, _, _⟩ := three (set3 hst.2 (.int .i64 (kindL (byt l 0))) (.int .i64 sq) (.slice (some ⟨g, 0, none⟩) 0 0))
            refine bodyPost_ret (v := .tuple #[fr (kindL (byt l 0)) sq (some ⟨g, 0, none⟩) ([] : List Int).length 0, .bool true]) (by simp [results, Tryd.results60, go_sem, r0, r1, r2]) rfl ⟨gr_drewN (gr_new (gr_new (gr_new hst.1 (Nat.le_refl _) _ _) (Nat.le_refl _) _ _) (Nat.le_refl _) _ _) 1, Or.inr ⟨_, _, _, _, _, rfl, hne, by simp, ?_, ?_⟩⟩
            · exact ⟨g, 1, cur, fun h => absurd rfl h, by omega, (has_other (has_other (has_other hg hgne.symm _ _) hgne.symm _ _) hgne.symm _ _).drewN 1, hown'⟩
            · intro x ns t hs e
              exact ⟨hS.out x ns t hs e, by rw [e]; rfl⟩
          · have hc2 : ¬ (1 = cap) := fun e => hc1 e.symm
            go_wp2_with fail
            go_region_held3 (fun W => W.cell? ⟨g, 0, none⟩ = some (.int .i64 sq)) (first | go_keep)
              (first | (go_at_call 77; refine (hK _).mono ?_; rintro e v1 ⟨rfl, rfl⟩))
            go_wp2_with fail
            simp only [jumps]
            obtain ⟨r0, r1, r2, _, _, _⟩ := three (set3 hst.2 (.int .i64 (kindL (byt l 0))) (.int .i64 sq) (.slice (some ⟨g, 1, none⟩) vs.length (cap - 1)))
            refine bodyPost_ret (v := .tuple #[fr (kindL (byt l 0)) sq (some ⟨g, 1, none⟩) vs.length (cap - 1), .bool true]) (by simp [results, Tryd.results60, go_sem, r0, r1, r2]) rfl ⟨gr_drewN (gr_new (gr_new (gr_new hst.1 (Nat.le_refl _) _ _) (Nat.le_refl _) _ _) (Nat.le_refl _) _ _) 1, Or.inr ⟨_, _, _, _, _, rfl, hne, by omega, ?_, ?_⟩⟩
            · exact ⟨g, 1, cur, fun h => rfl, by omega, (has_other (has_other (has_other hg hgne.symm _ _) hgne.symm _ _) hgne.symm _ _).drewN 1, hown'⟩
            · intro x ns t hs e
              exact ⟨hS.out x ns t hs e, by rw [e]; rfl⟩
    | _ + 3 => exact hJ.elim
end Go.Proofs.YtfobbjimcmjfkaaDoor.frm
