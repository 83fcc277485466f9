/- The walk of the law of small sums. -/
import Derived.Test.YtelmfhbapheegaaSums
import Derived.Deep.DeepCutAuto
namespace Go.Proofs.Ytelmfhbapheegaa.sums
open Go.ChangeShapes Go.WideShapes Go.ChangeAt Go.RowKit
open Go.Proofs.Ytelmfhbapheegaa.nums Go.Proofs.Ytelmfhbapheegaa.mem
set_option linter.unusedVariables false

set_option maxRecDepth 100000 in
set_option maxHeartbeats 4000000 in
theorem walk (a0 : Option Addr) (len0 cap0 : Nat) (w : World) (hb : cur.Bytes w w.heap.size a0 len0) :
    Calls Try.prog 3 #[.slice a0 len0 cap0] w fun e w' => e = .returned (.bool true) ∧ Below w.heap.size w w' := by
  by_cases hn : len0 ≤ 4096
  · have hd : decide (4096 < len0) = false := by simp; omega
    go_enter Try.func3, Try.ntmps3
    go_wp2_with (go_at_call 12; refine (cur.big _ _ _ _).mono ?_; rintro e w' ⟨rfl, rfl⟩)
    refine (cur.drawBetween a0 len0 cap0 _ hn hb).mono ?_
    rintro e w1 ⟨x, l, h, hx, hl, hh, rfl, g1⟩
    have hb1 := hb.below (Nat.le_refl _) (below_of_none g1)
    have hb1' := hb1.more g1.size
    go_wp2_with (go_at_call 14; refine (fix.implBetween _ _ _ _).mono ?_; rintro e w' ⟨rfl, rfl⟩)
    refine (cur.drawPlus a0 len0 cap0 _ hn hb1').mono ?_
    rintro e w2 ⟨a, b, ha, hbb, rfl, g2⟩
    have hb2 := (hb1'.below (Nat.le_refl _) (below_of_none g2)).more g2.size
    have g12 := gr_trans g1 g2
    clear g1 g2 hb1 hb1'
    go_wp2_with (first | (go_at_call 16; refine (fix.implPlus _ _ _).mono ?_; rintro e w' ⟨rfl, rfl⟩) | (go_at_call 17; refine (fix.implPart _ _ _ _).mono ?_; rintro e w' ⟨rfl, rfl⟩))
    refine (cur.drawToward a0 len0 cap0 _ hn hb2).mono ?_
    rintro e w3 ⟨y, tg, s, hy, hto, hs, rfl, g3⟩
    have g := below_of_none (gr_trans g12 g3)
    clear g12 g3 hb2 hb
    obtain ⟨s1, s2⟩ := hs
    have p1 := size_plus a b; have p2 := size_part x l h; have p3 := size_toward y tg s; have p4 := size_apart a b
    have p5 := apart_nonneg a b; have p6 := plus_comm a b; have p7 := apart_comm a b
    go_upto_region 13 with (first
      | (go_at_call 19; refine (fix.implToward _ _ _ _).mono ?_; rintro e w' ⟨rfl, rfl⟩)
      | (go_at_call 20; refine (fix.implApart _ _ _).mono ?_; rintro e w' ⟨rfl, rfl⟩)
      | (go_at_call 21; refine (fix.specBetween _ _ _ _).mono ?_; rintro e w' ⟨rfl, rfl⟩)
      | (go_at_call 16; refine (fix.implPlus _ _ _).mono ?_; rintro e w' ⟨rfl, rfl⟩)
      | (go_at_call 22; refine (fix.specPlus _ _ _).mono ?_; rintro e w' ⟨rfl, rfl⟩)
      | (go_at_call 23; refine (fix.specPart _ _ _ _).mono ?_; rintro e w' ⟨rfl, rfl⟩)
      | (go_at_call 24; refine (fix.specToward _ _ _ _ s1 s2).mono ?_; rintro e w' ⟨rfl, rfl⟩)
      | (go_at_call 25; refine (fix.specApart _ _ _).mono ?_; rintro e w' ⟨rfl, rfl⟩)
      | (go_at_call 27; refine (fix.specSizeOk _ _).mono ?_; rintro e w' ⟨rfl, rfl⟩)
      | (go_at_call 26; refine (fix.implSizeOk _ _).mono ?_; rintro e w' ⟨rfl, rfl⟩))
    go_cut [146] (fun v wx => v = .bool false ∧ w3 = wx)
    case first =>
      by_cases hlh : l ≤ h
      · have k1 := btw_ge x l h hlh
        have k2 := btw_le x l h
        go_wp2_with (first
          | (go_at_call 19; refine (fix.implToward _ _ _ _).mono ?_; rintro e w' ⟨rfl, rfl⟩)
          | (go_at_call 20; refine (fix.implApart _ _ _).mono ?_; rintro e w' ⟨rfl, rfl⟩)
          | (go_at_call 21; refine (fix.specBetween _ _ _ _).mono ?_; rintro e w' ⟨rfl, rfl⟩)
          | (go_at_call 16; refine (fix.implPlus _ _ _).mono ?_; rintro e w' ⟨rfl, rfl⟩)
          | (go_at_call 22; refine (fix.specPlus _ _ _).mono ?_; rintro e w' ⟨rfl, rfl⟩)
          | (go_at_call 23; refine (fix.specPart _ _ _ _).mono ?_; rintro e w' ⟨rfl, rfl⟩)
          | (go_at_call 24; refine (fix.specToward _ _ _ _ s1 s2).mono ?_; rintro e w' ⟨rfl, rfl⟩)
          | (go_at_call 25; refine (fix.specApart _ _ _).mono ?_; rintro e w' ⟨rfl, rfl⟩)
          | (go_at_call 27; refine (fix.specSizeOk _ _).mono ?_; rintro e w' ⟨rfl, rfl⟩)
          | (go_at_call 26; refine (fix.implSizeOk _ _).mono ?_; rintro e w' ⟨rfl, rfl⟩))
        all_goals go_meet
        all_goals exact ⟨congrArg Value.bool (by simp <;> omega), rfl⟩
      · go_wp2_with (first
          | (go_at_call 19; refine (fix.implToward _ _ _ _).mono ?_; rintro e w' ⟨rfl, rfl⟩)
          | (go_at_call 20; refine (fix.implApart _ _ _).mono ?_; rintro e w' ⟨rfl, rfl⟩)
          | (go_at_call 21; refine (fix.specBetween _ _ _ _).mono ?_; rintro e w' ⟨rfl, rfl⟩)
          | (go_at_call 16; refine (fix.implPlus _ _ _).mono ?_; rintro e w' ⟨rfl, rfl⟩)
          | (go_at_call 22; refine (fix.specPlus _ _ _).mono ?_; rintro e w' ⟨rfl, rfl⟩)
          | (go_at_call 23; refine (fix.specPart _ _ _ _).mono ?_; rintro e w' ⟨rfl, rfl⟩)
          | (go_at_call 24; refine (fix.specToward _ _ _ _ s1 s2).mono ?_; rintro e w' ⟨rfl, rfl⟩)
          | (go_at_call 25; refine (fix.specApart _ _ _).mono ?_; rintro e w' ⟨rfl, rfl⟩)
          | (go_at_call 27; refine (fix.specSizeOk _ _).mono ?_; rintro e w' ⟨rfl, rfl⟩)
          | (go_at_call 26; refine (fix.implSizeOk _ _).mono ?_; rintro e w' ⟨rfl, rfl⟩))
        all_goals go_meet
        all_goals exact ⟨congrArg Value.bool (by simp <;> omega), rfl⟩
    obtain ⟨rfl, rfl⟩ := hcut
    go_upto_region 15 with fail
    go_cut [165] (fun v wx => v = .bool false ∧ w3 = wx)
    case first =>
      have hq : inb a (-1000000) 1000000 = false ∨ (inb a (-1000000) 1000000 = true ∧ inb b (-1000000) 1000000 = false) ∨ (inb a (-1000000) 1000000 = true ∧ inb b (-1000000) 1000000 = true ∧ inb (a + b) (-1000000) 1000000 = false) ∨ (inb a (-1000000) 1000000 = true ∧ inb b (-1000000) 1000000 = true ∧ inb (a + b) (-1000000) 1000000 = true ∧ (kPlus a b != a + b) = false) := by
        by_cases u1 : inb a (-1000000) 1000000 = true
        · by_cases u2 : inb b (-1000000) 1000000 = true
          · by_cases u3 : inb (a + b) (-1000000) 1000000 = true
            · exact .inr (.inr (.inr ⟨u1, u2, u3, by simp [plus_same a b u1 u2 u3]⟩))
            · exact .inr (.inr (.inl ⟨u1, u2, by simpa using u3⟩))
          · exact .inr (.inl ⟨u1, by simpa using u2⟩)
        · exact .inl (by simpa using u1)
      have hz (u1 : inb a (-1000000) 1000000 = true) (u2 : inb b (-1000000) 1000000 = true) : (-1000000 ≤ a ∧ a ≤ 1000000) ∧ (-1000000 ≤ b ∧ b ≤ 1000000) := ⟨(inb_iff _ _ _).1 u1, (inb_iff _ _ _).1 u2⟩
      have HZ := Lib.hid hz; clear hz
      rcases hq with u1 | ⟨u1, u2⟩ | ⟨u1, u2, u3⟩ | ⟨u1, u2, u3, u4⟩
      · go_wp2_with (go_at_call 27; refine (fix.specSizeOk _ _).mono ?_; rintro e w' ⟨rfl, rfl⟩)
        go_meet
        exact ⟨rfl, rfl⟩
      · go_wp2_with (go_at_call 27; refine (fix.specSizeOk _ _).mono ?_; rintro e w' ⟨rfl, rfl⟩)
        go_meet
        exact ⟨rfl, rfl⟩
      · obtain ⟨⟨a1, a2⟩, b1, b2⟩ := HZ.out u1 u2
        go_wp2_with (go_at_call 27; refine (fix.specSizeOk _ _).mono ?_; rintro e w' ⟨rfl, rfl⟩)
        go_meet
        exact ⟨rfl, rfl⟩
      · obtain ⟨⟨a1, a2⟩, b1, b2⟩ := HZ.out u1 u2
        go_wp2_with (go_at_call 27; refine (fix.specSizeOk _ _).mono ?_; rintro e w' ⟨rfl, rfl⟩)
        go_meet
        exact ⟨rfl, rfl⟩
    case rest =>
      obtain ⟨rfl, rfl⟩ := hcut
      clear p1 p2 p4 p5 p6 p7
      by_cases u1 : inb y (-1000000) 1000000 = true
      · by_cases u2 : inb tg (-1000000) 1000000 = true
        · obtain ⟨y1, y2⟩ := (inb_iff _ _ _).1 u1
          obtain ⟨t1, t2⟩ := (inb_iff _ _ _).1 u2
          obtain ⟨k1, k2⟩ := (inb_iff _ _ _).1 p3
          by_cases hs : s < 0
          · have f1 : (kToward y tg s == y) = true := by simp [toward_still y tg s u1 hs]
            go_wp2_with (go_at_call 27; refine (fix.specSizeOk _ _).mono ?_; rintro e w' ⟨rfl, rfl⟩)
            all_goals go_ret
            all_goals exact ⟨by simp, g⟩
          · have f2 := toward_near y tg s u1 hs
            have f3 : kToward y tg s ≠ tg → kAbs (tg - kToward y tg s) = kAbs (tg - y) - s := toward_there y tg s u1 u2 hs
            have F3 := Lib.hid f3; clear f3
            have hs' : 0 ≤ s := by omega
            have hg1 : 0 ≤ kAbs (tg - y) := by unfold kAbs; split <;> omega
            have hg2 : kAbs (tg - y) ≤ 2000000 := by unfold kAbs; split <;> omega
            clear u1 u2 p3
            generalize kToward y tg s = T at *
            by_cases hT : T = tg
            · have f4 : (T == tg) = true := by simp [hT]
              clear hT F3
              go_wp2_with (first | (go_at_call 27; refine (fix.specSizeOk _ _).mono ?_; rintro e w' ⟨rfl, rfl⟩) | (go_at_call 28; refine (abs _ _ (by omega) (by omega)).mono ?_; rintro e w' ⟨rfl, rfl⟩))
              all_goals go_ret
              all_goals exact ⟨by simp, g⟩
            · have f4 : (T == tg) = false := by simp [hT]
              have f5 : (kAbs (tg - T) == kAbs (tg - y) - s) = true := by simp [F3.out hT]
              clear hT F3
              go_wp2_with (first | (go_at_call 27; refine (fix.specSizeOk _ _).mono ?_; rintro e w' ⟨rfl, rfl⟩) | (go_at_call 28; refine (abs _ _ (by omega) (by omega)).mono ?_; rintro e w' ⟨rfl, rfl⟩))
              all_goals go_ret
              all_goals exact ⟨by simp, g⟩
        · have v2 : inb tg (-1000000) 1000000 = false := by simpa using u2
          clear u2
          go_wp2_with (go_at_call 27; refine (fix.specSizeOk _ _).mono ?_; rintro e w' ⟨rfl, rfl⟩)
          all_goals go_ret
          all_goals exact ⟨by simp, g⟩
      · have v2 : inb y (-1000000) 1000000 = false := by simpa using u1
        clear u1
        go_wp2_with (go_at_call 27; refine (fix.specSizeOk _ _).mono ?_; rintro e w' ⟨rfl, rfl⟩)
        all_goals go_ret
        all_goals exact ⟨by simp, g⟩
  · have hd : decide (4096 < len0) = true := by simp; omega
    go_enter Try.func3, Try.ntmps3
    go_wp2_with (go_at_call 12; refine (cur.big _ _ _ _).mono ?_; rintro e w' ⟨rfl, rfl⟩)
    all_goals go_ret
    all_goals exact ⟨rfl, Below.refl _ _⟩
end Go.Proofs.Ytelmfhbapheegaa.sums
