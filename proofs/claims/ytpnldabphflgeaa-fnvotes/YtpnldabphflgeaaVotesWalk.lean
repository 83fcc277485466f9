/- The walk of the law of votes. -/
import Derived.Test.YtpnldabphflgeaaVtTwo
import Derived.Test.YtpnldabphflgeaaVtDraw2
import Derived.Test.YtpnldabphflgeaaPick
import Derived.Deep.DeepCutAuto
namespace Go.Proofs.Ytpnldabphflgeaa.vt
open Go.ChangeShapes Go.WideShapes Go.ChangeAt Go.RowKit
open Go.Proofs.Ytpnldabphflgeaa.nums Go.Proofs.Ytpnldabphflgeaa.mem Go.Proofs.Ytpnldabphflgeaa.cur Go.Proofs.Ytpnldabphflgeaa.rd
open Go.Proofs.Ytpnldabphflgeaa.tab (Ret quiet_w)
set_option linter.unusedVariables false

theorem half_in {x y a b : Int} (ha : x ≤ a ∧ a ≤ y) (hb : x ≤ b ∧ b ≤ y) : x ≤ (a + b).tdiv 2 ∧ (a + b).tdiv 2 ≤ y := by
  rcases Int.le_total 0 (a + b) with h | h
  · rw [Int.tdiv_eq_ediv_of_nonneg h]; omega
  · have e : (a + b).tdiv 2 = -((-(a + b)).tdiv 2) := by rw [Int.neg_tdiv, Int.neg_neg]
    rw [e, Int.tdiv_eq_ediv_of_nonneg (by omega)]; omega
theorem voters_or (l : List R) (many : Nat) (m : Int) : voters l many m = [] ∨ (l.length = many ∧ voters l many m = frv l m) := by
  unfold voters
  by_cases h : l.length = many ∧ l.all okR = true
  · rw [if_pos h]; exact .inr ⟨h.1, rfl⟩
  · rw [if_neg h]; exact .inl rfl
theorem vote_between {l : List R} {m v x y : Int} (h : voteThree l m = (v, true)) (hb : ∀ u ∈ frv l m, x ≤ u ∧ u ≤ y) : x ≤ v ∧ v ≤ y ∧ 2 ≤ (frv l m).length := by
  unfold voteThree at h
  have h3 := voters_length l 3 m
  rcases voters_or l 3 m with e | ⟨_, e⟩
  · rw [e] at h; simp [v3] at h
  · rw [e] at h h3
    rcases upto3 h3 with e | ⟨a, e⟩ | ⟨a, b, e⟩ | ⟨a, b, c, e⟩
    · rw [e] at h; simp [v3] at h
    · rw [e] at h; simp [v3] at h
    · rw [e] at h hb ⊢
      have ha := hb a (by simp)
      have hb := hb b (by simp)
      simp only [v3, Prod.mk.injEq, and_true] at h
      have := half_in ha hb
      rw [h] at this
      exact ⟨this.1, this.2, by simp⟩
    · rw [e] at h hb ⊢
      have h1 := hb a (by simp)
      have h2 := hb b (by simp)
      have h3 := hb c (by simp)
      simp only [v3, Prod.mk.injEq, and_true] at h
      refine ⟨?_, ?_, by simp⟩
      · rw [← h]; unfold mid; omega
      · rw [← h]; unfold mid; omega
theorem fine_two {l : List R} {m ap v : Int} (h : voteTwo l m ap = (v, true)) : l.length = 2 := by
  unfold voteTwo at h
  rcases voters_or l 2 m with e | ⟨hl, _⟩
  · rw [e] at h
    split at h
    · simp [v2] at h
    · simp at h
  · exact hl
theorem mid_turn (a b c : Int) : mid c a b = mid a b c := by unfold mid; omega
theorem mid_swap (a b c : Int) : mid b a c = mid a b c := by unfold mid; omega

/-- The least and the greatest of them so far. -/
def Span (L : List Int) (x y : Int) : Prop := ∀ u ∈ L, x ≤ u ∧ u ≤ y
theorem Span.nil (x y : Int) : Span [] x y := fun u hu => by simp at hu
theorem Span.snoc {L : List Int} {x y v x' y' : Int} (h : Span L x y) (hx : x' ≤ x) (hy : y ≤ y') (h1 : x' ≤ v) (h2 : v ≤ y') : Span (L ++ [v]) x' y' := fun u hu => by
  rcases List.mem_append.1 hu with hu | hu
  · have := h u hu; omega
  · have e : u = v := by simpa using hu
    subst e; exact ⟨h1, h2⟩
theorem span_one (v : Int) : Span [v] v v := fun u hu => by
  have e : u = v := by simpa using hu
  subst e; omega

set_option maxRecDepth 100000 in
set_option maxHeartbeats 2000000 in
theorem votes (b : Option Addr) (n c : Nat) (w : World) (hb : Bytes w w.heap.size b n) :
    Calls Try.prog 3 #[.slice b n c] w fun e w' => e = .returned (.bool true) ∧ Below w.heap.size w w' := by
  go_enter Try.func3, Try.ntmps3
  go_wp2_with fail
  refine (big b n c w).mono ?_
  rintro e w1 ⟨rfl, rfl⟩
  by_cases hbig : 4096 < n
  · have hd : decide (4096 < n) = true := by simp [hbig]
    go_wp2_with fail
    go_ret
    exact ⟨rfl, Below.refl _ _⟩
  · have hd : decide (4096 < n) = false := by simp [hbig]
    have hn : n ≤ 4096 := by omega
    go_wp2_with fail
    refine (drawVoteThree b n c _ hn hb).mono ?_
    rintro e w1 ⟨a1, c1, l, m, rfl, hl, g0, A⟩
    clear hd hbig
    obtain ⟨⟨v, s⟩, hV⟩ : ∃ r, voteThree l m = r := ⟨_, rfl⟩
    have cI : ∀ W, Arg W a1 l → Calls Try.prog 10 #[.slice a1 l.length c1, .int .i64 m] W (RetV (v, s) W) := fun W hA => hV ▸ implVoteThree a1 c1 l m W hA (by omega)
    have cS : ∀ W, Arg W a1 l → Calls Try.prog 15 #[.slice a1 l.length c1, .int .i64 m] W (RetV (v, s) W) := fun W hA => hV ▸ specVoteThree a1 c1 l m W hA (by omega)
    have HV : Hid (voteThree l m = (v, s)) := Lib.hid hV
    clear hV
    go_wp2_with fail
    refine (cI _ A).mono ?_
    rintro e w2 ⟨rfl, g2⟩
    replace A := A.kept g2
    replace g0 := gr_trans g0 g2
    clear g2 cI
    go_wp2_with fail
    refine (drawVoteTwo b n c _ hn (bytes_grown hb g0)).mono ?_
    rintro e w3 ⟨a2, c2, l2, m2, ap, rfl, hl2, g2, A2⟩
    replace A := A.kept g2
    replace g0 := gr_trans g0 g2
    clear g2
    obtain ⟨⟨v2', s2⟩, hV⟩ : ∃ r, voteTwo l2 m2 ap = r := ⟨_, rfl⟩
    have cI : ∀ W, Arg W a2 l2 → Calls Try.prog 12 #[.slice a2 l2.length c2, .int .i64 m2, .int .i64 ap] W (RetV (v2', s2) W) := fun W hA => hV ▸ implVoteTwo a2 c2 l2 m2 ap W hA (by omega)
    have cS2 : ∀ W, Arg W a2 l2 → Calls Try.prog 17 #[.slice a2 l2.length c2, .int .i64 m2, .int .i64 ap] W (RetV (v2', s2) W) := fun W hA => hV ▸ specVoteTwo a2 c2 l2 m2 ap W hA (by omega)
    have HV2 : Hid (voteTwo l2 m2 ap = (v2', s2)) := Lib.hid hV
    clear hV
    go_wp2_with fail
    refine (cI _ A2).mono ?_
    rintro e w4 ⟨rfl, g2⟩
    replace A := A.kept g2
    replace A2 := A2.kept g2
    replace g0 := gr_trans g0 g2
    clear g2 cI
    go_wp2_with fail
    refine (drawMiddle b n c _ hn (bytes_grown hb g0)).mono ?_
    rintro e w5 ⟨p, q, r, hp, hq, hr, rfl, g2⟩
    replace A := A.kept g2
    replace A2 := A2.kept g2
    replace g0 := gr_trans g0 g2
    clear g2 hb
    obtain ⟨M, hM⟩ : ∃ M, mid p q r = M := ⟨_, rfl⟩
    have cM : ∀ W, Calls Try.prog 14 #[.int .i64 p, .int .i64 q, .int .i64 r] W (Ret (.int .i64 M) W) := fun W => hM ▸ implMiddle p q r W
    have cMs : ∀ W, Calls Try.prog 16 #[.int .i64 p, .int .i64 q, .int .i64 r] W fun e w' => e = .returned (.int .i64 M) ∧ W = w' := fun W => hM ▸ specMiddle p q r W
    have cM1 : ∀ W, Calls Try.prog 14 #[.int .i64 r, .int .i64 p, .int .i64 q] W (Ret (.int .i64 M) W) := fun W => by have := implMiddle r p q W; rwa [mid_turn, hM] at this
    have cM2 : ∀ W, Calls Try.prog 14 #[.int .i64 q, .int .i64 p, .int .i64 r] W (Ret (.int .i64 M) W) := fun W => by have := implMiddle q p r W; rwa [mid_swap, hM] at this
    have HM : Hid ((p ≤ M ∨ q ≤ M) ∧ (M ≤ p ∨ M ≤ q)) := Lib.hid (by rw [← hM]; unfold mid; omega)
    clear hM hp hq hr
    go_wp2_with fail
    refine (cM _).mono ?_
    rintro e w6 ⟨rfl, g2⟩
    replace A := A.kept g2
    replace A2 := A2.kept g2
    replace g0 := gr_trans g0 g2
    clear g2 cM
    go_wp2_with fail
    refine (cS _ A).mono ?_
    rintro e w7 ⟨rfl, g2⟩
    replace A := A.kept g2
    replace A2 := A2.kept g2
    replace g0 := gr_trans g0 g2
    clear g2 cS
    go_wp2_with (go_at_call 16; refine (cMs _).mono ?_; rintro e w8 ⟨rfl, rfl⟩)
    refine (cS2 _ A2).mono ?_
    rintro e w8 ⟨rfl, g2⟩
    replace A := A.kept g2
    replace g0 := gr_trans g0 g2
    clear g2 cS2 A2 cMs
    go_wp2_with fail
    go_loopw [20, 21, 22, 23] (fun lo hi so i wr => ∃ (k j : Nat) (x y : Int) (L : List Int), k ≤ l.length ∧ i = .int .i64 k ∧ lo = .int .i64 x ∧ hi = .int .i64 y ∧ so = .int .i64 (j : Int) ∧ j ≤ k ∧ Hid (L.length = j) ∧ Hid (L = frv (l.take k) m) ∧ Hid (Span L x y) ∧ w.grownBy wr none ∧ Arg wr a1 l) (fun _ _ _ i _ => l.length - (intOf i).toNat)
    case atStart => exact ⟨0, 0, _, _, [], Nat.zero_le _, rfl, rfl, rfl, rfl, Nat.le_refl _, Lib.hid rfl, Lib.hid rfl, Lib.hid (Span.nil _ _), g0, A⟩
    case round =>
      clear g0 A
      obtain ⟨k, j, x, y, L, hk, rfl, rfl, rfl, rfl, hLk, hJ, hL, hS, g0, A⟩ := hrel
      by_cases hlt : k < l.length
      · obtain ⟨d, rfl, hb, cx, cy, cz⟩ := A k hlt
        obtain ⟨u, hu⟩ : ∃ u, rx l k = u := ⟨_, rfl⟩
        obtain ⟨f, hf⟩ : ∃ f, fresh (rx l k, ra l k, ro l k) m = f := ⟨_, rfl⟩
        have cF : ∀ W, Calls Try.prog 18 #[.agg #[.int .i64 u, .int .i64 (ra l k), .bool (ro l k)], .int .i64 m] W (Ret (.bool f) W) := fun W => hu ▸ hf ▸ specIsFresh (rx l k) (ra l k) m (ro l k) W
        have HF := Lib.hid hf
        have HU := Lib.hid hu
        rw [hu] at cx
        clear hf hu
        go_wp2_with fail
        refine (cF _).mono ?_
        rintro e w9 ⟨rfl, g2⟩
        replace g0 := gr_trans g0 g2
        replace A := A.kept g2
        clear g2 cF cx cy cz
        obtain ⟨d', e', hb', cx, cy, cz⟩ := A k hlt
        injection e' with e'
        subst e'
        rw [HU.out] at cx
        clear cy cz hb'
        cases f
        · go_wp2_with fail
          go_roundw
          case rel => exact ⟨k + 1, j, x, y, L, by omega, by go_num, rfl, rfl, rfl, by omega, hJ, Lib.hid (by rw [frv_no hlt HF.out]; exact hL.out), hS, g0, A⟩
          case measure => simp [intOf]; omega
        · have HN : Hid (L ++ [u] = frv (l.take (k + 1)) m) := Lib.hid (by rw [frv_yes hlt HF.out, hL.out, HU.out])
          have HJ : Hid ((L ++ [u]).length = j + 1) := Lib.hid (by have := hJ.out; simp; exact this)
          by_cases h0 : j = 0
          · subst h0
            obtain rfl := List.length_eq_zero_iff.1 hJ.out
            go_wp2_with fail
            go_roundw
            case rel => exact ⟨k + 1, 1, u, u, [] ++ [u], by omega, by go_num, rfl, rfl, rfl, by omega, HJ, HN, Lib.hid (span_one u), g0, A⟩
            case measure => simp [intOf]; omega
          · have hd : decide ((j : Int) = 0) = false := by simp [h0]
            by_cases h1 : u < x
            · have d1 : decide (u < x) = true := by simp [h1]
              by_cases h2 : y < u
              · exfalso
                obtain ⟨z, hz⟩ := List.exists_mem_of_length_pos (show 0 < L.length by have := hJ.out; omega)
                have := hS.out z hz
                omega
              · have d2 : decide (y < u) = false := by simp [h2]
                go_wp2_with fail
                go_roundw
                case rel => exact ⟨k + 1, j + 1, u, y, L ++ [u], by omega, by go_num, rfl, rfl, by go_num, by omega, HJ, HN, Lib.hid (hS.out.snoc (by omega) (by omega) (by omega) (by omega)), g0, A⟩
                case measure => simp [intOf]; omega
            · have d1 : decide (u < x) = false := by simp [h1]
              by_cases h2 : y < u
              · have d2 : decide (y < u) = true := by simp [h2]
                go_wp2_with fail
                go_roundw
                case rel => exact ⟨k + 1, j + 1, x, u, L ++ [u], by omega, by go_num, rfl, rfl, by go_num, by omega, HJ, HN, Lib.hid (hS.out.snoc (by omega) (by omega) (by omega) (by omega)), g0, A⟩
                case measure => simp [intOf]; omega
              · have d2 : decide (y < u) = false := by simp [h2]
                go_wp2_with fail
                go_roundw
                case rel => exact ⟨k + 1, j + 1, x, y, L ++ [u], by omega, by go_num, rfl, rfl, by go_num, by omega, HJ, HN, Lib.hid (hS.out.snoc (by omega) (by omega) (by omega) (by omega)), g0, A⟩
                case measure => simp [intOf]; omega
      · obtain rfl : k = l.length := by omega
        have HL : Hid (L = frv l m) := Lib.hid (by rw [hL.out, List.take_of_length_le (Nat.le_refl _)])
        clear hL
        have HD : Hid (s = true → x ≤ v ∧ v ≤ y ∧ 2 ≤ j) := Lib.hid (fun e => by
          subst e
          rw [← hJ.out, HL.out]
          exact vote_between HV.out (by rw [← HL.out]; exact hS.out))
        clear HL HV hS hJ
        have HT : Hid (s2 = true → l2.length = 2) := Lib.hid (fun e => by subst e; exact fine_two HV2.out)
        clear HV2
        obtain ⟨hM1, hM2⟩ := HM.out
        clear HM
        go_upto_region 27 with fail
        go_cut [158] (fun c wx => c = .bool false ∧ wr = wx)
        case first =>
          cases s
          · go_wp2_with fail
            go_meet
            exact ⟨rfl, rfl⟩
          · obtain ⟨z1, z2, z3⟩ := HD.out rfl
            have d1 : decide (v < x) = false := by simp; omega
            have d2 : decide (y < v) = false := by simp; omega
            have d3 : decide ((j : Int) < 2) = false := by simp; omega
            go_wp2_with fail
            go_meet
            exact ⟨rfl, rfl⟩
        case rest =>
          obtain ⟨rfl, rfl⟩ := hcut
          clear HD
          cases s2
          · clear HT
            by_cases k1 : p ≤ M
            · have e1 : decide (p ≤ M) = true := by simp [k1]
              by_cases k2 : M ≤ p
              · have e2 : decide (M ≤ p) = true := by simp [k2]
                go_wp2_with fail
                refine (cM1 _).mono ?_
                rintro e w10 ⟨rfl, g2⟩
                go_wp2_with fail
                refine (cM2 _).mono ?_
                rintro e w11 ⟨rfl, g3⟩
                go_wp2_with fail
                go_ret
                exact ⟨rfl, below_of_none (gr_trans (gr_trans g0 g2) g3)⟩
              · have e2 : decide (M ≤ p) = false := by simp [k2]
                have e2b : decide (M ≤ q) = true := by simp; omega
                go_wp2_with fail
                refine (cM1 _).mono ?_
                rintro e w10 ⟨rfl, g2⟩
                go_wp2_with fail
                refine (cM2 _).mono ?_
                rintro e w11 ⟨rfl, g3⟩
                go_wp2_with fail
                go_ret
                exact ⟨rfl, below_of_none (gr_trans (gr_trans g0 g2) g3)⟩
            · have e1 : decide (p ≤ M) = false := by simp [k1]
              have e1b : decide (q ≤ M) = true := by simp; omega
              by_cases k2 : M ≤ p
              · have e2 : decide (M ≤ p) = true := by simp [k2]
                go_wp2_with fail
                refine (cM1 _).mono ?_
                rintro e w10 ⟨rfl, g2⟩
                go_wp2_with fail
                refine (cM2 _).mono ?_
                rintro e w11 ⟨rfl, g3⟩
                go_wp2_with fail
                go_ret
                exact ⟨rfl, below_of_none (gr_trans (gr_trans g0 g2) g3)⟩
              · have e2 : decide (M ≤ p) = false := by simp [k2]
                have e2b : decide (M ≤ q) = true := by simp; omega
                go_wp2_with fail
                refine (cM1 _).mono ?_
                rintro e w10 ⟨rfl, g2⟩
                go_wp2_with fail
                refine (cM2 _).mono ?_
                rintro e w11 ⟨rfl, g3⟩
                go_wp2_with fail
                go_ret
                exact ⟨rfl, below_of_none (gr_trans (gr_trans g0 g2) g3)⟩
          · have hl22 : l2.length = 2 := HT.out rfl
            clear HT
            by_cases k1 : p ≤ M
            · have e1 : decide (p ≤ M) = true := by simp [k1]
              by_cases k2 : M ≤ p
              · have e2 : decide (M ≤ p) = true := by simp [k2]
                go_wp2_with fail
                refine (cM1 _).mono ?_
                rintro e w10 ⟨rfl, g2⟩
                go_wp2_with fail
                refine (cM2 _).mono ?_
                rintro e w11 ⟨rfl, g3⟩
                go_wp2_with fail
                go_ret
                exact ⟨rfl, below_of_none (gr_trans (gr_trans g0 g2) g3)⟩
              · have e2 : decide (M ≤ p) = false := by simp [k2]
                have e2b : decide (M ≤ q) = true := by simp; omega
                go_wp2_with fail
                refine (cM1 _).mono ?_
                rintro e w10 ⟨rfl, g2⟩
                go_wp2_with fail
                refine (cM2 _).mono ?_
                rintro e w11 ⟨rfl, g3⟩
                go_wp2_with fail
                go_ret
                exact ⟨rfl, below_of_none (gr_trans (gr_trans g0 g2) g3)⟩
            · have e1 : decide (p ≤ M) = false := by simp [k1]
              have e1b : decide (q ≤ M) = true := by simp; omega
              by_cases k2 : M ≤ p
              · have e2 : decide (M ≤ p) = true := by simp [k2]
                go_wp2_with fail
                refine (cM1 _).mono ?_
                rintro e w10 ⟨rfl, g2⟩
                go_wp2_with fail
                refine (cM2 _).mono ?_
                rintro e w11 ⟨rfl, g3⟩
                go_wp2_with fail
                go_ret
                exact ⟨rfl, below_of_none (gr_trans (gr_trans g0 g2) g3)⟩
              · have e2 : decide (M ≤ p) = false := by simp [k2]
                have e2b : decide (M ≤ q) = true := by simp; omega
                go_wp2_with fail
                refine (cM1 _).mono ?_
                rintro e w10 ⟨rfl, g2⟩
                go_wp2_with fail
                refine (cM2 _).mono ?_
                rintro e w11 ⟨rfl, g3⟩
                go_wp2_with fail
                go_ret
                exact ⟨rfl, below_of_none (gr_trans (gr_trans g0 g2) g3)⟩
end Go.Proofs.Ytpnldabphflgeaa.vt
