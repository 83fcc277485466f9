/- The walk of the law of what is shared. -/
import Derived.Test.YtekglhikojondaaDoorShSpec
import Derived.Test.YtekglhikojondaaDoorShDraw2
import Derived.Test.YtekglhikojondaaDoorShLaid
import Derived.Test.YtekglhikojondaaDoorPick
namespace Go.Proofs.YtekglhikojondaaDoor.sh
open Go.ChangeShapes Go.WideShapes Go.ChangeAt Go.RowKit
open Go.Proofs.YtekglhikojondaaDoor.nums Go.Proofs.YtekglhikojondaaDoor.mem Go.Proofs.YtekglhikojondaaDoor.cur
open Go.Proofs.YtekglhikojondaaDoor.tab (Ret)
open Go.Proofs.YtekglhikojondaaDoor.il (nth Own RetI blk)
set_option linter.unusedVariables false

theorem has_in {c l r p : Int} (hr : -100 ≤ r ∧ r ≤ 100) (hp : -100 ≤ p ∧ p ≤ 100) {k : Nat} (hk : k < 6) : 0 ≤ has c (cutL (on c) l r p) r p k ∧ has c (cutL (on c) l r p) r p k ≤ 1000 := by
  have ht := top_in (S := on c) (t := turn r p) (B := 400) (by omega) (fun k hk => turn_in hr hp hk)
  have h1 := pt_le (S := on c) (t := turn r p) hk
  unfold has
  split
  · rename_i ho
    unfold pt at h1
    rw [if_pos ho] at h1
    unfold cutL btw; omega
  · omega
theorem has_off {c L r p : Int} {k : Nat} (h : on c k = false) : has c L r p k = 0 := by unfold has; rw [h]; rfl
theorem shared_len {c l r p : Int} (h : (cas.caseOk c && okD l r p) = true) : (shared c l r p).length = 6 := by rw [shared_yes h]; unfold shared6; simp
theorem shared_at {c l r p : Int} (h : (cas.caseOk c && okD l r p) = true) {k : Nat} (hk : k < 6) : nth (shared c l r p) k = has c (cutL (on c) l (btw r (-100) 100) (btw p (-100) 100)) (btw r (-100) 100) (btw p (-100) 100) k := by
  rw [shared_yes h]; exact map6 hk
theorem shared_ok {c l r p : Int} (h : (cas.caseOk c && okD l r p) = true) {k : Nat} (hk : k < 6) : (0 ≤ nth (shared c l r p) k ∧ nth (shared c l r p) k ≤ 1000) ∧ (on c k = false → nth (shared c l r p) k = 0) := by
  rw [shared_at h hk]
  exact ⟨has_in (btw_in (by omega)) (btw_in (by omega)) hk, has_off⟩
theorem shared_okL {c l r p : Int} (h : (cas.caseOk c && okD l r p) = true) : okL (shared c l r p) = true := by
  unfold okL
  simp only [Bool.and_eq_true, decide_eq_true_eq]
  refine ⟨shared_len h, all_of fun j hj => ?_⟩
  rw [shared_len h] at hj
  have := (shared_ok h hj).1
  unfold okO inb; simp; exact this
theorem cutL_id {c l r p : Int} (hr : -100 ≤ r ∧ r ≤ 100) (hp : -100 ≤ p ∧ p ≤ 100) (hl : 400 ≤ l ∧ l ≤ 600) : cutL (on c) l r p = l := by
  have ht := top_in (S := on c) (t := turn r p) (B := 400) (by omega) (fun k hk => turn_in hr hp hk)
  unfold cutL btw; omega
theorem btw_id {x : Int} (h : -100 ≤ x ∧ x ≤ 100) : btw x (-100) 100 = x := by unfold btw; omega
/-- Where nothing is Between: what is Reached is what was wished for. -/
theorem wished {c l r p : Int} (h : (cas.caseOk c && okD l r p) = true) (hr : -100 ≤ r ∧ r ≤ 100) (hp : -100 ≤ p ∧ p ≤ 100) (hl : 400 ≤ l ∧ l ≤ 600) :
    reL (shared c l r p) = (cnt6 (on c) : Int) * l ∧ reR (shared c l r p) = sumOn (on c) rr * r + sumOn (on c) rp * p ∧ reP (shared c l r p) = sumOn (on c) rp * r + sumOn (on c) pp * p := by
  obtain ⟨e1, e2, e3⟩ := re_yes (shared_okL h)
  have ha : ∀ j, j < 6 → nth (shared c l r p) j = has c l r p j := fun j hj => by
    rw [shared_at h hj, btw_id hr, btw_id hp, cutL_id hr hp hl]
  have hc : cas.caseOk c = true := by simp only [Bool.and_eq_true] at h; exact h.1
  rw [e1, e2, e3]
  simp only [psum, gL, gR, gP]
  rw [ha 0 (by omega), ha 1 (by omega), ha 2 (by omega), ha 3 (by omega), ha 4 (by omega), ha 5 (by omega)]
  clear ha e1 e2 e3 h
  rcases eight hc with rfl | rfl | rfl | rfl | rfl | rfl | rfl | rfl <;> simp [has, on, cas.staysOn, cas.across, turn, tR, tP, cnt6, sumOn, st, rr, rp, pp] <;> omega

theorem eff_in (c : Int) : (0 ≤ (cnt6 (on c) : Int) ∧ (cnt6 (on c) : Int) ≤ 6) ∧ (-24 ≤ sumOn (on c) rr ∧ sumOn (on c) rr ≤ 24) ∧ (-24 ≤ sumOn (on c) rp ∧ sumOn (on c) rp ≤ 24) ∧ (-24 ≤ sumOn (on c) pp ∧ sumOn (on c) pp ≤ 24) := by
  have h1 := sum_in (S := on c) (g := rr) (B := 4) (by omega) (fun j hj => rr_in hj)
  have h2 := sum_in (S := on c) (g := rp) (B := 4) (by omega) (fun j hj => rp_in hj)
  have h3 := sum_in (S := on c) (g := pp) (B := 4) (by omega) (fun j hj => pp_in hj)
  refine ⟨⟨by omega, ?_⟩, by omega, by omega, by omega⟩
  have : cnt6 (on c) ≤ 6 := by unfold cnt6; split <;> split <;> split <;> split <;> split <;> split <;> omega
  omega

set_option maxRecDepth 100000 in
set_option maxHeartbeats 8000000 in
theorem sharedLaw (b : Option Addr) (n c : Nat) (w : World) (hb : Bytes w w.heap.size b n) (hv : Wts w) :
    Calls Tryd.prog 3 #[.slice b n c] w fun e w' => e = .returned (.bool true) ∧ Below w.heap.size w w' := by
  by_cases hbig : 4096 < n
  · have hd : decide (4096 < n) = true := by simp [hbig]
    go_enter Tryd.func3, Tryd.ntmps3
    go_wp2_with fail
    refine (big b n c w).mono ?_
    rintro e w1 ⟨rfl, rfl⟩
    go_wp2_with fail
    go_ret
    exact ⟨rfl, Below.refl _ _⟩
  · have hd : decide (4096 < n) = false := by simp [hbig]
    have hn : n ≤ 4096 := by omega
    go_enter Tryd.func3, Tryd.ntmps3
    go_wp2_with fail
    refine (big b n c w).mono ?_
    rintro e w1 ⟨rfl, rfl⟩
    go_wp2_with fail
    refine (drawShared b n c _ hn hb).mono ?_
    rintro e w1 ⟨k, l, r, p, ⟨hk0, hk1⟩, iL, iR, iP, rfl, g0⟩
    clear hd hbig
    obtain ⟨S, hS⟩ : ∃ S, S = shared k l r p := ⟨_, rfl⟩
    obtain ⟨E, hE⟩ : ∃ E, E = effect k := ⟨_, rfl⟩
    have cSi : ∀ W, Wts W → Calls Tryd.prog 11 #[.int .i64 k, dem l r p] W (RetI S W) := fun W hW => by rw [hS]; exact implShared k l r p W hW
    have cSs : ∀ W, Calls Tryd.prog 14 #[.int .i64 k, dem l r p] W (RetI S W) := fun W => by rw [hS]; exact specShared k l r p W
    have cEi : ∀ W, Wts W → Calls Tryd.prog 12 #[.int .i64 k] W (RetI E W) := fun W hW => by rw [hE]; exact implEffectOf k W hW
    have cEs : ∀ W, Calls Tryd.prog 15 #[.int .i64 k] W (RetI E W) := fun W => by rw [hE]; exact specEffectOf k W
    have hS6 : S.length ≤ 6 := by
      rw [hS]; unfold shared; split
      · unfold shared6; simp
      · exact Nat.zero_le _
    have hE4 : E.length ≤ 4 := by
      rw [hE]; unfold effect; split
      · exact Nat.le_refl _
      · exact Nat.zero_le _
    replace hS := Lib.hid hS
    replace hE := Lib.hid hE
    have a0 := Has.fresh w1 25 #[.int .i64 l, .int .i64 r, .int .i64 p]
    replace g0 := gr_alloc g0 (Obj.cells #[.int .i64 l, .int .i64 r, .int .i64 p] 25)
    go_upto_region 4 with fail
    generalize w1.alloc (Obj.cells #[.int .i64 l, .int .i64 r, .int .i64 p] 25) = w2 at *
    generalize w1.heap.size = bp at *
    obtain ⟨c0, c1, c2, _, _, _⟩ := three a0
    go_wp2_with fail
    refine (cSi _ (hv.kept g0)).mono ?_
    rintro e w3 ⟨aS, kS, rfl, g3, oS, _⟩
    replace a0 := a0.grown g3 (by simp)
    replace g0 := gr_trans g0 g3
    clear g3 cSi c0 c1 c2
    go_wp2_with fail
    refine (cEi _ (hv.kept g0)).mono ?_
    rintro e w4 ⟨aE, kE, rfl, g4, oE, _⟩
    replace a0 := a0.grown g4 (by simp)
    replace oS := oS.kept g4
    replace g0 := gr_trans g0 g4
    clear g4 cEi
    obtain ⟨c0, c1, c2, _, _, _⟩ := three a0
    go_wp2_with fail
    refine (cSs _).mono ?_
    rintro e w5 ⟨aT, kT, rfl, g5, oT, _⟩
    replace a0 := a0.grown g5 (by simp)
    replace oS := oS.kept g5
    replace oE := oE.kept g5
    replace g0 := gr_trans g0 g5
    clear g5 cSs c0 c1 c2
    go_wp2_with fail
    refine (il.likeInts _ _ _ _ _ _ oS.ints oT.ints (by omega)).mono ?_
    rintro e w6 ⟨rfl, g6⟩
    replace a0 := a0.grown g6 (by simp)
    replace oS := oS.kept g6
    replace oE := oE.kept g6
    replace g0 := gr_trans g0 g6
    clear g6 oT
    go_wp2_with fail
    refine (cEs _).mono ?_
    rintro e w7 ⟨aT, kT, rfl, g7, oT, _⟩
    replace a0 := a0.grown g7 (by simp)
    replace oS := oS.kept g7
    replace oE := oE.kept g7
    replace g0 := gr_trans g0 g7
    clear g7 cEs
    go_wp2_with fail
    refine (il.likeInts _ _ _ _ _ _ oE.ints oT.ints (by omega)).mono ?_
    rintro e w8 ⟨rfl, g8⟩
    replace a0 := a0.grown g8 (by simp)
    replace oS := oS.kept g8
    replace oE := oE.kept g8
    replace g0 := gr_trans g0 g8
    clear g8 oT
    have cC := cas.specCaseOk k
    have cL := fix.specSizeOk l
    have cR := fix.specSizeOk r
    have cP := fix.specSizeOk p
    obtain ⟨x, hx⟩ : ∃ x, cas.caseOk k = x := ⟨_, rfl⟩
    obtain ⟨y, hy⟩ : ∃ y, okD l r p = y := ⟨_, rfl⟩
    rw [hx] at cC
    cases x
    · have hS0 : S = [] := by rw [hS.out, shared_no (by rw [hx]; rfl)]
      subst hS0
      clear hx hy
      go_wp2_with fail
      refine (cC _).mono ?_
      rintro e w' ⟨rfl, rfl⟩
      go_wp2_with fail
      go_ret
      exact ⟨rfl, below_of_none g0⟩
    cases y
    · have hS0 : S = [] := by rw [hS.out, shared_no (by rw [hx, hy]; rfl)]
      subst hS0
      unfold okD at hy
      clear hx
      obtain ⟨c0, c1, c2, _, _, _⟩ := three a0
      generalize inb l (-1000000) 1000000 = v0 at *
      generalize inb r (-1000000) 1000000 = v1 at *
      generalize inb p (-1000000) 1000000 = v2 at *
      go_wp2_with fail
      refine (cC _).mono ?_
      rintro e w' ⟨rfl, rfl⟩
      go_wp2_with fail
      refine (cL _).mono ?_
      rintro e w' ⟨rfl, rfl⟩
      cases v0
      · go_wp2_with fail
        go_ret
        exact ⟨rfl, below_of_none g0⟩
      · go_wp2_with fail
        refine (cR _).mono ?_
        rintro e w' ⟨rfl, rfl⟩
        cases v1
        · go_wp2_with fail
          go_ret
          exact ⟨rfl, below_of_none g0⟩
        · go_wp2_with fail
          refine (cP _).mono ?_
          rintro e w' ⟨rfl, rfl⟩
          obtain rfl : v2 = false := by simpa using hy
          go_wp2_with fail
          go_ret
          exact ⟨rfl, below_of_none g0⟩
    · have hok : (cas.caseOk k && okD l r p) = true := by rw [hx, hy]; rfl
      have hlen : S.length = 6 := by rw [hS.out]; exact shared_len hok
      have hlz : ((S.length : Int) == 0) = false := by rw [beq_eq_false_iff_ne]; omega
      have hlz2 : ¬ ((S.length : Int) = 0) := by omega
      have HL := Lib.hid hlen
      have hat := Lib.hid (fun j (hj : j < 6) => by rw [hS.out]; exact shared_ok hok hj : ∀ j, j < 6 → (0 ≤ nth S j ∧ nth S j ≤ 1000) ∧ (on k j = false → nth S j = 0))
      clear cC cL cR cP hx hy hlen
      have hsz : (-1000000 ≤ l ∧ l ≤ 1000000) ∧ (-1000000 ≤ r ∧ r ≤ 1000000) ∧ (-1000000 ≤ p ∧ p ≤ 1000000) := by
        simp only [Bool.and_eq_true] at hok
        have := hok.2
        unfold okD inb at this
        simp at this
        omega
      obtain ⟨hsl, hsr, hsp⟩ := hsz
      have HK := Lib.hid hok
      clear hok iL iR iP
      have hIS := oS.ints
      go_wp2_with fail
      go_loopw [7] (fun i wr => w8 = wr ∧ ∃ j : Nat, j ≤ 6 ∧ i = .int .i64 (j : Int)) (fun i _ => 6 - (intOf i).toNat)
      case atStart => exact ⟨rfl, 0, Nat.zero_le _, rfl⟩
      case round =>
        obtain ⟨rfl, j, hj, rfl⟩ := hrel
        by_cases hlt : j < 6
        · have hd : decide ((j : Int) < 6) = true := by simp; omega
          have hjl : j < S.length := by have := HL.out; omega
          obtain ⟨x, rfl, _, cx⟩ := hIS j hjl
          obtain ⟨⟨v0, v1⟩, hoff⟩ := hat.out j hlt
          by_cases hv0 : 0 < nth S j
          · have ho : on k j = true := by
              cases ho : on k j
              · have := hoff ho; omega
              · rfl
            have cO : ∀ W, Calls Tryd.prog 18 #[.int .i64 k, .int .i64 (j : Int)] W fun e w' => e = .returned (.bool true) ∧ W = w' := fun W => ho ▸ cas.specStaysOn k j W
            clear hoff ho
            generalize nth S j = v at *
            go_wp2_with (go_at_call 18; refine (cO _).mono ?_; rintro e w' ⟨rfl, rfl⟩)
            go_roundw
            case rel => exact ⟨trivial, j + 1, by omega, by go_num⟩
            case measure => simp [intOf]; omega
          · clear hoff
            generalize nth S j = v at *
            go_wp2_with fail
            go_roundw
            case rel => exact ⟨trivial, j + 1, by omega, by go_num⟩
            case measure => simp [intOf]; omega
        · obtain rfl : j = 6 := by omega
          have sR := lawSize r
          have sP := lawSize p
          obtain ⟨c0, c1, c2, _, _, _⟩ := three a0
          by_cases h1 : 100 < max r (-r)
          · clear hat HK hsl
            generalize max r (-r) = mr at *
            go_wp2_with fail
            refine (sR _ (by omega)).mono ?_
            rintro e w' ⟨rfl, rfl⟩
            go_wp2_with fail
            go_ret
            exact ⟨rfl, below_of_none g0⟩
          have h1' : -100 ≤ r ∧ r ≤ 100 := by omega
          by_cases h2 : 100 < max p (-p)
          · clear hat HK hsl h1'
            generalize max r (-r) = mr at *
            generalize max p (-p) = mp at *
            go_wp2_with fail
            refine (sR _ (by omega)).mono ?_
            rintro e w' ⟨rfl, rfl⟩
            go_wp2_with fail
            refine (sP _ (by omega)).mono ?_
            rintro e w' ⟨rfl, rfl⟩
            go_wp2_with fail
            go_ret
            exact ⟨rfl, below_of_none g0⟩
          have h2' : -100 ≤ p ∧ p ≤ 100 := by omega
          have hll : l < 400 ∨ (400 ≤ l ∧ 600 < l) ∨ (400 ≤ l ∧ l ≤ 600) := by omega
          rcases hll with hll | ⟨hl1, hl2⟩ | ⟨hl1, hl2⟩
          · clear hat HK hsl h1' h2'
            generalize max r (-r) = mr at *
            generalize max p (-p) = mp at *
            go_wp2_with fail
            refine (sR _ (by omega)).mono ?_
            rintro e w' ⟨rfl, rfl⟩
            go_wp2_with fail
            refine (sP _ (by omega)).mono ?_
            rintro e w' ⟨rfl, rfl⟩
            go_wp2_with fail
            go_ret
            exact ⟨rfl, below_of_none g0⟩
          · clear hat HK hsl h1' h2'
            generalize max r (-r) = mr at *
            generalize max p (-p) = mp at *
            go_wp2_with fail
            refine (sR _ (by omega)).mono ?_
            rintro e w' ⟨rfl, rfl⟩
            go_wp2_with fail
            refine (sP _ (by omega)).mono ?_
            rintro e w' ⟨rfl, rfl⟩
            go_wp2_with fail
            go_ret
            exact ⟨rfl, below_of_none g0⟩
          · obtain ⟨q1, q2, q3⟩ := wished HK.out h1' h2' ⟨hl1, hl2⟩
            obtain ⟨⟨n0, n1⟩, bA, bB, bD⟩ := eff_in k
            have hEf : E = effect4 k := by rw [hE.out]; exact effect_yes (by have := HK.out; simp only [Bool.and_eq_true] at this; exact this.1)
            unfold effect4 at hEf
            have cO := implReached aS kS S w8 (hv.kept g0) hIS (by have := HL.out; unfold maxLen; omega)
            unfold RetRe at cO
            rw [hS.out, q1, q2, q3, ← hS.out] at cO
            clear q1 q2 q3 hS hE
            generalize (cnt6 (on k) : Int) = N at *
            generalize sumOn (on k) rr = A at *
            generalize sumOn (on k) rp = B at *
            generalize sumOn (on k) pp = D at *
            generalize max r (-r) = mr at *
            generalize max p (-p) = mp at *
            subst hEf
            have xN := mul_bd (a := N) (b := l) (m := 6) (n := 600) (by omega) (by omega) (by omega) (by omega)
            have xA := mul_bd bA.1 bA.2 h1'.1 h1'.2
            have xB := mul_bd bB.1 bB.2 h2'.1 h2'.2
            have xC := mul_bd bB.1 bB.2 h1'.1 h1'.2
            have xD := mul_bd bD.1 bD.2 h2'.1 h2'.2
            simp only [Int.reduceMul] at xN xA xB xC xD
            clear hat HK
            go_wp2_with fail
            refine (sR _ (by omega)).mono ?_
            rintro e w' ⟨rfl, rfl⟩
            go_wp2_with fail
            refine (sP _ (by omega)).mono ?_
            rintro e w' ⟨rfl, rfl⟩
            clear sR sP
            go_wp2_with fail
            refine cO.mono ?_
            rintro e w9 ⟨rfl, g9⟩
            clear cO c0 c1 c2
            have f0 := Has.fresh w9 25 #[.int .i64 (N * l), .int .i64 (A * r + B * p), .int .i64 (B * r + D * p)]
            replace a0 := (a0.grown g9 (by simp)).alloc (Obj.cells #[.int .i64 (N * l), .int .i64 (A * r + B * p), .int .i64 (B * r + D * p)] 25)
            have oE2 := (oE.kept g9).kept (World.grownBy_alloc w9 (Obj.cells #[.int .i64 (N * l), .int .i64 (A * r + B * p), .int .i64 (B * r + D * p)] 25) none)
            replace g0 := gr_alloc (gr_trans g0 g9) (Obj.cells #[.int .i64 (N * l), .int .i64 (A * r + B * p), .int .i64 (B * r + D * p)] 25)
            clear g9 oE oS hIS
            go_upto_region 18 with fail
            generalize w9.alloc (Obj.cells #[.int .i64 (N * l), .int .i64 (A * r + B * p), .int .i64 (B * r + D * p)] 25) = wz at *
            generalize w9.heap.size = bq at *
            obtain ⟨c0, c1, c2, _, _, _⟩ := three a0
            obtain ⟨d0, d1, d2, _, _, _⟩ := three f0
            obtain ⟨g, o, cs, rfl, hc, hj⟩ := oE2.resolve_left (by simp)
            have e0 : wz.cell? ⟨g, o, none⟩ = some (.int .i64 N) := (hc.cell o).trans (hj 0 (by simp))
            have e1 : wz.cell? ⟨g, o + 1, none⟩ = some (.int .i64 A) := (hc.cell (o + 1)).trans (hj 1 (by simp))
            have e2 : wz.cell? ⟨g, o + 2, none⟩ = some (.int .i64 B) := (hc.cell (o + 2)).trans (hj 2 (by simp))
            have e3 : wz.cell? ⟨g, o + 3, none⟩ = some (.int .i64 D) := (hc.cell (o + 3)).trans (hj 3 (by simp))
            clear hc hj a0 f0
            go_quiet (fail)
            go_wp2_with fail
            go_ret
            exact ⟨rfl, below_of_none (gr_drewN g0 _)⟩
end Go.Proofs.YtekglhikojondaaDoor.sh
