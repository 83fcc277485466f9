/- The walk of the law of bounces. -/
import Derived.Test.YtifafoghgnfioaaBncRun
namespace Go.Proofs.Ytifafoghgnfioaa.bnc
open Go.ChangeShapes Go.WideShapes Go.ChangeAt Go.RowKit
open Go.Proofs.Ytifafoghgnfioaa.nums Go.Proofs.Ytifafoghgnfioaa.mem
open Go.Proofs.Ytifafoghgnfioaa.tab (Ret)
set_option linter.unusedVariables false

set_option maxRecDepth 100000 in
set_option maxHeartbeats 8000000 in
theorem walk (a0 : Option Addr) (len0 cap0 : Nat) (w : World) (hb : cur.Bytes w w.heap.size a0 len0) :
    Calls Try.prog 3 #[.slice a0 len0 cap0] w fun e w' => e = .returned (.bool true) ∧ Below w.heap.size w w' := by
  by_cases hn : len0 ≤ 4096
  · have hd : decide (4096 < len0) = false := by simp; omega
    go_enter Try.func3, Try.ntmps3
    go_wp2_with (go_at_call 7; refine (cur.big _ _ _ _).mono ?_; rintro e w' ⟨rfl, rfl⟩)
    refine (drawFelt a0 len0 cap0 _ hn hb).mono ?_
    rintro e w1 ⟨N, on, s, u1, d1, rfl, hN, hu1, hd1, g0⟩
    clear hd
    obtain ⟨⟨x1, x2⟩, hX⟩ : ∃ X, one u1 d1 (N, on) s = X := ⟨_, rfl⟩
    have cXi : ∀ W, Calls Try.prog 9 #[.agg #[.int .i64 N, .bool on], .bool s, .int .i64 u1, .int .i64 d1] W (RetB (x1, x2) W) := fun W => hX ▸ implFelt N on s u1 d1 W
    have cXs : ∀ W, Calls Try.prog 12 #[.agg #[.int .i64 N, .bool on], .bool s, .int .i64 u1, .int .i64 d1] W (RetB (x1, x2) W) := fun W => hX ▸ specFelt N on s u1 d1 W
    clear hX hu1 hd1 hN
    have a3 := Has.fresh w1 25 #[.int .i64 N, .bool on]
    replace g0 := gr_alloc g0 (Obj.cells #[.int .i64 N, .bool on] 25)
    go_wp2_with fail
    refine (cXi _).mono ?_
    rintro e w2 ⟨rfl, hg⟩
    replace a3 := (a3.grown hg (by simp)).alloc (Obj.cells #[.int .i64 x1, .bool x2] 25)
    have a7 := Has.fresh w2 25 #[.int .i64 x1, .bool x2]
    replace g0 := gr_alloc (gr_trans g0 hg) (Obj.cells #[.int .i64 x1, .bool x2] 25)
    clear hg cXi
    have hb2 : cur.Bytes (w2.alloc (Obj.cells #[.int .i64 x1, .bool x2] 25)) (w2.alloc (Obj.cells #[.int .i64 x1, .bool x2] 25)).heap.size a0 len0 := (hb.below (Nat.le_refl _) (below_of_none g0)).more g0.size
    go_wp2_with fail
    refine (drawFeltAll a0 len0 cap0 _ hn hb2).mono ?_
    rintro e w3 ⟨M, o, g, cap, l, u, d, rfl, hM, hu, hd, hl, hg, hB⟩
    obtain ⟨⟨y1, y2⟩, hY⟩ : ∃ Y, many u d (M, o) l = Y := ⟨_, rfl⟩
    have cYi : ∀ W, Bs W g l → Calls Try.prog 11 #[.agg #[.int .i64 M, .bool o], .slice (some ⟨g, 0, none⟩) l.length cap, .int .i64 u, .int .i64 d] W (RetB (y1, y2) W) := fun W h => hY ▸ implFeltAll M o g cap l u d W (by omega) h
    have cYs : ∀ W, Bs W g l → Calls Try.prog 13 #[.agg #[.int .i64 M, .bool o], .slice (some ⟨g, 0, none⟩) l.length cap, .int .i64 u, .int .i64 d] W (RetB (y1, y2) W) := fun W h => hY ▸ specFeltAll M o g cap l u d W (by omega) h
    replace hY := Lib.hid hY
    replace a3 := (a3.grown hg (by simp)).alloc (Obj.cells #[.int .i64 M, .bool o] 25)
    replace a7 := (a7.grown hg (by simp)).alloc (Obj.cells #[.int .i64 M, .bool o] 25)
    have a8 := Has.fresh w3 25 #[.int .i64 M, .bool o]
    replace g0 := gr_alloc (gr_trans g0 hg) (Obj.cells #[.int .i64 M, .bool o] 25)
    replace hB := hB.kept (World.grownBy_alloc w3 (Obj.cells #[.int .i64 M, .bool o] 25) none)
    clear hg hb2 hb
    go_wp2_with fail
    refine (cYi _ hB).mono ?_
    rintro e w4 ⟨rfl, hg⟩
    replace a3 := (a3.grown hg (by simp)).alloc (Obj.cells #[.int .i64 y1, .bool y2] 25)
    replace a7 := (a7.grown hg (by simp)).alloc (Obj.cells #[.int .i64 y1, .bool y2] 25)
    replace a8 := (a8.grown hg (by simp)).alloc (Obj.cells #[.int .i64 y1, .bool y2] 25)
    have a12 := Has.fresh w4 25 #[.int .i64 y1, .bool y2]
    replace g0 := gr_alloc (gr_trans g0 hg) (Obj.cells #[.int .i64 y1, .bool y2] 25)
    replace hB := (hB.kept hg).kept (World.grownBy_alloc w4 (Obj.cells #[.int .i64 y1, .bool y2] 25) none)
    clear hg cYi
    obtain ⟨p30, p31, _, _⟩ := two a3
    obtain ⟨p70, p71, _, _⟩ := two a7
    obtain ⟨p80, p81, _, _⟩ := two a8
    obtain ⟨p120, p121, _, _⟩ := two a12
    go_wp2_with fail
    generalize w4.alloc (Obj.cells #[.int .i64 y1, .bool y2] 25) = v0 at *
    have b30 : Has v0.drew _ _ _ := a3
    have b70 : Has v0.drew _ _ _ := a7
    have b80 : Has v0.drew _ _ _ := a8
    have b120 : Has v0.drew _ _ _ := a12
    have bB0 : Bs v0.drew g l := hB
    go_region_held3 (fun W => W.cell? ⟨w1.heap.size, 0, none⟩ = some (.int .i64 N) ∧ W.cell? ⟨w1.heap.size, 1, none⟩ = some (.bool on) ∧ W.cell? ⟨w2.heap.size, 0, none⟩ = some (.int .i64 x1) ∧ W.cell? ⟨w2.heap.size, 1, none⟩ = some (.bool x2) ∧ W.cell? ⟨w3.heap.size, 0, none⟩ = some (.int .i64 M) ∧ W.cell? ⟨w3.heap.size, 1, none⟩ = some (.bool o) ∧ W.cell? ⟨w4.heap.size, 0, none⟩ = some (.int .i64 y1) ∧ W.cell? ⟨w4.heap.size, 1, none⟩ = some (.bool y2))
      (first | exact ⟨(two b34).1, (two b34).2.1, (two b74).1, (two b74).2.1, (two b84).1, (two b84).2.1, (two b124).1, (two b124).2.1⟩ | exact ⟨(two b33).1, (two b33).2.1, (two b73).1, (two b73).2.1, (two b83).1, (two b83).2.1, (two b123).1, (two b123).2.1⟩ | exact ⟨(two b32).1, (two b32).2.1, (two b72).1, (two b72).2.1, (two b82).1, (two b82).2.1, (two b122).1, (two b122).2.1⟩ | exact ⟨(two b31).1, (two b31).2.1, (two b71).1, (two b71).2.1, (two b81).1, (two b81).2.1, (two b121).1, (two b121).2.1⟩ | exact ⟨(two b30).1, (two b30).2.1, (two b70).1, (two b70).2.1, (two b80).1, (two b80).2.1, (two b120).1, (two b120).2.1⟩)
      (first | (go_at_call 12; refine (cXs _).mono ?_; rintro e v1 ⟨rfl, hg1⟩; have b31 := b30.grown hg1 (by simp); have b71 := b70.grown hg1 (by simp); have b81 := b80.grown hg1 (by simp); have b121 := b120.grown hg1 (by simp); have bB1 := bB0.kept hg1) | (go_at_call 13; refine (cYs _ bB1).mono ?_; rintro e v2 ⟨rfl, hg2⟩; have b32 := b31.grown hg2 (by simp); have b72 := b71.grown hg2 (by simp); have b82 := b81.grown hg2 (by simp); have b122 := b121.grown hg2 (by simp); have bB2 := bB1.kept hg2) | (go_at_call 14; refine (implBounceOk _ _ _).mono ?_; rintro e v3 ⟨rfl, hg3⟩; have b33 := b32.grown hg3 (by simp); have b73 := b72.grown hg3 (by simp); have b83 := b82.grown hg3 (by simp); have b123 := b122.grown hg3 (by simp); have bB3 := bB2.kept hg3) | (go_at_call 15; refine (specBounceOk _ _ _).mono ?_; rintro e v4 ⟨rfl, hg4⟩; have b34 := b33.grown hg4 (by simp); have b74 := b73.grown hg4 (by simp); have b84 := b83.grown hg4 (by simp); have b124 := b123.grown hg4 (by simp); have bB4 := bB3.kept hg4))
    have a8 := b84
    have a12 := b124
    have hB := bB4
    replace g0 := gr_trans (gr_trans (gr_trans (gr_trans (gr_drewN g0 1) hg1) hg2) hg3) hg4
    clear b30 b31 b32 b33 b34 b70 b71 b72 b73 b74 b80 b81 b82 b83 b84 b120 b121 b122 b123 b124 bB0 bB1 bB2 bB3 bB4 hg1 hg2 hg3 hg4 a3 a7 p30 p31 p70 p71 p80 p81 p120 p121 cXs
    obtain ⟨p80, p81, _, _⟩ := two a8
    by_cases t0 : 0 ≤ M ∧ M ≤ 100
    · have i0 : inb M 0 100 = true := inb_iff.2 t0
      by_cases t1 : 1 ≤ u
      · have e1 : decide (u < 1) = false := by simp; omega
        by_cases t2 : u ≤ 100
        · have e2 : decide (100 < u) = false := by simp; omega
          by_cases t3 : 1 ≤ d
          · have e3 : decide (d < 1) = false := by simp; omega
            by_cases t4 : d ≤ 100
            · have e4 : decide (100 < d) = false := by simp; omega
              by_cases t5 : l.length ≤ 200
              · have e5 : decide (200 < (l.length : Int)) = false := by simp; omega
                have hu' : Rng u := ⟨t1, t2⟩
                have hd' : Rng d := ⟨t3, t4⟩
                have hr0 : right (M, o) u d = true := right_iff.2 ⟨t0, hu', hd'⟩
                have hr1 : right (0, false) u d = true := right_iff.2 ⟨⟨by simp, by simp⟩, hu', hd'⟩
                have hYf : (y1, y2) = felt u d (M, o) l := by rw [← hY.out]; exact many_right hr0 t5
                have HY := Lib.hid hYf
                obtain ⟨⟨n1, n2⟩, hNn⟩ : ∃ n, felt u d (0, false) l = n := ⟨_, rfl⟩
                have cN : ∀ W, Bs W g l → Calls Try.prog 11 #[.agg #[.int .i64 0, .bool false], .slice (some ⟨g, 0, none⟩) l.length cap, .int .i64 u, .int .i64 d] W (RetB (n1, n2) W) := fun W h => by
                  have := implFeltAll 0 false g cap l u d W (by omega) h
                  rw [many_right hr1 t5, hNn] at this
                  exact this
                have HN := Lib.hid hNn
                have HU := Lib.hid hu'
                have HD := Lib.hid hd'
                clear hNn hYf hr0 hr1 hY hu' hd' cYs
                obtain ⟨M0, M1⟩ := t0
                go_wp2_with fail
                refine (specBounceOk _ _ _).mono ?_
                rintro e v5 ⟨rfl, hg⟩
                replace a8 := a8.grown hg (by simp)
                replace a12 := a12.grown hg (by simp)
                replace hB := hB.kept hg
                replace g0 := gr_trans g0 hg
                have h12 := a12.lt
                have hgz := hB.1
                have hwz := g0.size
                clear hg p80 p81
                obtain ⟨p80, p81, _, _⟩ := two a8
                replace a12 := a12.alloc (Obj.cells #[.int .i64 M, .bool o] 25)
                replace hB := hB.kept (World.grownBy_alloc v5 (Obj.cells #[.int .i64 M, .bool o] 25) none)
                replace g0 := gr_alloc g0 (Obj.cells #[.int .i64 M, .bool o] 25)
                have a13 := Has.fresh v5 25 #[.int .i64 M, .bool o]
                clear a8
                go_wp2_with fail
                clear i0 e1 e2 e3 e4 e5 p80 p81
                go_loopw [14] (fun i wr => ∃ (k : Nat) (zN : Int) (zO : Bool), k ≤ l.length ∧ i = .int .i64 k ∧ Hid ((zN, zO) = felt u d (M, o) (l.take k)) ∧ (0 ≤ zN ∧ zN ≤ 100) ∧ Has wr v5.heap.size 25 #[.int .i64 zN, .bool zO] ∧ Has wr w4.heap.size 25 #[.int .i64 y1, .bool y2] ∧ Bs wr g l ∧ w.grownBy wr none) (fun i _ => l.length - (intOf i).toNat)
                case atStart => exact ⟨0, M, o, Nat.zero_le _, rfl, Lib.hid rfl, ⟨M0, M1⟩, a13, a12, hB, g0⟩
                case round =>
                  clear a13 a12 hB g0
                  obtain ⟨k, zN, zO, hk, rfl, hZ, ⟨z0, z1⟩, a13, a12, hB, g0⟩ := hrel
                  by_cases hlt : k < l.length
                  · have cb := hB.2 k hlt
                    obtain ⟨c0, c1, f0, f1⟩ := two a13
                    go_wp2_with fail
                    go_still_tail 7, (by kernel_rfl)
                    change wpList _ _ _ _ _ wr.drew
                    go_wp2_with fail
                    refine (implFelt_ok _ _ _ _ _ _ z0 z1 HU.out HD.out).mono ?_
                    rintro e w6 ⟨rfl, hg2⟩
                    replace g0 := gr_trans (gr_drewN g0 1) hg2
                    replace a13 := (a13.drewN 1).grown hg2 (by simp)
                    replace a12 := (a12.drewN 1).grown hg2 (by simp)
                    have hB2 : Bs wr.drew g l := hB
                    replace hB := hB2.kept hg2
                    clear c0 c1 f0 f1 cb hB2
                    obtain ⟨c0, c1, f0, f1⟩ := two a13
                    go_wp2_with fail
                    go_roundw
                    case rel => exact ⟨k + 1, _, _, by omega, by go_num, Lib.hid (by rw [felt_next u d (M, o) hlt, ← hZ.out]; simp [List.getD, hlt]), feel_rng _ HU.out HD.out z0 z1, set2 a13 _ _, (a12.set_other (by omega) _ _).set_other (by omega) _ _, hB.grown (gr_set (gr_set (gr_refl _ _) _ _) _ _) (fun e => by injection e with e; omega), gr_new (gr_new g0 (by omega) _ _) (by omega) _ _⟩
                    case measure => simp [intOf]; omega
                  · obtain rfl : k = l.length := by omega
                    have hZ' := hZ.out
                    rw [List.take_length, ← HY.out] at hZ'
                    obtain ⟨rfl, rfl⟩ : zN = y1 ∧ zO = y2 := by injection hZ' with h1 h2; exact ⟨h1, h2⟩
                    clear hZ hZ'
                    go_wp2_with fail
                    refine (cN _ hB).mono ?_
                    rintro e w6 ⟨rfl, hg2⟩
                    replace a13 := (a13.grown hg2 (by simp)).alloc (Obj.cells #[.int .i64 n1, .bool n2] 25)
                    replace a12 := (a12.grown hg2 (by simp)).alloc (Obj.cells #[.int .i64 n1, .bool n2] 25)
                    replace hB := (hB.kept hg2).kept (World.grownBy_alloc w6 (Obj.cells #[.int .i64 n1, .bool n2] 25) none)
                    replace g0 := gr_alloc (gr_trans g0 hg2) (Obj.cells #[.int .i64 n1, .bool n2] 25)
                    have a15 := Has.fresh w6 25 #[.int .i64 n1, .bool n2]
                    clear hg2 cN
                    go_wp2_with fail
                    generalize w6.alloc (Obj.cells #[.int .i64 n1, .bool n2] 25) = v7 at *
                    go_loop [16, 17, 18] (fun r m i => ∃ (k : Nat) (R Mo : Int), k ≤ l.length ∧ r = .int .i64 R ∧ m = .int .i64 Mo ∧ i = .int .i64 k ∧ (0 ≤ R ∧ R ≤ (k : Int)) ∧ (0 ≤ Mo ∧ Mo ≤ (k : Int)) ∧ Hid (RunOk u (felt u d (0, false) (l.take k)) R)) (fun _ _ i => l.length - (intOf i).toNat)
                    case atStart => exact ⟨0, 0, 0, Nat.zero_le _, rfl, rfl, rfl, ⟨by omega, by omega⟩, ⟨by omega, by omega⟩, Lib.hid (RunOk.zero HU.out)⟩
                    case round =>
                      obtain ⟨k, R, Mo, hk2, rfl, rfl, rfl, ⟨R0, R1⟩, ⟨O0, O1⟩, hRun⟩ := hrel
                      by_cases hlt : k < l.length
                      · have cb := hB.2 k hlt
                        by_cases hs : l.getD k false = true
                        · have hs2 : l[k] = true := by rw [← hs]; simp [List.getD, hlt]
                          rw [hs] at cb
                          by_cases hmo : Mo < R + 1
                          · go_wp2_with fail
                            go_round
                            case rel => exact ⟨k + 1, R + 1, R + 1, by omega, rfl, rfl, by go_num, ⟨by omega, by omega⟩, ⟨by omega, by omega⟩, Lib.hid (by rw [felt_next u d (0, false) hlt, hs]; exact hRun.out.rise HU.out)⟩
                            case measure => simp [intOf]; omega
                          · go_wp2_with fail
                            go_round
                            case rel => exact ⟨k + 1, R + 1, Mo, by omega, rfl, rfl, by go_num, ⟨by omega, by omega⟩, ⟨by omega, by omega⟩, Lib.hid (by rw [felt_next u d (0, false) hlt, hs]; exact hRun.out.rise HU.out)⟩
                            case measure => simp [intOf]; omega
                        · have hs' : l.getD k false = false := by simpa using hs
                          have hs2 : l[k] = false := by rw [← hs']; simp [List.getD, hlt]
                          clear hs
                          rw [hs'] at cb
                          go_wp2_with fail
                          go_round
                          case rel => exact ⟨k + 1, 0, Mo, by omega, rfl, rfl, by go_num, ⟨by omega, by omega⟩, ⟨by omega, by omega⟩, Lib.hid (by rw [felt_next u d (0, false) hlt, hs']; exact hRun.out.fall HU.out HD.out)⟩
                          case measure => simp [intOf]; omega
                      · obtain rfl : k = l.length := by omega
                        go_wp2_with fail
                        go_loop [19, 20] (fun a i => ∃ (k : Nat) (A : Int), k ≤ l.length ∧ a = .int .i64 A ∧ i = .int .i64 k ∧ (0 ≤ A ∧ A ≤ (k : Int)) ∧ Hid (AllOk u (felt u d (0, false) (l.take k)) A)) (fun _ i => l.length - (intOf i).toNat)
                        case atStart => exact ⟨0, 0, Nat.zero_le _, rfl, rfl, ⟨by omega, by omega⟩, Lib.hid (AllOk.zero HU.out)⟩
                        case round =>
                          obtain ⟨k, A, hk3, rfl, rfl, ⟨A0, A1⟩, hAll⟩ := hrel
                          by_cases hlt : k < l.length
                          · have cb := hB.2 k hlt
                            by_cases hs : l.getD k false = true
                            · have hs2 : l[k] = true := by rw [← hs]; simp [List.getD, hlt]
                              rw [hs] at cb
                              go_wp2_with fail
                              go_round
                              case rel => exact ⟨k + 1, A + 1, by omega, rfl, by go_num, ⟨by omega, by omega⟩, Lib.hid (by rw [felt_next u d (0, false) hlt, hs]; exact hAll.out.rise HU.out)⟩
                              case measure => simp [intOf]; omega
                            · have hs' : l.getD k false = false := by simpa using hs
                              have hs2 : l[k] = false := by rw [← hs']; simp [List.getD, hlt]
                              clear hs
                              rw [hs'] at cb
                              go_wp2_with fail
                              go_round
                              case rel => exact ⟨k + 1, A, by omega, rfl, by go_num, ⟨by omega, by omega⟩, Lib.hid (by rw [felt_next u d (0, false) hlt, hs']; exact hAll.out.fall HU.out HD.out)⟩
                              case measure => simp [intOf]; omega
                          · obtain rfl : k = l.length := by omega
                            have hA := hAll.out
                            have hR := hRun.out
                            rw [List.take_length, HN.out] at hA hR
                            have hAn := hA.2
                            have hRn := hR.2
                            clear hA hR hAll hRun
                            have iy : inb zN 0 100 = true := inb_iff.2 ⟨z0, z1⟩
                            obtain ⟨c130, c131, _, _⟩ := two a13
                            obtain ⟨c120, c121, _, _⟩ := two a12
                            obtain ⟨c150, c151, _, _⟩ := two a15
                            cases n2
                            · clear hAn
                              by_cases hm : Mo < u
                              · have e3 : decide (Mo < u) = true := by simp [hm]
                                go_wp2_with fail
                                refine (implBounceOk _ _ _).mono ?_
                                rintro e v8 ⟨rfl, hg⟩
                                replace g0 := gr_trans g0 hg
                                replace a15 := a15.grown hg (by simp)
                                replace hB := hB.kept hg
                                clear hg c150 c151
                                obtain ⟨c150, c151, _, _⟩ := two a15
                                go_wp2_with fail
                                go_ret
                                exact ⟨rfl, below_of_none g0⟩
                              · have e3 : decide (Mo < u) = false := by simp; omega
                                obtain ⟨j, hj⟩ : ∃ j, l.length = j + 1 := ⟨l.length - 1, by have := HU.out.1; omega⟩
                                have e4 : ((l.length : Int) == 0) = false := beq_eq_false_iff_ne.2 (by omega)
                                by_cases hs : l.getD j false = true
                                · by_cases hR : R < u
                                  · have e5 : decide (R < u) = true := by simp [hR]
                                    go_wp2_with fail
                                    refine (implBounceOk _ _ _).mono ?_
                                    rintro e v8 ⟨rfl, hg⟩
                                    replace g0 := gr_trans g0 hg
                                    replace a15 := a15.grown hg (by simp)
                                    replace hB := hB.kept hg
                                    clear hg c150 c151
                                    obtain ⟨c150, c151, _, _⟩ := two a15
                                    have cb := hB.2 j (by omega)
                                    rw [hs] at cb
                                    go_wp2_with fail
                                    go_ret
                                    exact ⟨rfl, below_of_none g0⟩
                                  · exact absurd (hRn (by omega)) (by simp)
                                · replace hs : l.getD j false = false := by simpa using hs
                                  go_wp2_with fail
                                  refine (implBounceOk _ _ _).mono ?_
                                  rintro e v8 ⟨rfl, hg⟩
                                  replace g0 := gr_trans g0 hg
                                  replace a15 := a15.grown hg (by simp)
                                  replace hB := hB.kept hg
                                  clear hg c150 c151
                                  obtain ⟨c150, c151, _, _⟩ := two a15
                                  have cb := hB.2 j (by omega)
                                  rw [hs] at cb
                                  go_wp2_with fail
                                  go_ret
                                  exact ⟨rfl, below_of_none g0⟩
                            · have e2 : decide (u ≤ A) = true := by simp; exact hAn rfl
                              clear hAn hRn
                              by_cases hm : Mo < u
                              · have e3 : decide (Mo < u) = true := by simp [hm]
                                go_wp2_with fail
                                refine (implBounceOk _ _ _).mono ?_
                                rintro e v8 ⟨rfl, hg⟩
                                replace g0 := gr_trans g0 hg
                                replace a15 := a15.grown hg (by simp)
                                replace hB := hB.kept hg
                                clear hg c150 c151
                                obtain ⟨c150, c151, _, _⟩ := two a15
                                go_wp2_with fail
                                go_ret
                                exact ⟨rfl, below_of_none g0⟩
                              · have e3 : decide (Mo < u) = false := by simp; omega
                                obtain ⟨j, hj⟩ : ∃ j, l.length = j + 1 := ⟨l.length - 1, by have := HU.out.1; omega⟩
                                have e4 : ((l.length : Int) == 0) = false := beq_eq_false_iff_ne.2 (by omega)
                                by_cases hs : l.getD j false = true
                                · by_cases hR : R < u
                                  · have e5 : decide (R < u) = true := by simp [hR]
                                    go_wp2_with fail
                                    refine (implBounceOk _ _ _).mono ?_
                                    rintro e v8 ⟨rfl, hg⟩
                                    replace g0 := gr_trans g0 hg
                                    replace a15 := a15.grown hg (by simp)
                                    replace hB := hB.kept hg
                                    clear hg c150 c151
                                    obtain ⟨c150, c151, _, _⟩ := two a15
                                    have cb := hB.2 j (by omega)
                                    rw [hs] at cb
                                    go_wp2_with fail
                                    go_ret
                                    exact ⟨rfl, below_of_none g0⟩
                                  · have e5 : decide (R < u) = false := by simp; omega
                                    go_wp2_with fail
                                    refine (implBounceOk _ _ _).mono ?_
                                    rintro e v8 ⟨rfl, hg⟩
                                    replace g0 := gr_trans g0 hg
                                    replace a15 := a15.grown hg (by simp)
                                    replace hB := hB.kept hg
                                    clear hg c150 c151
                                    obtain ⟨c150, c151, _, _⟩ := two a15
                                    have cb := hB.2 j (by omega)
                                    rw [hs] at cb
                                    go_wp2_with fail
                                    go_ret
                                    exact ⟨rfl, below_of_none g0⟩
                                · replace hs : l.getD j false = false := by simpa using hs
                                  go_wp2_with fail
                                  refine (implBounceOk _ _ _).mono ?_
                                  rintro e v8 ⟨rfl, hg⟩
                                  replace g0 := gr_trans g0 hg
                                  replace a15 := a15.grown hg (by simp)
                                  replace hB := hB.kept hg
                                  clear hg c150 c151
                                  obtain ⟨c150, c151, _, _⟩ := two a15
                                  have cb := hB.2 j (by omega)
                                  rw [hs] at cb
                                  go_wp2_with fail
                                  go_ret
                                  exact ⟨rfl, below_of_none g0⟩
              · have e5 : decide (200 < (l.length : Int)) = true := by simp; omega
                have hz : (y1, y2) = ((0, false) : B) := by rw [← hY.out]; exact many_wrong (fun h => by have hh := right_iff.1 h; unfold Rng at hh; simp at hh; omega)
                obtain ⟨rfl, rfl⟩ : y1 = 0 ∧ y2 = false := by injection hz with h1 h2; exact ⟨h1, h2⟩
                clear hz hY cYs
                go_wp2_with fail
                refine (specBounceOk _ _ _).mono ?_
                rintro e v5 ⟨rfl, hg⟩
                replace a12 := a12.grown hg (by simp)
                replace g0 := gr_trans g0 hg
                obtain ⟨c0, c1, _, _⟩ := two a12
                go_wp2_with fail
                go_ret
                exact ⟨rfl, below_of_none g0⟩
            · have e4 : decide (100 < d) = true := by simp; omega
              have hz : (y1, y2) = ((0, false) : B) := by rw [← hY.out]; exact many_wrong (fun h => by have hh := right_iff.1 h; unfold Rng at hh; simp at hh; omega)
              obtain ⟨rfl, rfl⟩ : y1 = 0 ∧ y2 = false := by injection hz with h1 h2; exact ⟨h1, h2⟩
              clear hz hY cYs
              go_wp2_with fail
              refine (specBounceOk _ _ _).mono ?_
              rintro e v5 ⟨rfl, hg⟩
              replace a12 := a12.grown hg (by simp)
              replace g0 := gr_trans g0 hg
              obtain ⟨c0, c1, _, _⟩ := two a12
              go_wp2_with fail
              go_ret
              exact ⟨rfl, below_of_none g0⟩
          · have e3 : decide (d < 1) = true := by simp; omega
            have hz : (y1, y2) = ((0, false) : B) := by rw [← hY.out]; exact many_wrong (fun h => by have hh := right_iff.1 h; unfold Rng at hh; simp at hh; omega)
            obtain ⟨rfl, rfl⟩ : y1 = 0 ∧ y2 = false := by injection hz with h1 h2; exact ⟨h1, h2⟩
            clear hz hY cYs
            go_wp2_with fail
            refine (specBounceOk _ _ _).mono ?_
            rintro e v5 ⟨rfl, hg⟩
            replace a12 := a12.grown hg (by simp)
            replace g0 := gr_trans g0 hg
            obtain ⟨c0, c1, _, _⟩ := two a12
            go_wp2_with fail
            go_ret
            exact ⟨rfl, below_of_none g0⟩
        · have e2 : decide (100 < u) = true := by simp; omega
          have hz : (y1, y2) = ((0, false) : B) := by rw [← hY.out]; exact many_wrong (fun h => by have hh := right_iff.1 h; unfold Rng at hh; simp at hh; omega)
          obtain ⟨rfl, rfl⟩ : y1 = 0 ∧ y2 = false := by injection hz with h1 h2; exact ⟨h1, h2⟩
          clear hz hY cYs
          go_wp2_with fail
          refine (specBounceOk _ _ _).mono ?_
          rintro e v5 ⟨rfl, hg⟩
          replace a12 := a12.grown hg (by simp)
          replace g0 := gr_trans g0 hg
          obtain ⟨c0, c1, _, _⟩ := two a12
          go_wp2_with fail
          go_ret
          exact ⟨rfl, below_of_none g0⟩
      · have e1 : decide (u < 1) = true := by simp; omega
        have hz : (y1, y2) = ((0, false) : B) := by rw [← hY.out]; exact many_wrong (fun h => by have hh := right_iff.1 h; unfold Rng at hh; simp at hh; omega)
        obtain ⟨rfl, rfl⟩ : y1 = 0 ∧ y2 = false := by injection hz with h1 h2; exact ⟨h1, h2⟩
        clear hz hY cYs
        go_wp2_with fail
        refine (specBounceOk _ _ _).mono ?_
        rintro e v5 ⟨rfl, hg⟩
        replace a12 := a12.grown hg (by simp)
        replace g0 := gr_trans g0 hg
        obtain ⟨c0, c1, _, _⟩ := two a12
        go_wp2_with fail
        go_ret
        exact ⟨rfl, below_of_none g0⟩
    · have i0 : inb M 0 100 = false := inb_no t0
      have hz : (y1, y2) = ((0, false) : B) := by rw [← hY.out]; exact many_wrong (fun h => by have hh := right_iff.1 h; unfold Rng at hh; simp at hh; omega)
      obtain ⟨rfl, rfl⟩ : y1 = 0 ∧ y2 = false := by injection hz with h1 h2; exact ⟨h1, h2⟩
      clear hz hY cYs
      go_wp2_with fail
      refine (specBounceOk _ _ _).mono ?_
      rintro e v5 ⟨rfl, hg⟩
      replace a12 := a12.grown hg (by simp)
      replace g0 := gr_trans g0 hg
      obtain ⟨c0, c1, _, _⟩ := two a12
      go_wp2_with fail
      go_ret
      exact ⟨rfl, below_of_none g0⟩
  · have hd : decide (4096 < len0) = true := by simp; omega
    go_enter Try.func3, Try.ntmps3
    go_wp2_with (go_at_call 7; refine (cur.big _ _ _ _).mono ?_; rintro e w' ⟨rfl, rfl⟩)
    all_goals go_ret
    all_goals exact ⟨rfl, Below.refl _ _⟩
end Go.Proofs.Ytifafoghgnfioaa.bnc
