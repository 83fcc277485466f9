/- The walk of the law of fans. -/
import Derived.Test.YtdpoecebjjcicaaFaEq
import Derived.Test.YtdpoecebjjcicaaFaS
import Derived.Test.YtdpoecebjjcicaaFaOut
import Derived.Test.YtdpoecebjjcicaaFaDraw2
import Derived.Test.YtdpoecebjjcicaaPick
namespace Go.Proofs.Ytdpoecebjjcicaa.fan
open Go.ChangeShapes Go.WideShapes Go.ChangeAt Go.RowKit
open Go.Proofs.Ytdpoecebjjcicaa.nums Go.Proofs.Ytdpoecebjjcicaa.mem Go.Proofs.Ytdpoecebjjcicaa.cur
open Go.Proofs.Ytdpoecebjjcicaa.rd (R okR fresh three set3 fresh1 okR_iff)
open Go.Proofs.Ytdpoecebjjcicaa.il (RetI nth)
open Go.Proofs.Ytdpoecebjjcicaa.bnc (inb_iff inb_no)
open Go.Proofs.Ytdpoecebjjcicaa.tab (Ret)
set_option linter.unusedVariables false

theorem outs_pw (l : List F) (k : Nat) : (outs l k).Pairwise (fun x y => x < y) := by
  unfold outs
  rw [List.pairwise_map]
  exact (List.pairwise_lt_range.filter _).imp (by intro a b h; omega)
theorem outIn_pw (l : List F) : (outIn l).Pairwise (fun x y => x < y) := by
  unfold outIn; split
  · exact outs_pw l _
  · exact List.Pairwise.nil
theorem outIn_in (l : List F) {v : Int} (h : v ∈ outIn l) : 0 ≤ v ∧ v < 6 := by
  unfold outIn at h; split at h
  · rename_i hc
    unfold outs at h
    simp only [List.mem_map, List.mem_filter, List.mem_range] at h
    obtain ⟨j, ⟨hj, _⟩, rfl⟩ := h
    omega
  · simp at h
theorem pw_at {l : List Int} (h : l.Pairwise (fun x y => x < y)) {k : Nat} (h0 : 0 < k) (hk : k < l.length) : nth l (k - 1) < nth l k := by
  rw [il.nth_lt hk, il.nth_lt (by omega : k - 1 < l.length)]
  exact List.pairwise_iff_getElem.1 h (k - 1) k (by omega) hk (by omega)

/-- A fan, a reading and a fan in their boxes. -/
def Tri (W : World) (p r q : Nat) (N v a T1 : Int) (on out o T2 T3 : Bool) : Prop :=
  Has W p 27 #[.int .i64 N, .bool on, .bool out] ∧ Has W r 29 #[.int .i64 v, .int .i64 a, .bool o] ∧ Has W q 27 #[.int .i64 T1, .bool T2, .bool T3]
theorem Tri.kept {W W' : World} {p r q : Nat} {N v a T1 : Int} {on out o T2 T3 : Bool} (h : Tri W p r q N v a T1 on out o T2 T3) (k : W.grownBy W' none) : Tri W' p r q N v a T1 on out o T2 T3 :=
  ⟨h.1.grown k (by simp), h.2.1.grown k (by simp), h.2.2.grown k (by simp)⟩
theorem Tri.cells {W : World} {p r q : Nat} {N v a T1 : Int} {on out o T2 T3 : Bool} (h : Tri W p r q N v a T1 on out o T2 T3) :
    (W.cell? ⟨p, 0, none⟩ = some (.int .i64 N) ∧ W.cell? ⟨p, 1, none⟩ = some (.bool on) ∧ W.cell? ⟨p, 2, none⟩ = some (.bool out)) ∧ (W.cell? ⟨r, 0, none⟩ = some (.int .i64 v) ∧ W.cell? ⟨r, 1, none⟩ = some (.int .i64 a) ∧ W.cell? ⟨r, 2, none⟩ = some (.bool o)) ∧
    (W.cell? ⟨q, 0, none⟩ = some (.int .i64 T1) ∧ W.cell? ⟨q, 1, none⟩ = some (.bool T2) ∧ W.cell? ⟨q, 2, none⟩ = some (.bool T3)) :=
  ⟨⟨h.1.cell 0, h.1.cell 1, h.1.cell 2⟩, ⟨h.2.1.cell 0, h.2.1.cell 1, h.2.1.cell 2⟩, ⟨h.2.2.cell 0, h.2.2.cell 1, h.2.2.cell 2⟩⟩

theorem watched_zero {N wn v a T1 : Int} {on out o T2 T3 : Bool} (h : watched (N, on, out) wn (v, a, o) = (T1, T2, T3)) (hn : right (N, on, out) wn (v, a, o) = false) : T1 = 0 ∧ T2 = false ∧ T3 = false := by
  rw [watched_no hn] at h
  simpa [eq_comm] using h
theorem watched_out {N wn v a T1 : Int} {on out o T2 T3 : Bool} (h : watched (N, on, out) wn (v, a, o) = (T1, T2, T3)) (hr : right (N, on, out) wn (v, a, o) = true) (ho : out = true) : T3 = true := by
  subst ho
  by_cases hw : 100 ≤ wn
  · rw [watched_hi hr hw] at h
    simp [outed, felt] at h
    exact h.2.2
  · rw [watched_low hr (by omega)] at h
    simp [outed] at h
    exact h.2.2
theorem watched_same {N wn v a T1 : Int} {on out o T2 T3 : Bool} (h : watched (N, on, out) wn (v, a, o) = (T1, T2, T3)) (hr : right (N, on, out) wn (v, a, o) = true) (hw : wn < 100) : T1 = N ∧ T2 = on := by
  rw [watched_low hr hw] at h
  simp [outed] at h
  exact ⟨h.1.symm, h.2.1.symm⟩

set_option maxRecDepth 100000 in
set_option maxHeartbeats 8000000 in
theorem fans (b : Option Addr) (n c : Nat) (w : World) (hb : Bytes w w.heap.size b n) :
    Calls Try.prog 3 #[.slice b n c] w fun e w' => e = .returned (.bool true) ∧ Below w.heap.size w w' := by
  go_enter Try.func3, Try.ntmps3
  go_wp2_with fail
  refine (big b n c w).mono ?_
  rintro e w1 ⟨rfl, rfl⟩
  by_cases hbig : 4096 < n
  · have hd : decide (4096 < n) = true := by simp [hbig]
    go_wp2_with fail
    go_ret
    exact ⟨rfl, Below.refl _ _⟩
  · have hd : decide (4096 < n) = false := by simp [hbig]
    have hn : n ≤ 4096 := by omega
    go_wp2_with fail
    refine (drawWatched b n c _ hn hb).mono ?_
    rintro e w1 ⟨N, on, out, x, v, a, o, rfl, hN, ⟨hx0, hx1⟩, _, _, g0⟩
    clear hd hbig
    obtain ⟨⟨T1, T2, T3⟩, hT⟩ : ∃ X, watched (N, on, out) x (v, a, o) = X := ⟨_, rfl⟩
    obtain ⟨k1, hK1⟩ : ∃ X, inb N 0 100 = X := ⟨_, rfl⟩
    obtain ⟨k2, hK2⟩ : ∃ X, okR (v, a, o) = X := ⟨_, rfl⟩
    have cWi : ∀ W, Calls Try.prog 10 #[.agg #[.int .i64 N, .bool on, .bool out], .int .i64 x, .agg #[.int .i64 v, .int .i64 a, .bool o]] W (RetF (T1, T2, T3) W) := fun W => hT ▸ implWatched N x v a on out o W
    have cWs : ∀ W, Calls Try.prog 13 #[.agg #[.int .i64 N, .bool on, .bool out], .int .i64 x, .agg #[.int .i64 v, .int .i64 a, .bool o]] W (RetF (T1, T2, T3) W) := fun W => hT ▸ specWatched N x v a on out o W
    have cKi : ∀ W, Calls Try.prog 16 #[.agg #[.int .i64 N, .bool on, .bool out]] W (Ret (.bool k1) W) := fun W => hK1 ▸ implFanOk N on out W
    have cKs : ∀ W, Calls Try.prog 17 #[.agg #[.int .i64 N, .bool on, .bool out]] W (Ret (.bool k1) W) := fun W => hK1 ▸ specFanOk N on out W
    have cRs : ∀ W, Calls Try.prog 18 #[.agg #[.int .i64 v, .int .i64 a, .bool o]] W (Ret (.bool k2) W) := fun W => hK2 ▸ rd.specReadingOk v a o W
    have hR : right (N, on, out) x (v, a, o) = (k1 && (inb x 0 1000 && k2)) := by rw [← hK1, ← hK2]; rfl
    have HZ := Lib.hid (fun h => watched_zero hT (hR.trans h))
    have HO := Lib.hid (fun h => watched_out hT (hR.trans h))
    have HS := Lib.hid (fun h => watched_same hT (hR.trans h))
    clear hT hK1 hK2 hR
    have a3 := (Has.fresh w1 27 #[.int .i64 N, .bool on, .bool out]).alloc (Obj.cells #[.int .i64 v, .int .i64 a, .bool o] 29)
    have a5 := fresh1 w1 (Obj.cells #[.int .i64 N, .bool on, .bool out] 27) 29 #[.int .i64 v, .int .i64 a, .bool o]
    replace g0 := gr_alloc (gr_alloc g0 (Obj.cells #[.int .i64 N, .bool on, .bool out] 27)) (Obj.cells #[.int .i64 v, .int .i64 a, .bool o] 29)
    go_wp2_with fail
    refine (cWi _).mono ?_
    rintro e w3 ⟨rfl, hg⟩
    replace a3 := (a3.grown hg (by simp)).alloc (Obj.cells #[.int .i64 T1, .bool T2, .bool T3] 27)
    replace a5 := (a5.grown hg (by simp)).alloc (Obj.cells #[.int .i64 T1, .bool T2, .bool T3] 27)
    have a6 := Has.fresh w3 27 #[.int .i64 T1, .bool T2, .bool T3]
    replace g0 := gr_alloc (gr_trans g0 hg) (Obj.cells #[.int .i64 T1, .bool T2, .bool T3] 27)
    clear hg cWi
    go_wp2_with fail
    refine (drawOutIn b n c _ hn (bytes_grown hb g0)).mono ?_
    rintro e w4 ⟨al, cl, l, rfl, hl8, hg, hA⟩
    have F0 : Tri w4 w1.heap.size (w1.heap.size + 1) w3.heap.size N v a T1 on out o T2 T3 := ⟨a3.grown hg (by simp), a5.grown hg (by simp), a6.grown hg (by simp)⟩
    replace g0 := gr_trans g0 hg
    clear hg a3 a5 a6 hb
    obtain ⟨L, hL⟩ : ∃ X, outIn l = X := ⟨_, rfl⟩
    have cLi : ∀ W, Arg W al l → Calls Try.prog 12 #[.slice al l.length cl] W (RetI L W) := fun W h => hL ▸ implOutIn al cl l W h (by omega)
    have cLs : ∀ W, Arg W al l → Calls Try.prog 15 #[.slice al l.length cl] W (RetI L W) := fun W h => hL ▸ specOutIn al cl l W h (by omega)
    have hL6 : L.length ≤ 6 := hL ▸ outIn_len l
    have HP := Lib.hid (hL ▸ outIn_pw l : L.Pairwise fun x y => x < y)
    clear hL
    go_wp2_with fail
    refine (cLi _ hA).mono ?_
    rintro e w5 ⟨ao, co, rfl, hg, hO, _⟩
    replace F0 := F0.kept hg
    replace hA := hA.kept hg
    replace g0 := gr_trans g0 hg
    clear hg cLi
    have hqN := fun W => neqF_same W T1 T2 T3
    have hGd := guardF
    go_wp2_with fail
    generalize w1.heap.size = bp at *
    generalize w3.heap.size = bq at *
    have L0 : Arg w5.drew al l := hA
    have O0 : il.Ints w5.drew ao L := hO.ints
    have E0 : Tri w5.drew bp (bp + 1) bq N v a T1 on out o T2 T3 := F0
    obtain ⟨⟨c30, c31, c32⟩, ⟨c50, c51, c52⟩, c60, c61, c62⟩ := F0.cells
    go_region_held3 (fun W => (W.cell? ⟨bp, 0, none⟩ = some (.int .i64 N) ∧ W.cell? ⟨bp, 1, none⟩ = some (.bool on) ∧ W.cell? ⟨bp, 2, none⟩ = some (.bool out)) ∧ (W.cell? ⟨bp + 1, 0, none⟩ = some (.int .i64 v) ∧ W.cell? ⟨bp + 1, 1, none⟩ = some (.int .i64 a) ∧ W.cell? ⟨bp + 1, 2, none⟩ = some (.bool o)) ∧ (W.cell? ⟨bq, 0, none⟩ = some (.int .i64 T1) ∧ W.cell? ⟨bq, 1, none⟩ = some (.bool T2) ∧ W.cell? ⟨bq, 2, none⟩ = some (.bool T3)))
      (first | exact E5.cells | exact E4.cells | exact E3.cells | exact E2.cells | exact E1.cells | exact E0.cells)
      (first | (go_at_call 13; refine (cWs _).mono ?_; rintro e v1 ⟨rfl, hg1⟩; have E1 := E0.kept hg1; have L1 := L0.kept hg1; have O1 := O0.kept hg1) | (go_at_call 15; refine (cLs _ L1).mono ?_; rintro e v2 ⟨a7, c7, rfl, hg2, O7, _⟩; have E2 := E1.kept hg2; have O2 := O1.kept hg2) | (go_at_call 14; refine (il.likeInts _ _ _ _ _ _ O2 O7.ints (by omega)).mono ?_; rintro e v3 ⟨rfl, hg3⟩; have E3 := E2.kept hg3; have O3 := O2.kept hg3) | (go_at_call 16; refine (cKi _).mono ?_; rintro e v4 ⟨rfl, hg4⟩; have E4 := E3.kept hg4; have O4 := O3.kept hg4) | (go_at_call 17; refine (cKs _).mono ?_; rintro e v5 ⟨rfl, hg5⟩; have E5 := E4.kept hg5; have O5 := O4.kept hg5))
    replace g0 := gr_trans (gr_trans (gr_trans (gr_trans (gr_trans (gr_drewN g0 1) hg1) hg2) hg3) hg4) hg5
    clear E0 E1 E2 E3 E4 L0 L1 O0 O1 O2 O3 O4 O7 hg1 hg2 hg3 hg4 hg5 cLs hqN F0 hA hO cWs cKi c30 c31 c32 c50 c51 c52 c60 c61 c62
    go_wp2_with fail
    go_loopw [9] (fun i wr => ∃ k : Nat, 1 ≤ k ∧ k ≤ max 1 L.length ∧ i = .int .i64 k ∧ v5.grownBy wr none) (fun i _ => 1 + L.length - (intOf i).toNat)
    case atStart => exact ⟨1, Nat.le_refl _, by omega, rfl, gr_refl _ _⟩
    case round =>
      obtain ⟨k, hk1, hk, rfl, hg⟩ := hrel
      replace O5 := O5.kept hg
      by_cases hlt : k < L.length
      · obtain ⟨y, rfl, _, cy⟩ := O5 k hlt
        have hjl : k - 1 < L.length := by omega
        have hj : (k : Int) - 1 = ((k - 1 : Nat) : Int) := by omega
        have hlt2 := pw_at HP.out (by omega) hlt
        generalize k - 1 = j at *
        obtain ⟨y', e', _, cz⟩ := O5 j hjl
        injection e' with e'
        subst e'
        have hdd : decide (nth L k ≤ nth L j) = false := by simp; omega
        clear hlt2
        go_wp2_with fail
        go_quiet (fail)
        go_wp2_with fail
        go_roundw
        case rel => exact ⟨k + 1, by omega, by omega, by go_num, gr_drewN hg _⟩
        case measure => simp [intOf]; omega
      · have hd : decide ((k : Int) < (L.length : Int)) = false := by simp; omega
        replace E5 := E5.kept hg
        replace g0 := gr_trans g0 hg
        clear HP hg O5
        obtain ⟨⟨c30, c31, c32⟩, ⟨c50, c51, c52⟩, c60, c61, c62⟩ := E5.cells
        go_wp2_with fail
        refine (cKs _).mono ?_
        rintro e u1 ⟨rfl, hg⟩
        replace E5 := E5.kept hg
        replace g0 := gr_trans g0 hg
        clear hg c30 c31 c32 c50 c51 c52 c60 c61 c62
        obtain ⟨⟨c30, c31, c32⟩, ⟨c50, c51, c52⟩, c60, c61, c62⟩ := E5.cells
        cases k1
        · obtain ⟨rfl, rfl, rfl⟩ := HZ.out rfl
          have hE := fun W => eqlF_same W 0 false false
          clear HZ HO HS
          go_wp2_with fail
          go_ret
          exact ⟨rfl, below_of_none g0⟩
        · by_cases h0 : x < 0
          · have d0 : decide (x < 0) = true := by simp [h0]
            have hi : inb x 0 1000 = false := inb_no (by omega)
            obtain ⟨rfl, rfl, rfl⟩ := HZ.out (by rw [hi]; rfl)
            have hE := fun W => eqlF_same W 0 false false
            clear HZ HO HS hi
            go_wp2_with fail
            go_ret
            exact ⟨rfl, below_of_none g0⟩
          · have d0 : decide (x < 0) = false := by simp [h0]
            by_cases h1 : 1000 < x
            · have d1 : decide (1000 < x) = true := by simp [h1]
              have hi : inb x 0 1000 = false := inb_no (by omega)
              obtain ⟨rfl, rfl, rfl⟩ := HZ.out (by rw [hi]; rfl)
              have hE := fun W => eqlF_same W 0 false false
              clear HZ HO HS hi
              go_wp2_with fail
              go_ret
              exact ⟨rfl, below_of_none g0⟩
            · have d1 : decide (1000 < x) = false := by simp [h1]
              have hi : inb x 0 1000 = true := inb_iff.2 (by omega)
              rw [hi] at HZ HO HS
              clear hi
              go_wp2_with fail
              refine (cRs _).mono ?_
              rintro e u2 ⟨rfl, hg⟩
              replace E5 := E5.kept hg
              replace g0 := gr_trans g0 hg
              clear hg c30 c31 c32 c50 c51 c52 c60 c61 c62
              obtain ⟨⟨c30, c31, c32⟩, ⟨c50, c51, c52⟩, c60, c61, c62⟩ := E5.cells
              cases k2
              · obtain ⟨rfl, rfl, rfl⟩ := HZ.out rfl
                have hE := fun W => eqlF_same W 0 false false
                clear HZ HO HS
                go_wp2_with fail
                go_ret
                exact ⟨rfl, below_of_none g0⟩
              · clear HZ
                replace HO := Lib.hid (HO.out rfl)
                replace HS := Lib.hid (HS.out rfl)
                by_cases h2 : x < 100
                · have d2 : decide (100 ≤ x) = false := by simp; omega
                  obtain ⟨rfl, rfl⟩ := HS.out h2
                  have hE := fun W => eqlO_same W T1 T2
                  have hG2 := guardO
                  clear HS
                  cases out
                  · clear HO
                    go_wp2_with fail
                    go_ret
                    exact ⟨rfl, below_of_none g0⟩
                  · obtain rfl := HO.out rfl
                    clear HO
                    go_wp2_with fail
                    go_ret
                    exact ⟨rfl, below_of_none g0⟩
                · have d2 : decide (100 ≤ x) = true := by simp; omega
                  clear HS
                  cases out
                  · clear HO
                    go_wp2_with fail
                    go_ret
                    exact ⟨rfl, below_of_none g0⟩
                  · obtain rfl := HO.out rfl
                    clear HO
                    go_wp2_with fail
                    go_ret
                    exact ⟨rfl, below_of_none g0⟩
end Go.Proofs.Ytdpoecebjjcicaa.fan
