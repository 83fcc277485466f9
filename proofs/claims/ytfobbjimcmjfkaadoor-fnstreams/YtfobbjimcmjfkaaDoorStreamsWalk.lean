/- The law FnStreams. -/
import Derived.Test.YtfobbjimcmjfkaaDoorInWalk
import Derived.Test.YtfobbjimcmjfkaaDoorStCut
import Derived.Test.YtfobbjimcmjfkaaDoorStLike
import Derived.Test.YtfobbjimcmjfkaaDoorStDraw5
namespace Go.Proofs.YtfobbjimcmjfkaaDoor.stm
open Go.ChangeShapes Go.WideShapes Go.ChangeAt Go.RowKit
open Go.Proofs.YtfobbjimcmjfkaaDoor.nums Go.Proofs.YtfobbjimcmjfkaaDoor.mem Go.Proofs.YtfobbjimcmjfkaaDoor.txt Go.Proofs.YtfobbjimcmjfkaaDoor.fix Go.Proofs.YtfobbjimcmjfkaaDoor.frm
open Go.Proofs.YtfobbjimcmjfkaaDoor.cur (Cur Bytes)
open Go.Proofs.YtfobbjimcmjfkaaDoor.tab (Ret quiet_w wpList_make_has add_off)
set_option linter.unusedVariables false

def noise : List UInt8 := [110, 111, 105, 115, 101, 10]
theorem noise_str (s : List UInt8) : (ByteArray.mk #[110, 111, 105, 115, 101, 10] ++ ByteArray.mk s.toArray) = ByteArray.mk (noise ++ s).toArray := str_app [110, 111, 105, 115, 101, 10] s
theorem noise_call (rd : List UInt8 → Option Fr) (hrd : ∀ s, IsRead s (rd s)) (s : List UInt8) (W : World) (hs : s.length ≤ 900) (hV : Vals W) (hP : Pow W) :
    Calls Tryd.prog 9 #[.string (ByteArray.mk #[110, 111, 105, 115, 101, 10] ++ ByteArray.mk s.toArray)] W (InOut (frsOf rd s) (rstOf rd (noise ++ s)) W) := by
  have h := implIn rd hrd (noise ++ s) W (by simp [noise]; omega) hV hP
  rw [show frsOf rd (noise ++ s) = frsOf rd s from noise_read hrd s hs] at h
  rw [noise_str]
  exact h
theorem cut_call (rd : List UInt8 → Option Fr) (hrd : ∀ s, IsRead s (rd s)) (s : List UInt8) (k : Nat) (W : World) (hs : s.length ≤ 10000) (hV : Vals W) (hP : Pow W) :
    Calls Tryd.prog 9 #[.string ((ByteArray.mk s.toArray).extract 0 k)] W (InOut (frsOf rd (s.take k)) (rstOf rd (s.take k)) W) := by
  rw [str_piece, List.drop_zero]
  exact implIn rd hrd (s.take k) W (by simp; omega) hV hP
theorem rest_call (rd : List UInt8 → Option Fr) (hrd : ∀ s, IsRead s (rd s)) (s t : List UInt8) (k : Nat) (W : World) (hs : s.length ≤ 10000) (ht : t.length ≤ 60) (hV : Vals W) (hP : Pow W) :
    Calls Tryd.prog 9 #[.string (ByteArray.mk t.toArray ++ (ByteArray.mk s.toArray).extract k s.length)] W (InOut (frsOf rd (t ++ s.drop k)) (rstOf rd (t ++ s.drop k)) W) := by
  rw [str_drop, str_app]
  exact implIn rd hrd (t ++ s.drop k) W (by simp; omega) hV hP

set_option maxRecDepth 100000 in
set_option maxHeartbeats 4000000 in
theorem streamsLaw (b0 : Option Addr) (n0 c0 : Nat) (w : World) (hb : Bytes w w.heap.size b0 n0) (hv : Vals w) (hp : Pow w) :
    Calls Tryd.prog 3 #[.slice b0 n0 c0] w fun e w' => e = .returned (.bool true) ∧ Below w.heap.size w w' := by
  by_cases hn : n0 ≤ 4096
  · have hd : decide (4096 < n0) = false := by simp; omega
    obtain ⟨rd, hrd⟩ := rd_ex
    go_enter Tryd.func3, Tryd.ntmps3
    go_wp2_with (go_at_call 7; refine (cur.big _ _ _ _).mono ?_; rintro e w' ⟨rfl, rfl⟩)
    refine (drawStream b0 n0 c0 _ hn hb).mono ?_
    rintro e w1 ⟨s, rfl, hsl, g0⟩
    clear hd
    obtain ⟨h50, h6⟩ := frs_small hrd s
    have h6' : ∀ k, k < (frsOf rd s).length → (fv (frsOf rd s) k).length ≤ 1000 := fun k hk => by have := h6 k hk; omega
    have cI := fun W hV hP => implIn rd hrd s W (by omega) hV hP
    have cS := fun W => specIn_ rd hrd s W (by omega)
    have hB : 4000 < s.length → frsOf rd s = [] ∧ rstOf rd s = [] := fun h => ⟨by rw [frsOf, if_pos h], by rw [rstOf, if_pos h]⟩
    have hN : s.length ≤ 900 → ∀ W, Vals W → Pow W → Calls Tryd.prog 9 #[.string (ByteArray.mk #[110, 111, 105, 115, 101, 10] ++ ByteArray.mk s.toArray)] W (InOut (frsOf rd s) (rstOf rd (noise ++ s)) W) := fun h W hV hP => noise_call rd hrd s W h hV hP
    have hC : s.length ≤ 900 → (frsOf rd s).length ≤ 40 → ∀ k, frsOf rd (s.take k) ++ frsOf rd (rstOf rd (s.take k) ++ s.drop k) = frsOf rd s ∨ (60 < k ∧ rstOf rd (s.take k) = []) := fun h1 h2 k => cut_read rd s k h1 h2
    generalize hfs : frsOf rd s = fs at *
    generalize rstOf rd s = r at *
    replace hB := Lib.hid hB
    replace hN := Lib.hid hN
    replace hC := Lib.hid hC
    clear h6 hfs
    go_wp2_with fail
    refine (cI _ (hv.kept g0) (Pow.kept hp g0)).mono ?_
    rintro e w2 ⟨al, cl, pl, rfl, g2, oL, -, -, -⟩
    have fL := oL.frs
    replace g0 := gr_trans g0 g2
    have hww := g0.size
    clear g2 cI
    go_wp2_with fail
    refine (cS _).mono ?_
    rintro e w3 ⟨am, cm, pm, rfl, g3, oM, -, -, -⟩
    replace fL := fL.kept g3
    have hw3 := g3.size
    replace g0 := gr_trans g0 g3
    clear g3 cS
    go_wp2_with fail
    refine (likeFrames _ _ _ _ fs fs pl pm _ fL oM.frs (by omega) (by omega) h6' h6').mono ?_
    rintro e w4 ⟨v4, rfl, g4, hv4⟩
    obtain rfl := hv4 rfl
    replace fL := fL.kept g4
    have hw4 := Nat.le_trans hw3 g4.size
    replace g0 := gr_trans g0 g4
    clear g4 oM hv4 hw3
    by_cases hbig : 4000 < s.length
    · obtain ⟨rfl, rfl⟩ := hB.out hbig
      have hbig' : decide (4000 < (s.length : Int)) = true := by simp; omega
      go_wp2_with fail
      go_ret
      exact ⟨rfl, below_of_none g0⟩
    · have hbig' : decide (4000 < (s.length : Int)) = false := by simp; omega
      by_cases h9 : 900 < s.length
      · have h9' : decide (900 < (s.length : Int)) = true := by simp; omega
        go_wp2_with fail
        go_ret
        exact ⟨rfl, below_of_none g0⟩
      · have h9' : decide (900 < (s.length : Int)) = false := by simp; omega
        by_cases h40 : 40 < fs.length
        · have h40' : decide (40 < (fs.length : Int)) = true := by simp; omega
          go_wp2_with fail
          go_ret
          exact ⟨rfl, below_of_none g0⟩
        · have h40' : decide (40 < (fs.length : Int)) = false := by simp; omega
          replace hC := Lib.hid (hC.out (by omega) (by omega))
          have cN : ∀ W, Vals W → Pow W → Calls Tryd.prog 9 #[.string (ByteArray.mk #[110, 111, 105, 115, 101, 10] ++ ByteArray.mk s.toArray)] W (InOut fs (rstOf rd (noise ++ s)) W) := fun W hV hP => hN.out (by omega) W hV hP
          clear hN hB
          go_wp2_with fail
          refine (cN _ (hv.kept g0) (Pow.kept hp g0)).mono ?_
          rintro e w5 ⟨an, cn, pn, rfl, g5, oN, -, -, -⟩
          replace fL := fL.kept g5
          replace hw4 := Nat.le_trans hw4 g5.size
          replace g0 := gr_trans g0 g5
          clear g5 cN
          go_wp2_with fail
          refine (likeFrames _ _ _ _ fs fs pn pl _ oN.frs fL (by omega) (by omega) h6' h6').mono ?_
          rintro e w6 ⟨v6, rfl, g6, hv6⟩
          obtain rfl := hv6 rfl
          replace fL := fL.kept g6
          replace hw4 := Nat.le_trans hw4 g6.size
          replace g0 := gr_trans g0 g6
          clear g6 oN hv6
          have hb6 : Bytes w6 w.heap.size b0 n0 := hb.below (Nat.le_refl _) (below_of_none g0)
          go_wp2_with fail
          refine (pick b0 n0 c0 w.heap.size _ _ _ hn hb6 (by omega) (by omega) (by omega) (by omega)).mono ?_
          rintro e w7 ⟨ct, k0, k1, rfl, rfl⟩
          obtain ⟨k, rfl⟩ := Int.eq_ofNat_of_zero_le k0
          have hk : k ≤ s.length := by omega
          have hk' : (k : Int) ≤ s.length := by omega
          clear k0 k1 hb6
          have hcut := Lib.hid (hC.out k)
          have hsm1 := frs_small hrd (s.take k)
          have hsm2 := frs_small hrd (rstOf rd (s.take k) ++ s.drop k)
          have hrl : (rstOf rd (s.take k)).length ≤ 60 := by
            unfold rstOf rest
            split
            · simp
            · split
              · simp
              · omega
          have cA := fun W hV hP => cut_call rd hrd s k W (by omega) hV hP
          have cB := fun W hV hP => rest_call rd hrd s (rstOf rd (s.take k)) k W (by omega) hrl hV hP
          clear hC hrd
          generalize frsOf rd (rstOf rd (s.take k) ++ s.drop k) = fB at *
          generalize rstOf rd (rstOf rd (s.take k) ++ s.drop k) = rB at *
          generalize frsOf rd (s.take k) = fA at *
          generalize rstOf rd (s.take k) = rA at *
          obtain ⟨a50, a6⟩ := hsm1
          obtain ⟨b50, b6⟩ := hsm2
          go_wp2_with fail
          refine (cA _ (hv.kept g0) (Pow.kept hp g0)).mono ?_
          rintro e w8 ⟨aa, ca, pA, rfl, g8, -, -, LA, -⟩
          replace fL := fL.kept g8
          have hbase : w2.heap.size ≤ w6.heap.size := hw4
          replace g0 := gr_trans g0 g8
          clear cA
          go_wp2_with fail
          refine (cB _ (hv.kept g0) (Pow.kept hp g0)).mono ?_
          rintro e w9 ⟨ab, cb, pB, rfl, g9, -, -, LB, -⟩
          have hlow := LA.lt.1
          have LA9 := LA.kept g9
          replace fL := fL.kept g9
          have hs9 := Nat.le_trans g8.size g9.size
          replace g0 := gr_trans g0 g9
          have hoff : ∀ j d, j < fB.length → blkV (pa pB j) (fv fB j) d → (Value.slice aa fA.length ca).ownBlock ≠ some d := fun j d hj hd e => by
            have h1 := (LB.off j d hj hd).1
            have h2 := hlow d e
            omega
          have hge : ∀ d, (Value.slice aa fA.length ca).ownBlock = some d → w6.heap.size ≤ d := fun d e => (LA.row.lt d e).1
          clear cB g8 g9 LA hlow
          have hfa : ∀ j, j < (fA ++ fB).length → (fv (fA ++ fB) j).length ≤ 1000 := fun j hj => by
            rw [fk_app]
            split
            · rename_i h; have := a6 j h; omega
            · have := b6 (j - fA.length) (by simp at hj; omega); omega
          go_wp2_with (at_builtin; refine wpList_cat rfl _ _ rfl rfl rfl LA9 LB (by omega) hoff (by omega) ?_; intro a' cap' w10 fC hc10)
          have hS : ∀ d, (Value.slice aa fA.length ca).ownBlock = some d → w2.heap.size ≤ d := fun d e => Nat.le_trans hbase (hge d e)
          replace fL := oL.apart fL hc10 hS
          replace g0 := Chg.gr g0 hc10 (fun d e => by have := hge d e; have := g0.size; omega)
          have cL := likeFrames a' al cap' cl (fA ++ fB) fs (pA ++ pB) pl w10 fC fL (by simp; omega) (by omega) hfa h6'
          rw [List.length_append] at cL
          refine cL.mono ?_
          rintro e w11 ⟨v11, rfl, g11, hv11⟩
          replace g0 := gr_trans g0 g11
          cases v11
          · rcases hcut.out with he | ⟨h60, rfl⟩
            · have := hv11 he; cases this
            · have h60' : decide (60 < (k : Int)) = true := by simp; omega
              go_wp2_with fail
              go_ret
              exact ⟨rfl, below_of_none g0⟩
          · go_wp2_with fail
            go_ret
            exact ⟨rfl, below_of_none g0⟩
  · have hd : decide (4096 < n0) = true := by simp; omega
    go_enter Tryd.func3, Tryd.ntmps3
    go_wp2_with (go_at_call 7; refine (cur.big _ _ _ _).mono ?_; rintro e w' ⟨rfl, rfl⟩)
    go_ret
    exact ⟨rfl, Below.refl _ _⟩
end Go.Proofs.YtfobbjimcmjfkaaDoor.stm
