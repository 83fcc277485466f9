/- A list of frames of one's own, marked from any number on; the bulk of such a list, from any bulk on. The law FnExactFed. -/
import Derived.Test.YtjbgcgblamijdaaGreatDoorG19
import Derived.Test.YtjbgcgblamijdaaGreatDoorG33
import Derived.Test.YtjbgcgblamijdaaGreatDoorG35
import Derived.Test.YtjbgcgblamijdaaGreatDoorG26
/- A list of frames of one's own, marked from any number on; the bulk of such a list, from any bulk on. -/
namespace Go.Proofs.YtjbgcgblamijdaaGreatDoor.stm
open Go.ChangeShapes Go.WideShapes Go.ChangeAt Go.RowKit
open Go.Proofs.YtjbgcgblamijdaaGreatDoor.nums Go.Proofs.YtjbgcgblamijdaaGreatDoor.mem Go.Proofs.YtjbgcgblamijdaaGreatDoor.txt Go.Proofs.YtjbgcgblamijdaaGreatDoor.fix Go.Proofs.YtjbgcgblamijdaaGreatDoor.frm
open Go.Proofs.YtjbgcgblamijdaaGreatDoor.tab (Ret quiet_w wpList_make_has add_off)
set_option linter.unusedVariables false

/-- Where the marks of frame i begin. -/
def mpo (o : Nat) (fs : List Fr) (i : Nat) : Nat := o + mpos fs i
theorem mpo_zero (o : Nat) (fs : List Fr) : mpo o fs 0 = o + 1 := rfl
theorem mpo_succ (o : Nat) (fs : List Fr) (i : Nat) : mpo o fs (i + 1) = mpo o fs i + 2 + (fv fs i).length := by simp only [mpo, mpos]; omega
def MarkedO (o : Nat) (a : Option Addr) (fs : List Fr) (ps : List Pl) (w : World) (e : Ending) (w' : World) : Prop := e = .returned (.int .i64 (mpo o fs fs.length : Int)) ∧ Chg (blkF a fs ps) w w'

/-- Where the marking stands: i frames are marked. -/
structure Mko (o : Nat) (fs : List Fr) (ps : List Pl) (g : Nat) (w : World) (i : Nat) (A : Array Value) (wr : World) : Prop where
  all : ∀ j, j < fs.length → (∃ u, A[j * 3]? = some u) ∧ (∃ u, A[j * 3 + 1]? = some u) ∧ A[j * 3 + 2]? = some (.slice (pa ps j) (fv fs j).length (pc ps j))
  own : ∀ j, i ≤ j → j < fs.length → OwnV wr (pa ps j) (fv fs j)
  ne : ∀ j, j < fs.length → ¬ blkV (pa ps j) (fv fs j) g
theorem Mko.next {o : Nat} {fs : List Fr} {ps : List Pl} {g : Nat} {w wr w1 : World} {i : Nat} {A : Array Value} (h : Mko o fs ps g w i A wr) (hi : i < fs.length)
    (hd : ∀ i j b, i < fs.length → j < fs.length → i ≠ j → blkV (pa ps i) (fv fs i) b → ¬ blkV (pa ps j) (fv fs j) b)
    (hc : Chg (blkV (pa ps i) (fv fs i)) ((wr.setCell ⟨g, i * 3, none⟩ (.int .i64 (mpo o fs i : Int))).setCell ⟨g, i * 3 + 1, none⟩ (.int .i64 ((mpo o fs i : Int) + 1))) w1) :
    Mko o fs ps g w (i + 1) ((A.setIfInBounds (i * 3) (.int .i64 (mpo o fs i : Int))).setIfInBounds (i * 3 + 1) (.int .i64 ((mpo o fs i : Int) + 1))) w1 := by
  have hset : Chg (fun b => b = g) wr ((wr.setCell ⟨g, i * 3, none⟩ (.int .i64 (mpo o fs i : Int))).setCell ⟨g, i * 3 + 1, none⟩ (.int .i64 ((mpo o fs i : Int) + 1))) :=
    chg_of_gr (gr_set (gr_set (gr_refl wr (some g)) _ _) _ _) (fun b e => by injection e)
  obtain ⟨⟨u0, e0⟩, ⟨u1, e1⟩, e2⟩ := h.all i hi
  have s0 : i * 3 < A.size := (Array.getElem?_eq_some_iff.1 e0).1
  have s1 : i * 3 + 1 < A.size := (Array.getElem?_eq_some_iff.1 e1).1
  refine ⟨fun j hj => ?_, fun j hj hjl => ?_, h.ne⟩
  · obtain ⟨⟨v0, f0⟩, ⟨v1, f1⟩, f2⟩ := h.all j hj
    by_cases e : j = i
    · subst e
      refine ⟨⟨_, by rw [set_other (by omega), set_same s0]⟩, ⟨_, by rw [set_same (by simpa using s1)]⟩, ?_⟩
      rw [set_other (by omega), set_other (by omega)]; exact f2
    · refine ⟨⟨v0, ?_⟩, ⟨v1, ?_⟩, ?_⟩
      · rw [set_other (by omega), set_other (by omega)]; exact f0
      · rw [set_other (by omega), set_other (by omega)]; exact f1
      · rw [set_other (by omega), set_other (by omega)]; exact f2
  · exact hc.ownV (hset.ownV (h.own j (by omega) hjl) (fun b hb eg => h.ne j hjl (eg ▸ hb))) (fun b hb hb' => hd j i b hjl hi (by omega) hb hb')

set_option maxRecDepth 100000 in
set_option maxHeartbeats 2000000 in
theorem markO (o : Nat) (a : Option Addr) (cap : Nat) (fs : List Fr) (ps : List Pl) (w : World) (h : OwnFs w a fs ps) (hm : mpos fs fs.length ≤ 5000000) (ho : o ≤ 4000000) : Calls Tryz.prog 28 #[.slice a fs.length cap, .int .i64 (mpo o fs 0 : Int)] w (MarkedO o a fs ps w) := by
  by_cases hv : fs = []
  · subst hv
    go_enter Tryz.func28, Tryz.ntmps28
    go_wp2_with fail
    go_loopw [1, 5] (fun p i wr => w = wr ∧ p = .int .i64 (mpo o [] 0 : Int) ∧ i = .int .i64 0) (fun _ _ _ => 0)
    case atStart => exact ⟨rfl, rfl, rfl⟩
    case round =>
      obtain ⟨rfl, rfl, rfl⟩ := hrel
      go_wp2_with fail
      go_ret
      exact ⟨rfl, Chg.refl _ _⟩
  · obtain ⟨g, cs, rfl, hc, hj, hd⟩ := h.resolve_left hv
    have HV := Lib.hid hv
    have HL : ∀ i, i < fs.length → mpos fs i + 2 + (fv fs i).length ≤ 5000000 := fun i hi => Nat.le_trans (mpos_le fs (show i + 1 ≤ fs.length by omega)) hm
    have hlen : fs.length ≤ 5000000 := by
      have : ∀ i, i ≤ mpos fs i := fun i => by
        induction i with
        | zero => simp
        | succ i ih => simp only [mpos]; omega
      exact Nat.le_trans (this _) hm
    have M0 : Mko o fs ps g w 0 cs w := ⟨fun j hj' => ⟨⟨_, (hj j hj').1⟩, ⟨_, (hj j hj').2.1⟩, (hj j hj').2.2.1⟩, fun j _ hj' => (hj j hj').2.2.2, fun j hj' => (hj j hj').2.2.2.ne hc (by decide)⟩
    clear hv h hj
    go_enter Tryz.func28, Tryz.ntmps28
    go_wp2_with fail
    go_loopw [1, 5] (fun p i wr => ∃ (k : Nat) (A : Array Value), k ≤ fs.length ∧ i = .int .i64 k ∧ p = .int .i64 (mpo o fs k : Int) ∧ Has wr g 62 A ∧ Mko o fs ps g w k A wr ∧ Chg (blkF (some ⟨g, 0, none⟩) fs ps) w wr) (fun _ i _ => fs.length - (intOf i).toNat)
    case atStart => exact ⟨0, cs, Nat.zero_le _, rfl, rfl, hc, M0, Chg.refl _ _⟩
    case round =>
      clear M0
      obtain ⟨k, A, hk, rfl, rfl, hA, M, hg⟩ := hrel
      by_cases hlt : k < fs.length
      · obtain ⟨⟨u0, e0⟩, ⟨u1, e1⟩, e2⟩ := M.all k hlt
        have d0 := (hA.cell (k * 3)).trans e0
        have d1 := (hA.cell (k * 3 + 1)).trans e1
        have d2 := (hA.cell (k * 3 + 2)).trans e2
        have f0 := hA.frozen (k * 3)
        have f1 := hA.frozen (k * 3 + 1)
        have hmk : mpo o fs k + 2 + (fv fs k).length ≤ 9000000 := by have := HL k hlt; unfold mpo; omega
        have hset : Chg (fun b => b = g) wr ((wr.setCell ⟨g, k * 3, none⟩ (.int .i64 (mpo o fs k : Int))).setCell ⟨g, k * 3 + 1, none⟩ (.int .i64 ((mpo o fs k : Int) + 1))) :=
          chg_of_gr (gr_set (gr_set (gr_refl wr (some g)) _ _) _ _) (fun b e => by injection e)
        have hO := hset.ownV (M.own k (Nat.le_refl _) hlt) (fun b hb eg => M.ne k hlt (eg ▸ hb))
        have cM := markV (mpo o fs k + 2) (pa ps k) (pc ps k) (fv fs k) _ hO (by omega) (by omega)
        have hA2 := (hA.set (k * 3) (.int .i64 (mpo o fs k : Int))).set (k * 3 + 1) (.int .i64 ((mpo o fs k : Int) + 1))
        rw [show (((mpo o fs k + 2 : Nat)) : Int) = (mpo o fs k : Int) + 1 + 1 by omega] at cM
        clear e0 e1 e2 HL
        go_wp2_with fail
        refine cM.mono ?_
        rintro e w1 ⟨rfl, hc1, hI1⟩
        go_wp2_with fail
        go_roundw
        case rel => exact ⟨k + 1, _, by omega, by go_num, by rw [mpo_succ]; go_num, hc1.has hA2 (M.ne k hlt), M.next hlt hd hc1, hg.trans ((hset.mono (fun b e => Or.inl ⟨HV.out, _, rfl, e.symm⟩)).trans (hc1.mono (fun b hb => Or.inr ⟨k, hlt, hb⟩)))⟩
        case measure => simp [intOf]; omega
      · obtain rfl : k = fs.length := by omega
        go_wp2_with fail
        go_ret
        exact ⟨rfl, hg⟩

set_option maxRecDepth 100000 in
set_option maxHeartbeats 1000000 in
theorem szL (L : Nat) (hL : L ≤ 1048576) (a : Option Addr) (cap : Nat) (fs : List Fr) (ps : List Pl) (w : World) (h : Frs w a fs ps) (hl : fs.length ≤ maxLen) (hv : ∀ k, k < fs.length → (fv fs k).length ≤ maxLen) :
    Calls Tryz.prog 22 #[.slice a fs.length cap, .int .i64 L] w (SzOut fs w) := by
  have hm : fs.length ≤ 9223372036854775807 := by unfold maxLen at hl; exact hl
  clear hl
  by_cases hbig : fs.length ≤ L
  · have n0 : decide ((L : Int) - (fs.length : Int) < 0) = false := by simp; omega
    go_enter Tryz.func22, Tryz.ntmps22
    go_wp2_with fail
    go_loopw [1, 5] (fun p i wr => ∃ k : Nat, k ≤ fs.length ∧ i = .int .i64 k ∧ Hid (fs.length + tot fs k ≤ L) ∧ p = .int .i64 ((L - (fs.length + tot fs k) : Nat) : Int) ∧ w.grownBy wr none) (fun _ i _ => fs.length - (intOf i).toNat)
    case atStart => exact ⟨0, Nat.zero_le _, rfl, Lib.hid (by simp [tot]; omega), by simp only [tot]; congr 1; omega, gr_refl _ _⟩
    case round =>
      obtain ⟨k, hk, rfl, hs, rfl, hg⟩ := hrel
      by_cases hlt : k < fs.length
      · have h6 := hv k hlt
        have hs' := hs.out
        obtain ⟨x, rfl, _, cx, cy, cz, hI⟩ := (h.kept hg) k hlt
        have cS := szF (fk fs k) (fq fs k) (pa ps k) (fv fs k).length (pc ps k) (L - (fs.length + tot fs k)) wr h6 (by omega)
        generalize hLL : L - (fs.length + tot fs k) = LL at *
        have hLb : LL ≤ 1048576 := by omega
        by_cases hle : (fv fs k).length ≤ LL
        · rw [if_pos hle] at cS
          have n1 : decide ((LL : Int) - ((fv fs k).length : Int) < 0) = false := by simp; omega
          clear hI hv h n0
          go_wp2_with fail
          refine cS.mono ?_
          rintro e w1 ⟨rfl, hg1⟩
          go_wp2_with fail
          go_roundw
          case rel => exact ⟨k + 1, by omega, by go_num, Lib.hid (by simp only [tot]; omega), by simp only [tot]; congr 1; omega, gr_trans hg hg1⟩
          case measure => simp [intOf]; omega
        · rw [if_neg hle] at cS
          clear hI hv h n0
          go_wp2_with fail
          refine cS.mono ?_
          rintro e w1 ⟨rfl, hg1⟩
          go_wp2_with fail
          go_ret
          exact ⟨-1, rfl, gr_trans hg hg1, Or.inl rfl⟩
      · obtain rfl : k = fs.length := by omega
        have hs' := hs.out
        go_wp2_with fail
        go_ret
        exact ⟨_, rfl, hg, Or.inr ⟨by omega, by omega, by omega⟩⟩
  · have n0 : decide ((L : Int) - (fs.length : Int) < 0) = true := by simp; omega
    go_enter Tryz.func22, Tryz.ntmps22
    go_wp2_with fail
    go_ret
    exact ⟨-1, rfl, gr_refl _ _, Or.inl rfl⟩
end Go.Proofs.YtjbgcgblamijdaaGreatDoor.stm

/- The law FnExactFed. -/
namespace Go.Proofs.YtjbgcgblamijdaaGreatDoor.se
open Go.ChangeShapes Go.WideShapes Go.ChangeAt Go.RowKit
open Go.Proofs.YtjbgcgblamijdaaGreatDoor.nums Go.Proofs.YtjbgcgblamijdaaGreatDoor.mem
open Go.Proofs.YtjbgcgblamijdaaGreatDoor.tab (Ret)
open Go.Proofs.YtjbgcgblamijdaaGreatDoor.rd (R okR ageR zR rx ra ro OwnR)
open Go.Proofs.YtjbgcgblamijdaaGreatDoor.il (nth Ints Own)
open Go.Proofs.YtjbgcgblamijdaaGreatDoor.stm (Fr heard fv Frs Pl blkF OwnFs mpos mpo tot)
set_option linter.unusedVariables false
theorem bd_fed {s : S} (fs : List Fr) (h : Bd s 1048576) : Bd (fed s fs) 1048576 := by
  cases ho : ok s
  · rw [fed_no ho]; exact ⟨by simp [zS], by simp [zS], by simp [zS], by simp [zS]⟩
  · rw [fed_ok ho]
    obtain ⟨h1, h2, h3, h4⟩ := len_upto s fs 4
    exact ⟨by rw [h1]; exact h.1, by rw [h2]; exact h.2, by rw [h3]; exact h.3, by rw [h4]; omega⟩
theorem chg_stm {S : Nat → Prop} {w w' : World} (h : stm.Chg S w w') : Chg S w w' := ⟨h.os, h.tape, h.output, h.size, h.block⟩
theorem m4_bulk (m : Nat) (s : S) : m4 m s ≤ m + 3 * bulk s := by unfold m4 m3 m2 m1 bulk; omega
theorem m4_pos (s : S) : 1 ≤ m4 1 s := by unfold m4 m3 m2 m1; omega
set_option maxRecDepth 100000 in
set_option maxHeartbeats 4000000 in
theorem fedLaw (s : S) (p : P) (a1 : Option Addr) (cap1 : Nat) (fs : List Fr) (ps : List Pl) (w : World) (h : Arg w s p) (hL : Lim s) (hF : Frs w a1 fs ps) (hl : fs.length ≤ maxLen) (hv : ∀ k, k < fs.length → (fv fs k).length ≤ maxLen)
    (n f q : Addr) (hV : Vals w) (he : sane.ErrB w n f q) (ht : sane.ErrT w) (hr : Rgs w) :
    Calls Tryz.prog 5 #[sv s p, .slice a1 fs.length cap1] w fun e w' => e = .returned (.bool true) ∧ Below w.heap.size w w' := by
  have k0 := Has.fresh w 47 (cs6 s p)
  have g0 : w.grownBy (w.alloc (Obj.cells (cs6 s p) 47)) none := World.grownBy_alloc _ _ _
  obtain ⟨⟨c0, c1, c2⟩, c3, c4, c5⟩ := six k0
  have lb := k0.lt
  by_cases hb : bulk s ≤ 1048576
  · have B := bd_bulk hb
    have hz := fun W => szSenses_yes s p W hL hb
    obtain ⟨L, hLe, hLb⟩ : ∃ L : Nat, (1048576 - (bulk s : Int)) = L ∧ L ≤ 1048576 := ⟨1048576 - bulk s, by omega, by omega⟩
    rw [hLe] at hz
    have cZ := fun W (k : Frs W a1 fs ps) => stm.szL L hLb a1 cap1 fs ps W k hl hv
    have nn : decide ((L : Int) < 0) = false := by simp
    have hm4 : m4 1 s ≤ 4000000 := by have := m4_bulk 1 s; omega
    have hm1 := m4_pos s
    clear hl hv hb hLe
    go_enter Tryz.func5, Tryz.ntmps5
    go_wp2_with fail
    refine (hz _).mono ?_
    rintro e w1 ⟨rfl, r⟩
    replace k0 := k0.grown r (by simp)
    replace g0 := gr_trans g0 r
    clear c0 c1 c2 c3 c4 c5 r hz
    go_wp2_with fail
    refine (cZ _ (hF.kept g0)).mono ?_
    rintro e w2 ⟨left, rfl, r, hleft⟩
    replace k0 := k0.grown r (by simp)
    replace g0 := gr_trans g0 r
    clear cZ r nn
    rcases hleft with rfl | ⟨hl0, hl1, htot⟩
    · go_wp2_with fail
      go_ret
      exact ⟨rfl, below_of_none g0⟩
    · have n0 : decide (left < 0) = false := by simp; omega
      have hfl : fs.length ≤ 1048576 := by omega
      have hfv : ∀ k, k < fs.length → (fv fs k).length ≤ 1048576 := fun k hk => by have := stm.tot_one hk; omega
      have hmp : mpos fs fs.length ≤ 5000000 := by rw [stm.mpos_tot]; omega
      have BT := bd_fed fs B
      have cT := fun W hW => stm.toS a1 cap1 fs ps W hW htot
      have cS := fun P A C Q W (k : Arg W s P) (k2 : Frs W A fs Q) => specFed s P A C fs Q W k B k2 hfl hfv
      have cI := fun P A C Q W (k : Arg W s P) (k2 : Frs W A fs Q) (k3 : Vals W) (k4 : sane.ErrB W n f q) (k5 : sane.ErrT W) (k6 : Rgs W) => implFed s P A C fs Q n f q W k B k2 hfl hfv k3 k4 k5 k6
      have cE := fun A C Q A' C' Q' W hW hW' => stm.eqFrames A A' C C' fs Q Q' W hW hW' hfl hfv
      generalize fed s fs = t at *
      have hfv2 := Lib.hid hfv
      clear hfv
      obtain ⟨⟨c0, c1, c2⟩, c3, c4, c5⟩ := six k0
      go_wp2_with fail
      refine (toSenses s p _ (h.kept g0) B).mono ?_
      rintro e w3 ⟨pa, rfl, r, OA⟩
      replace k0 := k0.grown r (by simp)
      replace g0 := gr_trans g0 r
      clear c0 c1 c2 c3 c4 c5 r
      go_wp2_with fail
      refine (cT _ (hF.kept g0)).mono ?_
      rintro e w4 ⟨ga, qa, rfl, r, XA, -⟩
      replace k0 := k0.grown r (by simp)
      replace g0 := gr_trans g0 r
      replace OA := OA.kept r
      clear r
      go_wp2_with fail
      refine (cS _ _ _ _ _ OA.arg XA.frs).mono ?_
      rintro e w5 ⟨pw, rfl, r, OW⟩
      replace k0 := k0.grown r (by simp)
      replace g0 := gr_trans g0 r
      clear r OA XA cS
      have kw := Has.fresh w5 27 (cs6 t pw)
      replace k0 := k0.alloc (Obj.cells (cs6 t pw) 27)
      replace g0 := gr_alloc g0 (Obj.cells (cs6 t pw) 27)
      replace OW := OW.kept (World.grownBy_alloc w5 (Obj.cells (cs6 t pw) 27) none)
      have lw := kw.lt
      obtain ⟨⟨c0, c1, c2⟩, c3, c4, c5⟩ := six k0
      go_wp2_with fail
      generalize w5.heap.size = bw at *
      generalize w5.alloc (Obj.cells (cs6 t pw) 27) = w6 at *
      refine (toSenses s p _ (h.kept g0) B).mono ?_
      rintro e w7 ⟨px, rfl, r, OX⟩
      have lW : ∀ c, blkS t pw c → c < w6.heap.size := fun c hc => (OW.lt hc).2
      have lX : ∀ c, blkS s px c → w6.heap.size ≤ c ∧ c < w7.heap.size := fun c hc => OX.lt hc
      have z6 := k0.lt
      have z7 := r.size
      replace k0 := k0.grown r (by simp)
      replace kw := kw.grown r (by simp)
      replace g0 := gr_trans g0 r
      replace OW := OW.kept r
      clear c0 c1 c2 c3 c4 c5 r
      have kx := Has.fresh w7 27 (cs6 s px)
      replace k0 := k0.alloc (Obj.cells (cs6 s px) 27)
      replace kw := kw.alloc (Obj.cells (cs6 s px) 27)
      replace g0 := gr_alloc g0 (Obj.cells (cs6 s px) 27)
      replace OW := OW.kept (World.grownBy_alloc w7 (Obj.cells (cs6 s px) 27) none)
      replace OX := OX.kept (World.grownBy_alloc w7 (Obj.cells (cs6 s px) 27) none)
      have lx := kx.lt
      go_wp2_with fail
      have z8 : w7.heap.size + 1 ≤ (w7.alloc (Obj.cells (cs6 s px) 27)).heap.size := by simp
      generalize hbx : w7.heap.size = bx at *
      generalize w7.alloc (Obj.cells (cs6 s px) 27) = w8 at *
      refine (cT _ (hF.kept g0)).mono ?_
      rintro e w9 ⟨gx, qx, rfl, r, X1, bX⟩
      have lF : ∀ c, blkF (some ⟨gx, 0, none⟩) fs qx c → w8.heap.size ≤ c ∧ c < w9.heap.size := fun c hc => ⟨bX c hc, X1.lt hc⟩
      have z9 := r.size
      replace k0 := k0.grown r (by simp)
      replace kw := kw.grown r (by simp)
      replace kx := kx.grown r (by simp)
      replace g0 := gr_trans g0 r
      replace OW := OW.kept r
      replace OX := OX.kept r
      clear r bX
      obtain ⟨⟨d0, d1, d2⟩, d3, d4, d5⟩ := six kx
      go_wp2_with fail
      refine (cI _ _ _ _ _ OX.arg X1.frs (hV.kept g0) (he.kept g0) (ht.kept g0) (hr.kept g0)).mono ?_
      rintro e w10 ⟨pg, rfl, r, OG⟩
      have lG : ∀ c, blkS t pg c → w9.heap.size ≤ c ∧ c < w10.heap.size := fun c hc => OG.lt hc
      have z10 := r.size
      replace k0 := k0.grown r (by simp)
      replace kw := kw.grown r (by simp)
      replace kx := kx.grown r (by simp)
      replace g0 := gr_trans g0 r
      replace OW := OW.kept r
      replace OX := OX.kept r
      replace X1 := X1.kept r
      clear r d0 d1 d2 d3 d4 d5
      have kg := Has.fresh w10 27 (cs6 t pg)
      replace k0 := k0.alloc (Obj.cells (cs6 t pg) 27)
      replace kw := kw.alloc (Obj.cells (cs6 t pg) 27)
      replace kx := kx.alloc (Obj.cells (cs6 t pg) 27)
      replace g0 := gr_alloc g0 (Obj.cells (cs6 t pg) 27)
      replace OW := OW.kept (World.grownBy_alloc w10 (Obj.cells (cs6 t pg) 27) none)
      replace OX := OX.kept (World.grownBy_alloc w10 (Obj.cells (cs6 t pg) 27) none)
      replace X1 := X1.kept (World.grownBy_alloc w10 (Obj.cells (cs6 t pg) 27) none)
      replace OG := OG.kept (World.grownBy_alloc w10 (Obj.cells (cs6 t pg) 27) none)
      have lg := kg.lt
      obtain ⟨⟨d0, d1, d2⟩, d3, d4, d5⟩ := six kg
      obtain ⟨⟨c0, c1, c2⟩, c3, c4, c5⟩ := six kw
      go_wp2_with fail
      generalize hbg : w10.heap.size = bg at *
      generalize w10.alloc (Obj.cells (cs6 t pg) 27) = w11 at *
      refine (eqSenses t pg pw _ OG.arg OW.arg BT).mono ?_
      rintro e w12 ⟨rfl, r⟩
      replace k0 := k0.grown r (by simp)
      replace kw := kw.grown r (by simp)
      replace kx := kx.grown r (by simp)
      replace kg := kg.grown r (by simp)
      replace g0 := gr_trans g0 r
      replace OW := OW.kept r
      replace OX := OX.kept r
      replace X1 := X1.kept r
      replace OG := OG.kept r
      clear r c0 c1 c2 c3 c4 c5 d0 d1 d2 d3 d4 d5
      go_wp2_with fail
      have KS : ∀ W, w12.grownBy W none → ((W.cell? ⟨w.heap.size, 0, none⟩ = some (.slice p.a1 s.sp.length p.c1) ∧ W.cell? ⟨w.heap.size, 1, none⟩ = some (.slice p.a2 s.he.length p.c2) ∧ W.cell? ⟨w.heap.size, 2, none⟩ = some (.slice p.a3 s.fa.length p.c3)) ∧ W.cell? ⟨w.heap.size, 3, none⟩ = some (.int .i64 s.wn) ∧ W.cell? ⟨w.heap.size, 4, none⟩ = some (.bool s.ar) ∧ W.cell? ⟨w.heap.size, 5, none⟩ = some (.slice p.a4 s.sq.length p.c4)) ∧ ((W.cell? ⟨bx, 0, none⟩ = some (.slice px.a1 s.sp.length px.c1) ∧ W.cell? ⟨bx, 1, none⟩ = some (.slice px.a2 s.he.length px.c2) ∧ W.cell? ⟨bx, 2, none⟩ = some (.slice px.a3 s.fa.length px.c3)) ∧ W.cell? ⟨bx, 3, none⟩ = some (.int .i64 s.wn) ∧ W.cell? ⟨bx, 4, none⟩ = some (.bool s.ar) ∧ W.cell? ⟨bx, 5, none⟩ = some (.slice px.a4 s.sq.length px.c4)) := fun W h => ⟨six (k0.grown h (by simp)), six (kx.grown h (by simp))⟩
      go_region_held3 (fun W => ((W.cell? ⟨w.heap.size, 0, none⟩ = some (.slice p.a1 s.sp.length p.c1) ∧ W.cell? ⟨w.heap.size, 1, none⟩ = some (.slice p.a2 s.he.length p.c2) ∧ W.cell? ⟨w.heap.size, 2, none⟩ = some (.slice p.a3 s.fa.length p.c3)) ∧ W.cell? ⟨w.heap.size, 3, none⟩ = some (.int .i64 s.wn) ∧ W.cell? ⟨w.heap.size, 4, none⟩ = some (.bool s.ar) ∧ W.cell? ⟨w.heap.size, 5, none⟩ = some (.slice p.a4 s.sq.length p.c4)) ∧ ((W.cell? ⟨bx, 0, none⟩ = some (.slice px.a1 s.sp.length px.c1) ∧ W.cell? ⟨bx, 1, none⟩ = some (.slice px.a2 s.he.length px.c2) ∧ W.cell? ⟨bx, 2, none⟩ = some (.slice px.a3 s.fa.length px.c3)) ∧ W.cell? ⟨bx, 3, none⟩ = some (.int .i64 s.wn) ∧ W.cell? ⟨bx, 4, none⟩ = some (.bool s.ar) ∧ W.cell? ⟨bx, 5, none⟩ = some (.slice px.a4 s.sq.length px.c4)))
        (first | (refine KS _ ?_; (repeat (first | with_reducible exact gr_refl _ _ | with_reducible exact E2 | with_reducible exact E1 | with_reducible refine gr_drewA ?_)); done) | fail)
        (first | (go_at_call 23; refine (toSenses s p _ ((h.kept g0).kept (by (repeat (first | with_reducible exact gr_refl _ _ | with_reducible exact E2 | with_reducible exact E1 | with_reducible refine gr_drewA ?_)))) B).mono ?_; rintro e w13 ⟨p2, rfl, r1, O2⟩; have E1 : w12.grownBy w13 none := gr_trans (by (repeat (first | with_reducible exact gr_refl _ _ | with_reducible exact E2 | with_reducible exact E1 | with_reducible refine gr_drewA ?_))) r1) | (go_at_call 25; refine (eqSenses s px p2 _ (OX.arg.kept E1) O2.arg B).mono ?_; rintro e w14 ⟨rfl, r2⟩; have E2 : w12.grownBy w14 none := gr_trans E1 r2) | fail)
      replace k0 := k0.grown E2 (by simp)
      replace kw := kw.grown E2 (by simp)
      replace kx := kx.grown E2 (by simp)
      replace kg := kg.grown E2 (by simp)
      replace g0 := gr_trans g0 E2
      replace OW := OW.kept E2
      replace OX := OX.kept E2
      replace X1 := X1.kept E2
      replace OG := OG.kept E2
      clear KS E1 E2 r1 r2 O2
      go_wp2_with fail
      refine (cT _ (hF.kept g0)).mono ?_
      rintro e w15 ⟨gy, qy, rfl, r, XY, -⟩
      replace k0 := k0.grown r (by simp)
      replace kw := kw.grown r (by simp)
      replace kx := kx.grown r (by simp)
      replace kg := kg.grown r (by simp)
      replace g0 := gr_trans g0 r
      replace OW := OW.kept r
      replace OX := OX.kept r
      replace X1 := X1.kept r
      replace OG := OG.kept r
      clear r
      go_wp2_with fail
      refine (cE _ _ _ _ _ _ _ X1.frs XY.frs).mono ?_
      rintro e w16 ⟨rfl, r⟩
      replace k0 := k0.grown r (by simp)
      replace kw := kw.grown r (by simp)
      replace kx := kx.grown r (by simp)
      replace kg := kg.grown r (by simp)
      replace g0 := gr_trans g0 r
      replace OW := OW.kept r
      replace OX := OX.kept r
      replace X1 := X1.kept r
      replace OG := OG.kept r
      clear r XY cE
      obtain ⟨⟨d0, d1, d2⟩, d3, d4, d5⟩ := six kx
      go_wp2_with fail
      refine (markSenses 1 _ s px _ OX B (by omega)).mono ?_
      rintro e w17 ⟨rfl, C, -⟩
      replace g0 : w.grownBy w17 none := C.gr g0 (fun i hi => by have := (lX i hi).1; omega)
      replace k0 := C.has k0 (fun hc => by have := (lX _ hc).1; omega)
      replace kw := C.has kw (fun hc => by have := (lX _ hc).1; omega)
      replace kg := C.has kg (fun hc => by have := (lX _ hc).2; omega)
      replace OW := OW.chg C (fun c hc hd => by have := (lX _ hd).1; have := lW _ hc; omega)
      replace OG := OG.chg C (fun c hc hd => by have := (lX _ hd).2; have := (lG _ hc).1; omega)
      replace X1 := (show stm.Chg _ _ _ from ⟨C.os, C.tape, C.output, C.size, C.block⟩).ownFs X1 (fun c hc hd => by have := (lX _ hd).2; have := (lF _ hc).1; omega)
      clear C OX kx lX d0 d1 d2 d3 d4 d5
      obtain ⟨o, ho⟩ : ∃ o, m4 1 s = mpo o fs 0 := ⟨m4 1 s - 1, by rw [stm.mpo_zero]; omega⟩
      have ho2 : o ≤ 4000000 := by rw [stm.mpo_zero] at ho; omega
      rw [ho]
      go_wp2_with fail
      refine (stm.markO o _ _ fs qx _ X1 hmp ho2).mono ?_
      rintro e w18 ⟨rfl, C0⟩
      have C := chg_stm C0
      replace g0 : w.grownBy w18 none := C.gr g0 (fun i hi => by have := (lF i hi).1; omega)
      replace k0 := C.has k0 (fun hc => by have := (lF _ hc).1; omega)
      replace kw := C.has kw (fun hc => by have := (lF _ hc).1; omega)
      replace kg := C.has kg (fun hc => by have := (lF _ hc).2; omega)
      replace OW := OW.chg C (fun c hc hd => by have := (lF _ hd).1; have := lW _ hc; omega)
      replace OG := OG.chg C (fun c hc hd => by have := (lF _ hd).2; have := (lG _ hc).1; omega)
      clear C C0 X1 lF
      have n1 : decide (((mpo o fs fs.length : Nat) : Int) < 0) = false := by simp
      obtain ⟨⟨d0, d1, d2⟩, d3, d4, d5⟩ := six kg
      obtain ⟨⟨c0, c1, c2⟩, c3, c4, c5⟩ := six kw
      go_wp2_with fail
      refine (eqSenses t pg pw _ OG.arg OW.arg BT).mono ?_
      rintro e w19 ⟨rfl, r⟩
      replace k0 := k0.grown r (by simp)
      replace kw := kw.grown r (by simp)
      replace kg := kg.grown r (by simp)
      replace g0 := gr_trans g0 r
      replace OW := OW.kept r
      replace OG := OG.kept r
      clear r c0 c1 c2 c3 c4 c5 d0 d1 d2 d3 d4 d5
      obtain ⟨⟨d0, d1, d2⟩, d3, d4, d5⟩ := six kg
      go_wp2_with fail
      refine (markSenses 1 _ t pg _ OG BT (by omega)).mono ?_
      rintro e w20 ⟨rfl, C, A1⟩
      replace g0 : w.grownBy w20 none := C.gr g0 (fun i hi => by have := (lG i hi).1; omega)
      replace k0 := C.has k0 (fun hc => by have := (lG _ hc).1; omega)
      replace kw := C.has kw (fun hc => by have := (lG _ hc).1; omega)
      replace kg := C.has kg (fun hc => by have := (lG _ hc).2; omega)
      replace OW := OW.chg C (fun c hc hd => by have := (lG _ hd).1; have := lW _ hc; omega)
      clear C OG lG d0 d1 d2 d3 d4 d5
      have n2 : decide (((m4 1 t : Nat) : Int) < 0) = false := by simp
      obtain ⟨⟨d0, d1, d2⟩, d3, d4, d5⟩ := six kg
      go_wp2_with fail
      refine (heldSenses 1 t pg _ A1 BT (by omega)).mono ?_
      rintro e w21 ⟨rfl, r⟩
      replace k0 := k0.grown r (by simp)
      replace kw := kw.grown r (by simp)
      replace kg := kg.grown r (by simp)
      replace g0 := gr_trans g0 r
      replace OW := OW.kept r
      replace A1 := A1.kept r
      clear r d0 d1 d2 d3 d4 d5
      obtain ⟨⟨c0, c1, c2⟩, c3, c4, c5⟩ := six k0
      go_wp2_with fail
      refine (toSenses s p _ (h.kept g0) B).mono ?_
      rintro e w22 ⟨pb, rfl, r, OB⟩
      replace k0 := k0.grown r (by simp)
      replace kw := kw.grown r (by simp)
      replace kg := kg.grown r (by simp)
      replace g0 := gr_trans g0 r
      replace OW := OW.kept r
      replace A1 := A1.kept r
      clear c0 c1 c2 c3 c4 c5 r
      go_wp2_with fail
      refine (cT _ (hF.kept g0)).mono ?_
      rintro e w23 ⟨gb, qb, rfl, r, XB, -⟩
      replace k0 := k0.grown r (by simp)
      replace kw := kw.grown r (by simp)
      replace kg := kg.grown r (by simp)
      replace g0 := gr_trans g0 r
      replace OW := OW.kept r
      replace A1 := A1.kept r
      replace OB := OB.kept r
      clear r
      go_wp2_with fail
      refine (cI _ _ _ _ _ OB.arg XB.frs (hV.kept g0) (he.kept g0) (ht.kept g0) (hr.kept g0)).mono ?_
      rintro e w24 ⟨ph, rfl, r, OH⟩
      replace kw := kw.grown r (by simp)
      replace kg := kg.grown r (by simp)
      replace g0 := gr_trans g0 r
      replace OW := OW.kept r
      replace A1 := A1.kept r
      clear r OB XB k0
      have kh := Has.fresh w24 27 (cs6 t ph)
      replace kw := kw.alloc (Obj.cells (cs6 t ph) 27)
      replace kg := kg.alloc (Obj.cells (cs6 t ph) 27)
      replace g0 := gr_alloc g0 (Obj.cells (cs6 t ph) 27)
      replace OW := OW.kept (World.grownBy_alloc w24 (Obj.cells (cs6 t ph) 27) none)
      replace A1 := A1.kept (World.grownBy_alloc w24 (Obj.cells (cs6 t ph) 27) none)
      replace OH := OH.kept (World.grownBy_alloc w24 (Obj.cells (cs6 t ph) 27) none)
      obtain ⟨⟨d0, d1, d2⟩, d3, d4, d5⟩ := six kh
      obtain ⟨⟨c0, c1, c2⟩, c3, c4, c5⟩ := six kw
      go_wp2_with fail
      generalize w24.heap.size = bh at *
      generalize w24.alloc (Obj.cells (cs6 t ph) 27) = w25 at *
      refine (eqSenses t ph pw _ OH.arg OW.arg BT).mono ?_
      rintro e w26 ⟨rfl, r⟩
      replace kg := kg.grown r (by simp)
      replace g0 := gr_trans g0 r
      replace A1 := A1.kept r
      clear r c0 c1 c2 c3 c4 c5 d0 d1 d2 d3 d4 d5 kh kw OH OW
      obtain ⟨⟨d0, d1, d2⟩, d3, d4, d5⟩ := six kg
      go_wp2_with fail
      refine (heldSenses 1 t pg _ A1 BT (by omega)).mono ?_
      rintro e w27 ⟨rfl, r⟩
      go_wp2_with fail
      go_ret
      exact ⟨rfl, below_of_none (gr_trans g0 r)⟩
  · go_enter Tryz.func5, Tryz.ntmps5
    go_wp2_with fail
    refine (szSenses_no s p _ hL hb).mono ?_
    rintro e w1 ⟨rfl, r⟩
    go_wp2_with fail
    go_ret
    exact ⟨rfl, below_of_none (gr_trans g0 r)⟩
end Go.Proofs.YtjbgcgblamijdaaGreatDoor.se

