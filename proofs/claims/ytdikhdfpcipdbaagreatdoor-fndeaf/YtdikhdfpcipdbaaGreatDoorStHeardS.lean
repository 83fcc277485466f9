/- Heard of the model. -/
import Derived.Test.YtdikhdfpcipdbaaGreatDoorStHeard
namespace Go.Proofs.YtdikhdfpcipdbaaGreatDoor.stm
open Go.ChangeShapes Go.WideShapes Go.ChangeAt Go.RowKit
open Go.Proofs.YtdikhdfpcipdbaaGreatDoor.nums Go.Proofs.YtdikhdfpcipdbaaGreatDoor.mem Go.Proofs.YtdikhdfpcipdbaaGreatDoor.txt Go.Proofs.YtdikhdfpcipdbaaGreatDoor.fix Go.Proofs.YtdikhdfpcipdbaaGreatDoor.frm
open Go.Proofs.YtdikhdfpcipdbaaGreatDoor.tab (Ret quiet_w wpList_make_has add_off)
set_option linter.unusedVariables false

/-- The frame that is best so far lies in the box q. -/
def Best (base q : Nat) (r : Option Fr) (wr : World) : Prop := match r with
  | none => Has wr q 50 #[.int .i64 0, .int .i64 0, .slice none 0 0]
  | some f => ∃ a cap, Has wr q 50 #[.int .i64 f.1, .int .i64 f.2.1, .slice a f.2.2.length cap] ∧ Own base wr a f.2.2
theorem Best.kept {base q : Nat} {r : Option Fr} {w w' : World} (h : Best base q r w) (hg : w.grownBy w' none) : Best base q r w' := by
  match r with
  | none => exact Has.grown h hg (by simp)
  | some f =>
    obtain ⟨a, cap, h1, h2⟩ := h
    exact ⟨a, cap, h1.grown hg (by simp), h2.kept hg⟩
theorem Best.cells {base q : Nat} {r : Option Fr} {w : World} (h : Best base q r w) : ∃ u v x, Has w q 50 #[u, v, x] := by
  match r with
  | none => exact ⟨_, _, _, h⟩
  | some f =>
    obtain ⟨a, cap, h1, h2⟩ := h
    exact ⟨_, _, _, h1⟩

theorem out_none {r : Option Fr} {w w' : World} (h : r = none) (hg : w.grownBy w' none) : ReadOut r w (.returned (.tuple #[fr 0 0 none 0 0, .bool false])) w' := by subst h; exact ⟨hg, rfl⟩
theorem out_some {r : Option Fr} {w w' : World} {f : Fr} {a : Option Addr} {cap : Nat} (h : r = some f) (hg : w.grownBy w' none) (ho : Own w.heap.size w' a f.2.2) : ReadOut r w (.returned (.tuple #[fr f.1 f.2.1 a f.2.2.length cap, .bool true])) w' := by subst h; exact ⟨hg, a, cap, rfl, ho⟩
theorem cell_set3 {w : World} {q : Nat} {a : Addr} (hn : a.block ≠ q) (i j k : Nat) (u v x : Value) : (((w.setCell ⟨q, i, none⟩ u).setCell ⟨q, j, none⟩ v).setCell ⟨q, k, none⟩ x).cell? a = w.cell? a :=
  World.cell?_of_block (by rw [Below.heap_setCell _ ⟨q, k, none⟩ _ _ hn, Below.heap_setCell _ ⟨q, j, none⟩ _ _ hn, Below.heap_setCell _ ⟨q, i, none⟩ _ _ hn])

set_option maxRecDepth 100000 in
set_option maxHeartbeats 4000000 in
theorem specHeard (a : Option Addr) (cap : Nat) (fs : List Fr) (ps : List Pl) (kind old : Int) (w : World) (h : Frs w a fs ps) (hl : fs.length ≤ 1048576) (hv : ∀ k, k < fs.length → (fv fs k).length ≤ 1048576) :
    Calls Tryz.prog 40 #[.slice a fs.length cap, .int .i64 kind, .int .i64 old] w (ReadOut (heard kind old fs) w) := by
  have HA0 := (Has.fresh w 50 #[.int .i64 0, .int .i64 0, .slice none 0 0]).alloc (Obj.cells #[.int .i64 0, .int .i64 0, .slice none 0 0] 50)
  have HB0 := Has.fresh (w.alloc (Obj.cells #[.int .i64 0, .int .i64 0, .slice none 0 0] 50)) 50 #[.int .i64 0, .int .i64 0, .slice none 0 0]
  rw [show (w.alloc (Obj.cells #[.int .i64 0, .int .i64 0, .slice none 0 0] 50)).heap.size = w.heap.size + 1 by simp] at HB0
  have g00 := gr_alloc (World.grownBy_alloc w (Obj.cells #[.int .i64 0, .int .i64 0, .slice none 0 0] 50) none) (Obj.cells #[.int .i64 0, .int .i64 0, .slice none 0 0] 50)
  have hs0 : ((w.alloc (Obj.cells #[.int .i64 0, .int .i64 0, .slice none 0 0] 50)).alloc (Obj.cells #[.int .i64 0, .int .i64 0, .slice none 0 0] 50)).heap.size = w.heap.size + 2 := by simp
  go_enter Tryz.func40, Tryz.ntmps40
  go_wp2_with fail
  go_loopw [2, 9, 10] (fun o s i wr => ∃ (k : Nat) (O : Int) (r : Option Fr), k ≤ fs.length ∧ i = .int .i64 k ∧ o = .int .i64 O ∧ s = .bool r.isSome ∧ Hid (hfold kind old fs k = (O, r)) ∧ Has wr w.heap.size 50 #[.int .i64 0, .int .i64 0, .slice none 0 0] ∧ Best (w.heap.size + 2) (w.heap.size + 1) r wr ∧ w.heap.size + 2 ≤ wr.heap.size ∧ w.grownBy wr none) (fun _ _ i _ => fs.length - (intOf i).toNat)
  case atStart => exact ⟨0, old, none, Nat.zero_le _, rfl, rfl, rfl, Lib.hid (hfold_zero _ _ _), HA0, HB0, by omega, g00⟩
  case round =>
    clear HA0 HB0 g00 hs0
    obtain ⟨k, O, r, hk, rfl, rfl, rfl, hf, HA, HB, hsz, hg⟩ := hrel
    by_cases hlt : k < fs.length
    · have h6 := hv k hlt
      have hF := hfold_succ (kind := kind) (old := old) hlt
      rw [hf.out] at hF
      obtain ⟨x, rfl, hxb, cx, cy, cz, hI⟩ := (h.kept hg) k hlt
      obtain ⟨x', e', hxw, _⟩ := h k hlt
      injection e' with e'
      subst e'
      have hnxt : ∀ s, hst kind (O, r) (fk fs k, fq fs k, fv fs k) = s → hfold kind old fs (k + 1) = s := fun s e => hF.trans e
      have HN := Lib.hid hnxt
      clear hF hf hnxt
      generalize fk fs k = K at *
      generalize fq fs k = Q at *
      generalize fv fs k = V at *
      generalize pa ps k = A at *
      generalize pc ps k = C at *
      by_cases hK : K = kind
      · subst hK
        cases hO : okF K Q V
        · have cF : ∀ W, Ints W A V → Calls Tryz.prog 75 #[fr K Q A V.length C] W (Ret (.bool false) W) := fun W hW => hO ▸ specFrameOk K Q A C V W hW (by unfold maxLen; omega)
          have hn := HN.out _ (hst_no (by rw [hO]; simp))
          clear hO HN
          go_wp2_with fail
          refine (cF _ hI).mono ?_
          rintro e w1 ⟨rfl, hg1⟩
          go_wp2_with fail
          go_roundw
          case rel => exact ⟨k + 1, O, r, by omega, by go_num, rfl, rfl, Lib.hid hn, HA.grown hg1 (by simp), HB.kept hg1, Nat.le_trans hsz hg1.size, gr_trans hg hg1⟩
          case measure => simp [intOf]; omega
        · have cF : ∀ W, Ints W A V → Calls Tryz.prog 75 #[fr K Q A V.length C] W (Ret (.bool true) W) := fun W hW => hO ▸ specFrameOk K Q A C V W hW (by unfold maxLen; omega)
          have hV0 := okF_ne hO
          have hV6 := okF_short hO
          cases hN : newer O Q
          · have cN : ∀ W, Calls Tryz.prog 76 #[.int .i64 O, .int .i64 Q] W fun e w' => e = .returned (.bool false) ∧ W = w' := fun W => hN ▸ specNewer O Q W
            have hn := HN.out _ (hst_no (by rw [hO, hN]; simp))
            clear hO HN hN
            go_wp2_with fail
            refine (cF _ hI).mono ?_
            rintro e w1 ⟨rfl, hg1⟩
            have cy1 := (World.cell?_of_block (a := ⟨(x.add (k * 3)).block, (x.add (k * 3)).off + 1, none⟩) (hg1.block _ (by rw [block_add]; omega) (by simp))).trans cy
            go_wp2_with fail
            refine (cN _).mono ?_
            rintro e w2 ⟨rfl, rfl⟩
            go_wp2_with fail
            go_roundw
            case rel => exact ⟨k + 1, O, r, by omega, by go_num, rfl, rfl, Lib.hid hn, HA.grown hg1 (by simp), HB.kept hg1, Nat.le_trans hsz hg1.size, gr_trans hg hg1⟩
            case measure => simp [intOf]; omega
          · have cN : ∀ W, Calls Tryz.prog 76 #[.int .i64 O, .int .i64 Q] W fun e w' => e = .returned (.bool true) ∧ W = w' := fun W => hN ▸ specNewer O Q W
            have hn := HN.out _ (hst_yes (by rw [hO, hN]; simp))
            clear hO HN hN
            go_wp2_with fail
            refine (cF _ hI).mono ?_
            rintro e w1 ⟨rfl, hg1⟩
            have cy1 := (World.cell?_of_block (a := ⟨(x.add (k * 3)).block, (x.add (k * 3)).off + 1, none⟩) (hg1.block _ (by rw [block_add]; omega) (by simp))).trans cy
            have cz1 := (World.cell?_of_block (a := ⟨(x.add (k * 3)).block, (x.add (k * 3)).off + 2, none⟩) (hg1.block _ (by rw [block_add]; omega) (by simp))).trans cz
            go_wp2_with fail
            refine (cN _).mono ?_
            rintro e w2 ⟨rfl, rfl⟩
            have HA1 := HA.grown hg1 (by simp)
            obtain ⟨b0, b1, b2, HB1⟩ := (HB.kept hg1).cells
            have hI1 := hI.kept hg1
            have hg2 := gr_trans hg hg1
            have hsz1 := Nat.le_trans hsz hg1.size
            have hxb1 := Nat.lt_of_lt_of_le hxb hg1.size
            have cC := fun W hW => specCopy A C V W hW hV0 (by omega)
            clear cx cy cz cF cN HA HB hI hg hg1 hsz hxb
            go_wp2_with fail
            have cD : Calls Tryz.prog 74 #[.slice A V.length C] w1.drew fun e w7 => ∃ a7 c7, e = .returned (.slice a7 V.length c7) ∧ w1.grownBy w7 none ∧ Own w1.heap.size w7 a7 V ∧ (w7.cell? ⟨(x.add (k * 3)).block, (x.add (k * 3)).off + 1, none⟩ = some (.int .i64 Q) ∧ w7.cell? ⟨(x.add (k * 3)).block, (x.add (k * 3)).off + 2, none⟩ = some (.slice A V.length C)) ∧ Has w7 (w.heap.size + 1) 50 #[b0, b1, b2] := by
              refine (cC w1.drew hI1).mono ?_
              rintro e w7 ⟨a7, c7, rfl, hg7, hO7⟩
              have hg7' : w1.grownBy w7 none := gr_trans (gr_drewN (gr_refl w1 none) 1) hg7
              have hxb2 : (x.add (k * 3)).block < w1.heap.size := by rw [block_add]; exact hxb1
              exact ⟨a7, c7, rfl, hg7', hO7, ⟨(World.cell?_of_block (a := ⟨(x.add (k * 3)).block, (x.add (k * 3)).off + 1, none⟩) (hg7'.block _ hxb2 (by simp))).trans cy1, (World.cell?_of_block (a := ⟨(x.add (k * 3)).block, (x.add (k * 3)).off + 2, none⟩) (hg7'.block _ hxb2 (by simp))).trans cz1⟩, HB1.grown hg7' (by simp)⟩
            have hxq : (x.add (k * 3)).block ≠ w.heap.size + 1 := by rw [block_add]; omega
            have hset : ∀ (W : World) (u v z : Value), (W.cell? ⟨(x.add (k * 3)).block, (x.add (k * 3)).off + 1, none⟩ = some (.int .i64 Q) ∧ W.cell? ⟨(x.add (k * 3)).block, (x.add (k * 3)).off + 2, none⟩ = some (.slice A V.length C)) →
                ((((W.setCell ⟨w.heap.size + 1, 0, none⟩ u).setCell ⟨w.heap.size + 1, 1, none⟩ v).setCell ⟨w.heap.size + 1, 2, none⟩ z).cell? ⟨(x.add (k * 3)).block, (x.add (k * 3)).off + 1, none⟩ = some (.int .i64 Q) ∧ (((W.setCell ⟨w.heap.size + 1, 0, none⟩ u).setCell ⟨w.heap.size + 1, 1, none⟩ v).setCell ⟨w.heap.size + 1, 2, none⟩ z).cell? ⟨(x.add (k * 3)).block, (x.add (k * 3)).off + 2, none⟩ = some (.slice A V.length C)) :=
              fun W u v z hW => ⟨(cell_set3 (a := ⟨(x.add (k * 3)).block, (x.add (k * 3)).off + 1, none⟩) hxq _ _ _ _ _ _).trans hW.1, (cell_set3 (a := ⟨(x.add (k * 3)).block, (x.add (k * 3)).off + 2, none⟩) hxq _ _ _ _ _ _).trans hW.2⟩
            clear cC
            go_region_held3 (fun W => W.cell? ⟨(x.add (k * 3)).block, (x.add (k * 3)).off + 1, none⟩ = some (.int .i64 Q) ∧ W.cell? ⟨(x.add (k * 3)).block, (x.add (k * 3)).off + 2, none⟩ = some (.slice A V.length C)) (first | exact hS7 | exact hset _ _ _ _ hS7 | go_keep) (first | (go_at_call 74; refine cD.mono ?_; rintro e w7 ⟨a7, c7, rfl, hg7, hO7, hS7, HB7⟩; obtain ⟨p0, p1, p2, q0, q1, q2⟩ := three HB7))
            obtain ⟨cy8, cz8⟩ := hset w7 (.int .i64 K) (.int .i64 Q) (.slice a7 V.length c7) hS7
            have hO8 : Own (w.heap.size + 1 + 1) w7 a7 V := hO7.up hsz1
            have hsz7 := hg7.size
            clear cD hset hS7 p0 p1 p2 q0 q1 q2 cy1 cz1
            go_wp2_with fail
            go_roundw
            case rel => exact ⟨k + 1, Q, some (K, Q, V), by omega, by go_num, rfl, rfl, Lib.hid hn, has_other (has_other (has_other (HA1.grown hg7 (by simp)) (by omega) _ _) (by omega) _ _) (by omega) _ _, ⟨a7, c7, set3 HB7 _ _ _, ((hO8.set _ _).set _ _).set _ _⟩, by simp [World.setCell]; omega, gr_new (gr_new (gr_new (gr_trans hg2 hg7) (Nat.le_succ _) _ _) (Nat.le_succ _) _ _) (Nat.le_succ _) _ _⟩
            case measure => simp [intOf]; omega
      · have hn := HN.out _ (hst_no (by rw [decide_eq_false hK]; rfl))
        have hK' : (K == kind) = false := by rw [beq_eq_false_iff_ne]; exact hK
        clear HN
        go_wp2_with fail
        go_roundw
        case rel => exact ⟨k + 1, O, r, by omega, by go_num, rfl, rfl, Lib.hid hn, HA, HB, hsz, hg⟩
        case measure => simp [intOf]; omega
    · obtain rfl : k = fs.length := by omega
      have hh : heard kind old fs = r := by rw [heard, hf.out]
      have HH := Lib.hid hh
      clear hf hh
      obtain ⟨p0, p1, p2, q0, q1, q2⟩ := three HA
      cases r with
      | none =>
        obtain ⟨b0, b1, b2, _, _, _⟩ := three (show Has wr (w.heap.size + 1) 50 #[.int .i64 0, .int .i64 0, .slice none 0 0] from HB)
        go_wp2_with fail
        obtain ⟨r0, r1, r2, _, _, _⟩ := three (set3 HA (.int .i64 0) (.int .i64 0) (.slice none 0 0))
        exact bodyPost_ret (v := .tuple #[fr 0 0 none 0 0, .bool false]) (by simp [results, Tryz.results40, go_sem, r0, r1, r2]) rfl (out_none HH.out (gr_new (gr_new (gr_new hg (Nat.le_refl _) _ _) (Nat.le_refl _) _ _) (Nat.le_refl _) _ _))
      | some f =>
        obtain ⟨a7, c7, HB7, hO7⟩ := HB
        obtain ⟨K, Q, V⟩ := f
        obtain ⟨b0, b1, b2, _, _, _⟩ := three HB7
        have hO8 : Own (w.heap.size + 1) wr a7 V := hO7.up (Nat.le_succ _)
        go_wp2_with fail
        obtain ⟨r0, r1, r2, _, _, _⟩ := three (set3 HA (.int .i64 K) (.int .i64 Q) (.slice a7 V.length c7))
        exact bodyPost_ret (v := .tuple #[fr K Q a7 V.length c7, .bool true]) (by simp [results, Tryz.results40, go_sem, r0, r1, r2]) rfl (out_some (f := (K, Q, V)) HH.out (gr_new (gr_new (gr_new hg (Nat.le_refl _) _ _) (Nat.le_refl _) _ _) (Nat.le_refl _) _ _) ((((hO8.set _ _).set _ _).set _ _).up (Nat.le_succ _)))
end Go.Proofs.YtdikhdfpcipdbaaGreatDoor.stm
