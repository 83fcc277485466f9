/- weightsIn of the program: the set of the fans that stay on. -/
import Derived.Test.YtekglhikojondaaDoorShSet
import Derived.Lib.Hide
namespace Go.Proofs.YtekglhikojondaaDoor.sh
open Go.ChangeShapes Go.WideShapes Go.ChangeAt Go.RowKit
open Go.Proofs.YtekglhikojondaaDoor.nums Go.Proofs.YtekglhikojondaaDoor.mem
set_option linter.unusedVariables false

/-- Does the k-th fan stay on? -/
def on (c : Int) (k : Nat) : Bool := cas.staysOn c (k : Int)
theorem Wts.cells {w : World} (h : Wts w) : (w.cell? ⟨0, 0, none⟩ = some (.int .i64 2) ∧ w.cell? ⟨0, 1, none⟩ = some (.int .i64 0) ∧ w.cell? ⟨0, 2, none⟩ = some (.int .i64 1) ∧ w.cell? ⟨0, 3, none⟩ = some (.int .i64 2) ∧ w.cell? ⟨0, 4, none⟩ = some (.int .i64 (-1)) ∧ w.cell? ⟨0, 5, none⟩ = some (.int .i64 2)) ∧
    w.cell? ⟨0, 6, none⟩ = some (.int .i64 (-2)) ∧ w.cell? ⟨0, 7, none⟩ = some (.int .i64 0) ∧ w.cell? ⟨0, 8, none⟩ = some (.int .i64 (-1)) ∧ w.cell? ⟨0, 9, none⟩ = some (.int .i64 (-2)) ∧ w.cell? ⟨0, 10, none⟩ = some (.int .i64 1) ∧ w.cell? ⟨0, 11, none⟩ = some (.int .i64 (-2)) :=
  ⟨⟨(h.2 0 (by omega)).1, (h.2 0 (by omega)).2, (h.2 1 (by omega)).1, (h.2 1 (by omega)).2, (h.2 2 (by omega)).1, (h.2 2 (by omega)).2⟩, (h.2 3 (by omega)).1, (h.2 3 (by omega)).2, (h.2 4 (by omega)).1, (h.2 4 (by omega)).2, (h.2 5 (by omega)).1, (h.2 5 (by omega)).2⟩
theorem index_at {k : Nat} (hk : k < 6) (w : World) : (Instr.index 58 (.agg #[.int .i64 2, .int .i64 0, .int .i64 1, .int .i64 2, .int .i64 (-1), .int .i64 2, .int .i64 (-2), .int .i64 0, .int .i64 (-1), .int .i64 (-2), .int .i64 1, .int .i64 (-2)]) (.int .i64 (k : Int))).run Tryd.prog w = .ok (.agg #[.int .i64 (tR k), .int .i64 (tP k)]) w := by
  rcases six hk with rfl | rfl | rfl | rfl | rfl | rfl <;> kernel_rfl

theorem make6 (w : World) : (Instr.makeMap 53 (some (.int .i64 6))).run Tryd.prog w = .ok (.map (some w.heap.size)) (w.alloc (.map #[] 0)) := rfl

/-- A set of fans comes back in memory of its own; of what was there nothing is another. -/
def RetSet (S : Nat → Bool) (w : World) (e : Ending) (w' : World) : Prop := ∃ b, e = .returned (.map (some b)) ∧ w.heap.size ≤ b ∧ w.grownBy w' none ∧ IsSet w' b S

set_option maxRecDepth 100000 in
set_option maxHeartbeats 4000000 in
theorem implWeightsIn (c : Int) (w : World) (hw : Wts w) : Calls Tryd.prog 39 #[.int .i64 c] w (RetSet (on c) w) := by
  have hmm := make6
  have hown0 := World.ownsMap_made (H := Unit) w Tryd.prog 57 (plainElem Tryd.prog 4)
  have hg0 : w.grownBy (w.alloc (.map #[] 0)) none := World.grownBy_alloc _ _ _
  obtain ⟨⟨c0, c1, c2, c3, c4, c5⟩, c6, c7, c8, c9, c10, c11⟩ := (hw.kept hg0).cells
  go_enter Tryd.func39, Tryd.ntmps39
  go_wp2_with fail
  clear c0 c1 c2 c3 c4 c5 c6 c7 c8 c9 c10 c11 hmm
  go_loopw [10] (fun i wr => ∃ (k : Nat) (D : DataW Unit), k ≤ 6 ∧ i = .int .i64 (k : Int) ∧ wr.ownsMap Tryd.prog 57 (plainElem Tryd.prog 4) w.heap.size k D ∧ Six D (fun j => decide (j < k)) ∧ w.grownBy wr none) (fun i _ => 6 - (intOf i).toNat)
  case atStart => exact ⟨0, _, Nat.zero_le _, rfl, hown0, six_empty.congr (fun k hk => by simp), hg0⟩
  case round =>
    clear hown0 hg0
    obtain ⟨k, D, hk, rfl, hown, hs, hg⟩ := hrel
    have hsz := hg.size
    by_cases hlt : k < 6
    · have hd : decide ((k : Int) < 6) = true := by simp; omega
      have hix := index_at hlt
      go_wp2_with (at_mapUpdate; refine wpList_ins _ rfl _ _ _ rfl w.heap.size k D _ rfl rfl (hown.alloc _) (by omega) hs k hlt rfl (by simp) ?_; intro w1 D1 hown1 hs1 hg1)
      have hgn := gr_past (gr_alloc hg _) hg1 (Nat.le_refl _)
      clear hg1 hown hix
      go_wp2_with fail
      go_roundw
      case rel => exact ⟨k + 1, D1, by omega, by go_num, hown1, hs1.congr (fun j hj => by unfold ins; by_cases e : j = k <;> simp [e] <;> omega), hgn⟩
      case measure => simp [intOf]; omega
    · have hk6 : k = 6 := by omega
      have hd : decide ((k : Int) < 6) = false := by simp; omega
      replace hown := hown.mono (Nat.le_of_eq hk6)
      replace hs := hs.congr (S' := fun _ => true) (fun j hj => by simp; omega)
      clear hlt hk hk6
      obtain ⟨⟨c0, c1, c2, c3, c4, c5⟩, c6, c7, c8, c9, c10, c11⟩ := (hw.kept hg).cells
      by_cases h7 : c = 7
      · subst h7
        go_wp2_with (refine wpList_clear _ rfl _ rfl w.heap.size 6 D rfl hown ?_; intro w1 hs1 hg1)
        have hgn := gr_past hg hg1 (Nat.le_refl _)
        go_wp2_with fail
        go_ret
        exact ⟨_, rfl, Nat.le_refl _, hgn, hs1.congr (fun k hk => by unfold on; rw [cas.on_no (by omega)])⟩
      · have hd7 : decide (c = 7) = false := by simp [h7]
        have he7 : (c == 7) = false := by simp [h7]
        go_wp2_with fail
        clear c0 c1 c2 c3 c4 c5 c6 c7 c8 c9 c10 c11 hd7 he7
        go_loopw [18] (fun i wr => ∃ (k : Nat) (D : DataW Unit), k ≤ 6 ∧ i = .int .i64 (k : Int) ∧ wr.ownsMap Tryd.prog 57 (plainElem Tryd.prog 4) w.heap.size 6 D ∧ Six D (fun j => on c j || decide (k ≤ j)) ∧ w.grownBy wr none) (fun i _ => 6 - (intOf i).toNat)
        case atStart => exact ⟨0, _, Nat.zero_le _, rfl, hown, hs.congr (fun k hk => by simp), hg⟩
        case round =>
          clear hown hg hs hsz D hd
          obtain ⟨k, D, hk, rfl, hown, hs, hg⟩ := hrel
          have hsz := hg.size
          by_cases hlt : k < 6
          · have hd : decide ((k : Int) < 6) = true := by simp; omega
            have hix := index_at hlt
            obtain ⟨o, ho⟩ : ∃ o, on c k = o := ⟨_, rfl⟩
            have cS : ∀ W, Calls Tryd.prog 55 #[.int .i64 c, .int .i64 (k : Int)] W fun e w' => e = .returned (.bool o) ∧ W = w' := fun W => ho ▸ cas.implStaysOn c k W
            have HO := Lib.hid ho
            clear ho
            cases o
            · go_wp2_with (first | (go_at_call 55; refine (cS _).mono ?_; rintro e w' ⟨rfl, rfl⟩) | (at_delete; refine wpList_out _ rfl _ _ rfl w.heap.size 6 D _ rfl (hown.alloc _) hs k hlt rfl (by simp) ?_; intro w1 D1 hown1 hs1 hg1))
              have hgn := gr_past (gr_alloc hg _) hg1 (Nat.le_refl _)
              clear hg1 hown hix
              go_wp2_with fail
              go_roundw
              case rel => exact ⟨k + 1, D1, by omega, by go_num, hown1, hs1.congr (fun j hj => by
                unfold sh.out
                by_cases e : j = k
                · subst e; have := HO.out; simp [this]
                · have e2 : decide (k + 1 ≤ j) = decide (k ≤ j) := by simp; omega
                  simp [e, e2]), hgn⟩
              case measure => simp [intOf]; omega
            · go_wp2_with (go_at_call 55; refine (cS _).mono ?_; rintro e w' ⟨rfl, rfl⟩)
              go_roundw
              case rel => exact ⟨k + 1, D, by omega, by go_num, hown.alloc _, hs.congr (fun j hj => by
                by_cases e : j = k
                · subst e; have := HO.out; simp [this]
                · have e2 : decide (k + 1 ≤ j) = decide (k ≤ j) := by simp; omega
                  simp [e2]), gr_alloc hg _⟩
              case measure => simp [intOf]; omega
          · obtain rfl : k = 6 := by omega
            go_wp2_with fail
            go_ret
            exact ⟨_, rfl, Nat.le_refl _, hg, D, 6, hown, by omega, hs.congr (fun j hj => by simp; omega)⟩
end Go.Proofs.YtekglhikojondaaDoor.sh
