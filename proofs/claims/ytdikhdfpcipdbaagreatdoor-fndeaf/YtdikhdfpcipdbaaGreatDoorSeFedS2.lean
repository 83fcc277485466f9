/- Fed of the model, whatever the senses. -/
import Derived.Test.YtdikhdfpcipdbaaGreatDoorSeFedS
namespace Go.Proofs.YtdikhdfpcipdbaaGreatDoor.se
open Go.ChangeShapes Go.WideShapes Go.ChangeAt Go.RowKit
open Go.Proofs.YtdikhdfpcipdbaaGreatDoor.nums Go.Proofs.YtdikhdfpcipdbaaGreatDoor.mem
open Go.Proofs.YtdikhdfpcipdbaaGreatDoor.tab (Ret)
open Go.Proofs.YtdikhdfpcipdbaaGreatDoor.rd (R okR ageR zR rx ra ro OwnR)
open Go.Proofs.YtdikhdfpcipdbaaGreatDoor.il (nth Ints Own)
open Go.Proofs.YtdikhdfpcipdbaaGreatDoor.stm (Fr heard fv Frs Pl)
set_option linter.unusedVariables false

set_option maxRecDepth 100000 in
set_option maxHeartbeats 1000000 in
theorem specFed_no (s : S) (p : P) (a : Option Addr) (n cap : Nat) (w : World) (h : Arg w s p) (hb : Bd s 1048576) (ho : ok s = false) : Calls Tryz.prog 11 #[sv s p, .slice a n cap] w (RetS zS w) := by
  have KA := (Has.fresh w 27 (cs6 s p)).alloc (Obj.cells #[.slice none 0 0, .slice none 0 0, .slice none 0 0, .int .i64 0, .bool false, .slice none 0 0] 27)
  have R := Has.fresh (w.alloc (Obj.cells (cs6 s p) 27)) 27 #[.slice none 0 0, .slice none 0 0, .slice none 0 0, .int .i64 0, .bool false, .slice none 0 0]
  have g0 := gr_alloc (World.grownBy_alloc w (Obj.cells (cs6 s p) 27) none) (Obj.cells #[.slice none 0 0, .slice none 0 0, .slice none 0 0, .int .i64 0, .bool false, .slice none 0 0] 27)
  simp only [World.size_alloc] at R
  have cO := fun W (k : Arg W s p) => specSensesOk s p W k hb
  rw [ho] at cO
  obtain ⟨⟨c0, c1, c2⟩, c3, c4, c5⟩ := six KA
  go_enter Tryz.func11, Tryz.ntmps11
  go_wp2_with fail
  refine (cO _ (h.kept g0)).mono ?_
  rintro e w1 ⟨rfl, r⟩
  replace R := R.grown r (by simp)
  replace g0 := gr_trans g0 r
  obtain ⟨⟨d0, d1, d2⟩, d3, d4, d5⟩ := six R
  obtain ⟨⟨e0, e1, e2⟩, e3, e4, e5⟩ := free6 R
  clear c0 c1 c2 c3 c4 c5 KA
  go_wp2_with fail
  obtain ⟨⟨t0, t1, t2⟩, t3, t4, t5⟩ := six (set6 R (.slice none 0 0) (.slice none 0 0) (.slice none 0 0) (.int .i64 0) (.bool false) (.slice none 0 0))
  have G := gr6 g0 (show w.heap.size ≤ w.heap.size + 1 by omega) (.slice none 0 0) (.slice none 0 0) (.slice none 0 0) (.int .i64 0) (.bool false) (.slice none 0 0)
  have Q := (own_zero ((((((w1.setCell ⟨w.heap.size + 1, 0, none⟩ (.slice none 0 0)).setCell ⟨w.heap.size + 1, 1, none⟩ (.slice none 0 0)).setCell ⟨w.heap.size + 1, 2, none⟩ (.slice none 0 0)).setCell ⟨w.heap.size + 1, 3, none⟩ (.int .i64 0)).setCell ⟨w.heap.size + 1, 4, none⟩ (.bool false)).setCell ⟨w.heap.size + 1, 5, none⟩ (.slice none 0 0))).below (show w.heap.size ≤ _ from G.size)
  exact bodyPost_ret (v := .agg #[.slice none 0 0, .slice none 0 0, .slice none 0 0, .int .i64 0, .bool false, .slice none 0 0]) (by simp [results, Tryz.results11, go_sem, t0, t1, t2, t3, t4, t5]) rfl ⟨zP, rfl, G, Q⟩
theorem specFed (s : S) (p : P) (a : Option Addr) (cap : Nat) (fs : List Fr) (ps : List Pl) (w : World) (h : Arg w s p) (hb : Bd s 1048576) (hF : Frs w a fs ps) (hfl : fs.length ≤ 1048576) (hfv : ∀ k, k < fs.length → (fv fs k).length ≤ 1048576) :
    Calls Tryz.prog 11 #[sv s p, .slice a fs.length cap] w (RetS (fed s fs) w) := by
  cases ho : ok s
  · rw [fed_no ho]; exact specFed_no s p a fs.length cap w h hb ho
  · rw [fed_ok ho]; exact specFed_ok s p a cap fs ps w h (ok_iff.1 ho) hF hfl hfv
end Go.Proofs.YtdikhdfpcipdbaaGreatDoor.se
