/- A world (three and twenty cells) stored, loaded, returned as a whole. -/
import Derived.Test.YtdikhdfpcipdbaaGreatDoorWd
import Derived.Great.BuildSlice
import Derived.Laws.Tables
import Derived.Laws.Rows
import Derived.Deep.MidRow
namespace Go.Proofs.YtdikhdfpcipdbaaGreatDoor.wd
open Go Go.ChangeShapes Go.WideShapes Go.ChangeAt Go.RowKit
open Go.Proofs.YtdikhdfpcipdbaaGreatDoor.nums Go.Proofs.YtdikhdfpcipdbaaGreatDoor.mem
set_option linter.unusedVariables false

theorem row_chg (w : World) (g : Nat) (cs : Array Value) : w.grownBy (w.setRow g cs) (some g) :=
  ⟨rfl, rfl, rfl, by simp, fun b hb hn => setRow_other w g b cs (fun e => hn (by rw [e]))⟩
theorem row_gr {a w : World} {g : Nat} (h : a.grownBy w none) (hg : a.heap.size ≤ g) (cs : Array Value) : a.grownBy (w.setRow g cs) none :=
  ⟨h.os, h.tape, h.output, by simpa using h.size, fun b hb hn => (setRow_other w g b cs (by omega)).trans (h.block b hb hn)⟩
theorem row_has {w : World} {g : Nat} {t : TypeId} {old : Array Value} (H : Has w g t old) (cs : Array Value) : Has (w.setRow g cs) g t cs := setRow_heap w g old cs t (0, 0) H
theorem row_other {w : World} {g b : Nat} {t : TypeId} {cs' : Array Value} (H : Has w b t cs') (hn : b ≠ g) (cs : Array Value) : Has (w.setRow g cs) b t cs' := (setRow_other w g b cs hn).trans H
theorem infoW : (Tryz.prog.info? 92).map (·.size) = some 23 := by kernel_rfl
theorem one23 (x : V) (p : br.P) : (cs23 x p).all (·.oneCell') = true := by simp [Value.oneCell']
theorem st_row {ops : Array Oper} {rest : List Oper} {o : Oper} {a : Act} {w : World} {Q : Exit → Act → World → Prop} (hgd : o.guard = none) (a1 a2 : Operand) (ho : o.op = .store 92 a1 a2) (hd : o.dst = none)
    (g : Nat) (x : V) (p : br.P) (old : Array Value) (hx : a.eval a1 = .pointer (some ⟨g, 0, none⟩)) (hy : a.eval a2 = wv x p) (H : Has w g 92 old) (hs2 : old.size = 23)
    (h : ∀ w', w.grownBy w' (some g) → Has w' g 92 (cs23 x p) → wpList Tryz.prog ops Q rest a w') : wpList Tryz.prog ops Q (o :: rest) a w :=
  wpList_store_rowTo hgd _ a1 a2 ho hd g (cs23 x p) hx hy _ old H (by rw [infoW]; rfl) (by rw [hs2]; rfl) (one23 x p) (h _ (row_chg w g (cs23 x p)) (row_has H (cs23 x p)))
theorem ld_row {ops : Array Oper} {rest : List Oper} {o : Oper} {a : Act} {w : World} {Q : Exit → Act → World → Prop} (hgd : o.guard = none) (a1 : Operand) (ho : o.op = .load 92 a1)
    (g : Nat) (x : V) (p : br.P) (hx : a.eval a1 = .pointer (some ⟨g, 0, none⟩)) (H : Has w g 92 (cs23 x p))
    (h : wpList Tryz.prog ops Q rest (a.put o.dst (wv x p)) w) : wpList Tryz.prog ops Q (o :: rest) a w :=
  wpList_load_row hgd _ a1 ho g hx _ (cs23 x p) (0, 0) _ H Tryz.underlying92 rfl (by rw [infoW]; rfl) h
theorem rs_row {fn : Func} {t : Tmp} (h : fn.results = #[.cell t 92]) (tmps : Array Value) (w : World) (g : Nat) (x : V) (p : br.P) (hp : tmps.getD t undef = .pointer (some ⟨g, 0, none⟩)) (H : Has w g 92 (cs23 x p)) :
    (results fn tmps).run Tryz.prog w = .ok (wv x p) w := results_cell_row h tmps w g _ (cs23 x p) (0, 0) _ hp H Tryz.underlying92 rfl (by rw [infoW]; rfl)
theorem infoB : (Tryz.prog.info? 88).map (·.size) = some 13 := by kernel_rfl
theorem one13 (b : br.B) (p : br.P) : (br.cs13 b p).all (·.oneCell') = true := by simp [Value.oneCell']
/-- A brain is laid into a world's box. -/
theorem st_brain {ops : Array Oper} {rest : List Oper} {o : Oper} {a : Act} {w : World} {Q : Exit → Act → World → Prop} (hgd : o.guard = none) (a1 a2 : Operand) (ho : o.op = .store 88 a1 a2) (hd : o.dst = none)
    (g : Nat) (b : br.B) (q : br.P) (x : V) (p : br.P) (hx : a.eval a1 = .pointer (some ⟨g, 0, none⟩)) (hy : a.eval a2 = br.bv b q) (H : Has w g 92 (cs23 x p))
    (h : ∀ w', w.grownBy w' (some g) → Has w' g 92 (cs23 ⟨b, x.he, x.ri, x.sp, x.bk, x.li, x.ly, x.wa, x.ar, x.sq, x.lo⟩ q) → wpList Tryz.prog ops Q rest a w') : wpList Tryz.prog ops Q (o :: rest) a w := by
  refine wpList_store_mid hgd _ a1 a2 ho g 0 (br.cs13 b q) hx hy (fun j hj => ⟨?_, H.frozen _⟩) (by rw [infoB]; rfl) (one13 b q) ?_
  · have hj' : j < 13 := hj
    rw [Nat.zero_add, H.cell j]
    rcases (show j = 0 ∨ j = 1 ∨ j = 2 ∨ j = 3 ∨ j = 4 ∨ j = 5 ∨ j = 6 ∨ j = 7 ∨ j = 8 ∨ j = 9 ∨ j = 10 ∨ j = 11 ∨ j = 12 by omega) with rfl | rfl | rfl | rfl | rfl | rfl | rfl | rfl | rfl | rfl | rfl | rfl | rfl <;> rfl
  · rw [hd]
    exact h _ (br.chg_lay w g _ _ _ _ _ _ _ _ _ _ _ _ _) (set_brain H _ _ _ _ _ _ _ _ _ _ _ _ _)
end Go.Proofs.YtdikhdfpcipdbaaGreatDoor.wd
