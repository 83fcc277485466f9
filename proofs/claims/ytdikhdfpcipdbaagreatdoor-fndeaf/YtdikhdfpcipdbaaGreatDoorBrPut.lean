/- A fan is laid into a brain's list; parts of a brain are others. -/
import Derived.Test.YtdikhdfpcipdbaaGreatDoorBrLow
import Derived.Test.YtdikhdfpcipdbaaGreatDoorSeStepS
namespace Go.Proofs.YtdikhdfpcipdbaaGreatDoor.br
open Go.ChangeShapes Go.WideShapes Go.ChangeAt Go.RowKit
open Go.Proofs.YtdikhdfpcipdbaaGreatDoor.nums Go.Proofs.YtdikhdfpcipdbaaGreatDoor.mem
open Go.Proofs.YtdikhdfpcipdbaaGreatDoor.fan (F okF zF fN fO fT)
open Go.Proofs.YtdikhdfpcipdbaaGreatDoor.gt (G)
open Go.Proofs.YtdikhdfpcipdbaaGreatDoor.il (nth Ints)
set_option linter.unusedVariables false

theorem OwnB.fan {z : Nat} {w : World} {b : B} {p : P} (h : OwnB z w b p) {k : Nat} (hk : k < b.fa.length) (r : F) : ∃ (g : Nat) (v0 v1 v2 : Value), p.fa = some ⟨g, 0, none⟩ ∧ g < w.heap.size ∧ z ≤ g ∧ w.cell? ⟨g, k * 3, none⟩ = some v0 ∧ w.cell? ⟨g, k * 3 + 1, none⟩ = some v1 ∧ w.cell? ⟨g, k * 3 + 2, none⟩ = some v2 ∧
    w.frozen? ⟨g, k * 3, none⟩ = false ∧ w.frozen? ⟨g, k * 3 + 1, none⟩ = false ∧ w.frozen? ⟨g, k * 3 + 2, none⟩ = false ∧ (∃ cs, Has w g 189 cs) ∧
    OwnB z (((w.setCell ⟨g, k * 3, none⟩ (.int .i64 r.1)).setCell ⟨g, k * 3 + 1, none⟩ (.bool r.2.1)).setCell ⟨g, k * 3 + 2, none⟩ (.bool r.2.2)) ⟨b.md, b.tm, b.fa.set k r, b.ga, b.se, b.ou, b.ta⟩ p := by
  rcases h.fa with ⟨_, e⟩ | ⟨g, cs, ea, hc, hj⟩
  · rw [e] at hk; simp at hk
  · have S1 := gr_set (gr_set (gr_set (gr_refl w (some g)) (k * 3) (.int .i64 r.1)) (k * 3 + 1) (.bool r.2.1)) (k * 3 + 2) (.bool r.2.2)
    obtain ⟨e0, e1, e2⟩ := hj k hk
    have hsz : k * 3 + 2 < cs.size := (Array.getElem?_eq_some_iff.1 e2).1
    obtain ⟨u0, u1, u2, _, u4⟩ := _root_.Go.Proofs.YtdikhdfpcipdbaaGreatDoor.fan.set3at (A := cs) (n := k + 1) (k := k) (u := .int .i64 r.1) (v := .bool r.2.1) (s := .bool r.2.2) (by omega) (by omega)
    refine ⟨g, _, _, _, ea, hc.lt, h.zf _ ea, (hc.cell _).trans e0, (hc.cell _).trans e1, (hc.cell _).trans e2, hc.frozen _, hc.frozen _, hc.frozen _, ⟨cs, hc⟩, Or.inr ⟨g, _, ea, ((hc.set _ _).set _ _).set _ _, fun j hj' => ?_⟩, h.se.chg (T := fun c => c = g) (se.chg_of_gr S1 (fun b e => by injection e)) (h.se.nbox hc (by decide) (by decide)), h.ou.grown S1 (fun x e => ?_), h.zf, h.zo⟩
    · have hj2 : j < b.fa.length := by simpa using hj'
      by_cases e : j = k
      · subst e
        have q : (b.fa.set j r).getD j zF = r := by simp [List.getD, hk]
        show _ = some (Value.int .i64 ((b.fa.set j r).getD j zF).1) ∧ _ = some (Value.bool ((b.fa.set j r).getD j zF).2.1) ∧ _ = some (Value.bool ((b.fa.set j r).getD j zF).2.2)
        rw [q]
        exact ⟨u0, u1, u2⟩
      · obtain ⟨y0, y1, y2⟩ := u4 j e
        obtain ⟨z0, z1, z2⟩ := hj j hj2
        have q : (b.fa.set k r).getD j zF = b.fa.getD j zF := by simp [List.getD, Ne.symm e]
        show _ = some (Value.int .i64 ((b.fa.set k r).getD j zF).1) ∧ _ = some (Value.bool ((b.fa.set k r).getD j zF).2.1) ∧ _ = some (Value.bool ((b.fa.set k r).getD j zF).2.2)
        rw [q]
        exact ⟨y0.trans z0, y1.trans z1, y2.trans z2⟩
    · intro e2
      have e3 : x = g := by injection e2
      subst e3
      exact h.ou.ne hc (by decide) e.symm
theorem all_set {l : List F} (h : l.all okF = true) (k : Nat) {f : F} (hf : okF f = true) : (l.set k f).all okF = true := by
  rw [List.all_eq_true] at h ⊢
  intro x hx
  rcases List.mem_or_eq_of_mem_set hx with hx | rfl
  · exact h x hx
  · exact hf
end Go.Proofs.YtdikhdfpcipdbaaGreatDoor.br
