/- A brain of one's own stands where blocks ahead of it change. -/
import Derived.Test.YtdikhdfpcipdbaaGreatDoorBr
namespace Go.Proofs.YtdikhdfpcipdbaaGreatDoor.br
open Go.Proofs.YtdikhdfpcipdbaaGreatDoor.nums Go.Proofs.YtdikhdfpcipdbaaGreatDoor.mem
open Go.Proofs.YtdikhdfpcipdbaaGreatDoor.il (nth Ints Own)
set_option linter.unusedVariables false

/-- Blocks ahead of its own may change. -/
theorem OwnB.low {z : Nat} {w w' : World} {b : B} {p : P} (h : OwnB z w b p) {g : Nat} (hg : w.grownBy w' (some g)) (hlt : g < z) : OwnB z w' b p := by
  refine ⟨h.fa.grown hg (fun x e => ?_), h.se.chg (T := fun c => c = g) (se.chg_of_gr hg (fun b e => by injection e)) (fun c hc => ?_), h.ou.grown hg (fun x e => ?_), h.zf, h.zo⟩
  · have := h.zf x e
    intro e2
    have e3 : x.block = g := by injection e2
    omega
  · intro e2
    have e2 : c = g := e2
    rcases hc with ⟨x, e, e3⟩ | ⟨x, e, e3⟩ | ⟨x, e, e3⟩ | e
    · have := h.se.b1 x e; omega
    · have := h.se.b2 x e; omega
    · have := h.se.b3 x e; omega
    · have := h.se.b4 c e; omega
  · have := h.zo x e
    intro e2
    have e3 : x = g := by injection e2
    omega
end Go.Proofs.YtdikhdfpcipdbaaGreatDoor.br
