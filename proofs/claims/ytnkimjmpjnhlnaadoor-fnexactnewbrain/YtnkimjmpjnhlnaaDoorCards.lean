/-
  DERIVED. GIVEN WITH THE SEED: THE CARDS: each row of YtnkimjmpjnhlnaaDoorRows.lean that lists a variable, with what it lists TIED to the program's text (the seventh form; the later family's looks); each row that meets fmt, with fmt's text TOLD by the authors' own Lean function (tested against real Go, not proved from fmt's source: count such statements apart). THE CARD IS WHAT COUNTS. Prove the row's statement (the work); the ties are given (YtnkimjmpjnhlnaaDoorTie.lean); close each card by the builder's one call (the guide's Derived/Test/ToyasCard.lean, 'card_holds'). Laid BY PROGRAM, IN A SANDBOX (cutbox-door.mjs). By AI agents, Wed Nov 11 2026. No macro, syntax, notation, axiom, sorry.
-/
import Derived.Test.YtnkimjmpjnhlnaaDoorRows
import GoSem.ClaimSeven
namespace Go.Proofs.YtnkimjmpjnhlnaaDoor
namespace Rows

/-- THE TIED CARD OF 'laws.FnExactBrainOk'. -/
def fnExactBrainOkCard : Claim7 := { stood := { row := fnExactBrainOkRow, standIns := [], harness := (true, "cc0a05ecd456db3f7b5519c8c9cc4de86d82865c29561dd42bb6fcf77e2ed6b0"), looks := false }, kinds := [], alts := [], laidByText := true, laidKinds := [.data, .sentinel], laidTests := true, laidLooks := .later }
def FnExactBrainOkCardSaid : Prop := Claim7.holds Tryd.pinned (.plain (OpenSpec.ofChange fnExactBrainOkSpec)) fnExactBrainOkCard

/-- THE TIED CARD OF 'laws.FnExactNewBrain'. -/
def fnExactNewBrainCard : Claim7 := { stood := { row := fnExactNewBrainRow, standIns := [], harness := (true, "cc0a05ecd456db3f7b5519c8c9cc4de86d82865c29561dd42bb6fcf77e2ed6b0"), looks := false }, kinds := [], alts := [], laidByText := true, laidKinds := [.data], laidTests := true, laidLooks := .later }
def FnExactNewBrainCardSaid : Prop := Claim7.holds Tryd.pinned (.plain (OpenSpec.ofChange fnExactNewBrainSpec)) fnExactNewBrainCard

/-- THE SECOND FORM's CARD OF 'laws.FnExactBrainOk'. -/
def fnExactBrainOkUptoCard : Claim7 := { stood := { row := fnExactBrainOkUptoRow, standIns := [], harness := (true, "cc0a05ecd456db3f7b5519c8c9cc4de86d82865c29561dd42bb6fcf77e2ed6b0"), looks := false }, kinds := [], alts := [], laidByText := true, laidKinds := [.data, .sentinel], laidTests := true, laidLooks := .later }
def FnExactBrainOkUptoCardSaid : Prop := Claim7.holds Tryd.pinned (.plain (OpenSpec.upto fnExactBrainOkSpec)) fnExactBrainOkUptoCard

/-- THE SECOND FORM's CARD OF 'laws.FnExactNewBrain'. -/
def fnExactNewBrainUptoCard : Claim7 := { stood := { row := fnExactNewBrainUptoRow, standIns := [], harness := (true, "cc0a05ecd456db3f7b5519c8c9cc4de86d82865c29561dd42bb6fcf77e2ed6b0"), looks := false }, kinds := [], alts := [], laidByText := true, laidKinds := [.data], laidTests := true, laidLooks := .later }
def FnExactNewBrainUptoCardSaid : Prop := Claim7.holds Tryd.pinned (.plain (OpenSpec.upto fnExactNewBrainSpec)) fnExactNewBrainUptoCard
end Rows
end Go.Proofs.YtnkimjmpjnhlnaaDoor
