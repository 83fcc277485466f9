/-
  DERIVED. GIVEN WITH THE SEED: THE CARDS: each row of YtjbgcgblamijdaaDoorRows.lean that lists a variable, with what it lists TIED to the program's text (the seventh form; the later family's looks); each row that meets fmt, with fmt's text TOLD by the authors' own Lean function (tested against real Go, not proved from fmt's source: count such statements apart). THE CARD IS WHAT COUNTS. Prove the row's statement (the work); the ties are given (YtjbgcgblamijdaaDoorTie.lean); close each card by the builder's one call (the guide's Derived/Test/ToyasCard.lean, 'card_holds'). Laid BY PROGRAM, IN A SANDBOX (cutbox-door.mjs). By AI agents, Wed Nov 11 2026. No macro, syntax, notation, axiom, sorry.
-/
import Derived.Test.YtjbgcgblamijdaaDoorRows
import GoSem.ClaimSeven
namespace Go.Proofs.YtjbgcgblamijdaaDoor
namespace Rows

/-- THE TIED CARD OF 'laws.FnExactSensesOk'. -/
def fnExactSensesOkCard : Claim7 := { stood := { row := fnExactSensesOkRow, standIns := [], harness := (true, "a7b829611ab6694caab0e2fa40ea08cafb905b472117640eb550020c2074d25a"), looks := false }, kinds := [], alts := [], laidByText := true, laidKinds := [.data], laidTests := true, laidLooks := .later }
def FnExactSensesOkCardSaid : Prop := Claim7.holds Tryd.pinned (.plain (OpenSpec.ofChange fnExactSensesOkSpec)) fnExactSensesOkCard

/-- THE TIED CARD OF 'laws.FnExactNewSenses'. -/
def fnExactNewSensesCard : Claim7 := { stood := { row := fnExactNewSensesRow, standIns := [], harness := (true, "a7b829611ab6694caab0e2fa40ea08cafb905b472117640eb550020c2074d25a"), looks := false }, kinds := [], alts := [], laidByText := true, laidKinds := [.data], laidTests := true, laidLooks := .later }
def FnExactNewSensesCardSaid : Prop := Claim7.holds Tryd.pinned (.plain (OpenSpec.ofChange fnExactNewSensesSpec)) fnExactNewSensesCard

/-- THE TIED CARD OF 'laws.FnExactFactsOf'. -/
def fnExactFactsOfCard : Claim7 := { stood := { row := fnExactFactsOfRow, standIns := [], harness := (true, "a7b829611ab6694caab0e2fa40ea08cafb905b472117640eb550020c2074d25a"), looks := false }, kinds := [], alts := [], laidByText := true, laidKinds := [.data], laidTests := true, laidLooks := .later }
def FnExactFactsOfCardSaid : Prop := Claim7.holds Tryd.pinned (.plain (OpenSpec.ofChange fnExactFactsOfSpec)) fnExactFactsOfCard

/-- THE SECOND FORM's CARD OF 'laws.FnExactSensesOk'. -/
def fnExactSensesOkUptoCard : Claim7 := { stood := { row := fnExactSensesOkUptoRow, standIns := [], harness := (true, "a7b829611ab6694caab0e2fa40ea08cafb905b472117640eb550020c2074d25a"), looks := false }, kinds := [], alts := [], laidByText := true, laidKinds := [.data], laidTests := true, laidLooks := .later }
def FnExactSensesOkUptoCardSaid : Prop := Claim7.holds Tryd.pinned (.plain (OpenSpec.upto fnExactSensesOkSpec)) fnExactSensesOkUptoCard

/-- THE SECOND FORM's CARD OF 'laws.FnExactNewSenses'. -/
def fnExactNewSensesUptoCard : Claim7 := { stood := { row := fnExactNewSensesUptoRow, standIns := [], harness := (true, "a7b829611ab6694caab0e2fa40ea08cafb905b472117640eb550020c2074d25a"), looks := false }, kinds := [], alts := [], laidByText := true, laidKinds := [.data], laidTests := true, laidLooks := .later }
def FnExactNewSensesUptoCardSaid : Prop := Claim7.holds Tryd.pinned (.plain (OpenSpec.upto fnExactNewSensesSpec)) fnExactNewSensesUptoCard

/-- THE SECOND FORM's CARD OF 'laws.FnExactFactsOf'. -/
def fnExactFactsOfUptoCard : Claim7 := { stood := { row := fnExactFactsOfUptoRow, standIns := [], harness := (true, "a7b829611ab6694caab0e2fa40ea08cafb905b472117640eb550020c2074d25a"), looks := false }, kinds := [], alts := [], laidByText := true, laidKinds := [.data], laidTests := true, laidLooks := .later }
def FnExactFactsOfUptoCardSaid : Prop := Claim7.holds Tryd.pinned (.plain (OpenSpec.upto fnExactFactsOfSpec)) fnExactFactsOfUptoCard
end Rows
end Go.Proofs.YtjbgcgblamijdaaDoor
