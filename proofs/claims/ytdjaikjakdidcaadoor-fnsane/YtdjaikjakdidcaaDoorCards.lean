/-
  DERIVED. GIVEN WITH THE SEED: THE CARDS: each row of YtdjaikjakdidcaaDoorRows.lean that lists a variable, with what it lists TIED to the program's text (the seventh form; the later family's looks); each row that meets fmt, with fmt's text TOLD by the authors' own Lean function (tested against real Go, not proved from fmt's source: count such statements apart). THE CARD IS WHAT COUNTS. Prove the row's statement (the work); the ties are given (YtdjaikjakdidcaaDoorTie.lean); close each card by the builder's one call (the guide's Derived/Test/ToyasCard.lean, 'card_holds'). Laid BY PROGRAM, IN A SANDBOX (cutbox-door.mjs). By AI agents, Wed Nov 11 2026. No macro, syntax, notation, axiom, sorry.
-/
import Derived.Test.YtdjaikjakdidcaaDoorRows
import GoSem.ClaimSeven
namespace Go.Proofs.YtdjaikjakdidcaaDoor
namespace Rows

/-- THE TIED CARD OF 'laws.FnSane'. -/
def fnSaneCard : Claim7 := { stood := { row := fnSaneRow, standIns := [], harness := (true, "16b4edad0026ec935013cc7425085da912f61bbb1f3a82e1107c1c5d30fef49a"), looks := true }, kinds := [], alts := [], laidByText := true, laidKinds := [.handle, .sentinel, .sentinel, .sentinel], laidTests := true, laidLooks := .later }
def FnSaneCardSaid : Prop := Claim7.holds Tryd.pinned (.plain (OpenSpec.ofChange fnSaneSpec)) fnSaneCard

/-- THE TIED CARD OF 'laws.FnExactIsSane'. -/
def fnExactIsSaneCard : Claim7 := { stood := { row := fnExactIsSaneRow, standIns := [], harness := (true, "16b4edad0026ec935013cc7425085da912f61bbb1f3a82e1107c1c5d30fef49a"), looks := true }, kinds := [], alts := [], laidByText := true, laidKinds := [.sentinel, .sentinel, .sentinel], laidTests := true, laidLooks := .later }
def FnExactIsSaneCardSaid : Prop := Claim7.holds Tryd.pinned (.plain (OpenSpec.ofChange fnExactIsSaneSpec)) fnExactIsSaneCard

/-- THE TIED CARD OF 'laws.FnExactTaken'. -/
def fnExactTakenCard : Claim7 := { stood := { row := fnExactTakenRow, standIns := [], harness := (true, "16b4edad0026ec935013cc7425085da912f61bbb1f3a82e1107c1c5d30fef49a"), looks := true }, kinds := [], alts := [], laidByText := true, laidKinds := [.handle, .sentinel, .sentinel, .sentinel], laidTests := true, laidLooks := .later }
def FnExactTakenCardSaid : Prop := Claim7.holds Tryd.pinned (.plain (OpenSpec.ofChange fnExactTakenSpec)) fnExactTakenCard

/-- THE SECOND FORM's CARD OF 'laws.FnSane'. -/
def fnSaneUptoCard : Claim7 := { stood := { row := fnSaneUptoRow, standIns := [], harness := (true, "16b4edad0026ec935013cc7425085da912f61bbb1f3a82e1107c1c5d30fef49a"), looks := true }, kinds := [], alts := [], laidByText := true, laidKinds := [.handle, .sentinel, .sentinel, .sentinel], laidTests := true, laidLooks := .later }
def FnSaneUptoCardSaid : Prop := Claim7.holds Tryd.pinned (.plain (OpenSpec.upto fnSaneSpec)) fnSaneUptoCard

/-- THE SECOND FORM's CARD OF 'laws.FnExactIsSane'. -/
def fnExactIsSaneUptoCard : Claim7 := { stood := { row := fnExactIsSaneUptoRow, standIns := [], harness := (true, "16b4edad0026ec935013cc7425085da912f61bbb1f3a82e1107c1c5d30fef49a"), looks := true }, kinds := [], alts := [], laidByText := true, laidKinds := [.sentinel, .sentinel, .sentinel], laidTests := true, laidLooks := .later }
def FnExactIsSaneUptoCardSaid : Prop := Claim7.holds Tryd.pinned (.plain (OpenSpec.upto fnExactIsSaneSpec)) fnExactIsSaneUptoCard

/-- THE SECOND FORM's CARD OF 'laws.FnExactTaken'. -/
def fnExactTakenUptoCard : Claim7 := { stood := { row := fnExactTakenUptoRow, standIns := [], harness := (true, "16b4edad0026ec935013cc7425085da912f61bbb1f3a82e1107c1c5d30fef49a"), looks := true }, kinds := [], alts := [], laidByText := true, laidKinds := [.handle, .sentinel, .sentinel, .sentinel], laidTests := true, laidLooks := .later }
def FnExactTakenUptoCardSaid : Prop := Claim7.holds Tryd.pinned (.plain (OpenSpec.upto fnExactTakenSpec)) fnExactTakenUptoCard
end Rows
end Go.Proofs.YtdjaikjakdidcaaDoor
