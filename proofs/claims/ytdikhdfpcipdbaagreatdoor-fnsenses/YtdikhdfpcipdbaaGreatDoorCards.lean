/-
  DERIVED. GIVEN WITH THE SEED: THE CARDS: each row of YtdikhdfpcipdbaaGreatDoorRows.lean that lists a variable, with what it lists TIED to the program's text (the seventh form; the later family's looks); each row that meets fmt, with fmt's text TOLD by the authors' own Lean function (tested against real Go, not proved from fmt's source: count such statements apart). THE CARD IS WHAT COUNTS. Prove the row's statement (the work); the ties are given (YtdikhdfpcipdbaaGreatDoorTie.lean); close each card by the builder's one call (the guide's Derived/Test/ToyasCard.lean, 'card_holds'). Laid BY PROGRAM, IN A SANDBOX (cutbox-door.mjs). By AI agents, Wed Nov 11 2026. No macro, syntax, notation, axiom, sorry.
-/
import Derived.Test.YtdikhdfpcipdbaaGreatDoorRows
import GoSem.ClaimSeven
namespace Go.Proofs.YtdikhdfpcipdbaaGreatDoor
namespace Rows

/-- THE TIED CARD OF 'laws.FnSenses'. -/
def fnSensesCard : Claim7 := { stood := { row := fnSensesRow, standIns := [], harness := (true, "34bbfdd560031ee79a32ba7eaa453ad82e5bfb0abae8395cb04c62936ee4d554"), looks := true }, kinds := [], alts := [], laidByText := true, laidKinds := [.handle, .data, .sentinel, .sentinel, .sentinel, .data, .data], laidTests := true, laidLooks := .later }
def FnSensesCardSaid : Prop := Claim7.holds Tryz.pinned (.plain (OpenSpec.ofChange fnSensesSpec)) fnSensesCard

/-- THE TIED CARD OF 'laws.FnDeaf'. -/
def fnDeafCard : Claim7 := { stood := { row := fnDeafRow, standIns := [], harness := (true, "34bbfdd560031ee79a32ba7eaa453ad82e5bfb0abae8395cb04c62936ee4d554"), looks := true }, kinds := [], alts := [], laidByText := true, laidKinds := [.handle, .data, .sentinel, .sentinel, .sentinel, .data, .data], laidTests := true, laidLooks := .later }
def FnDeafCardSaid : Prop := Claim7.holds Tryz.pinned (.plain (OpenSpec.ofChange fnDeafSpec)) fnDeafCard

/-- THE SECOND FORM's CARD OF 'laws.FnSenses'. -/
def fnSensesUptoCard : Claim7 := { stood := { row := fnSensesUptoRow, standIns := [], harness := (true, "34bbfdd560031ee79a32ba7eaa453ad82e5bfb0abae8395cb04c62936ee4d554"), looks := true }, kinds := [], alts := [], laidByText := true, laidKinds := [.handle, .data, .sentinel, .sentinel, .sentinel, .data, .data], laidTests := true, laidLooks := .later }
def FnSensesUptoCardSaid : Prop := Claim7.holds Tryz.pinned (.plain (OpenSpec.upto fnSensesSpec)) fnSensesUptoCard

/-- THE SECOND FORM's CARD OF 'laws.FnDeaf'. -/
def fnDeafUptoCard : Claim7 := { stood := { row := fnDeafUptoRow, standIns := [], harness := (true, "34bbfdd560031ee79a32ba7eaa453ad82e5bfb0abae8395cb04c62936ee4d554"), looks := true }, kinds := [], alts := [], laidByText := true, laidKinds := [.handle, .data, .sentinel, .sentinel, .sentinel, .data, .data], laidTests := true, laidLooks := .later }
def FnDeafUptoCardSaid : Prop := Claim7.holds Tryz.pinned (.plain (OpenSpec.upto fnDeafSpec)) fnDeafUptoCard
end Rows
end Go.Proofs.YtdikhdfpcipdbaaGreatDoor
