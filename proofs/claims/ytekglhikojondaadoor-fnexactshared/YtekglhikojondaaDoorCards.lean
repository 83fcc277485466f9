/-
  DERIVED. GIVEN WITH THE SEED: THE CARDS: each row of YtekglhikojondaaDoorRows.lean that lists a variable, with what it lists TIED to the program's text (the seventh form; the later family's looks); each row that meets fmt, with fmt's text TOLD by the authors' own Lean function (tested against real Go, not proved from fmt's source: count such statements apart). THE CARD IS WHAT COUNTS. Prove the row's statement (the work); the ties are given (YtekglhikojondaaDoorTie.lean); close each card by the builder's one call (the guide's Derived/Test/ToyasCard.lean, 'card_holds'). Laid BY PROGRAM, IN A SANDBOX (cutbox-door.mjs). By AI agents, Wed Nov 11 2026. No macro, syntax, notation, axiom, sorry.
-/
import Derived.Test.YtekglhikojondaaDoorRows
import GoSem.ClaimSeven
namespace Go.Proofs.YtekglhikojondaaDoor
namespace Rows

/-- THE TIED CARD OF 'laws.FnShared'. -/
def fnSharedCard : Claim7 := { stood := { row := fnSharedRow, standIns := [], harness := (true, "7dc7babcab558d1beccfa0bbc32ba9568bfa0ab7224e5d371573208b837e129e"), looks := false }, kinds := [], alts := [], laidByText := true, laidKinds := [.data], laidTests := true, laidLooks := .later }
def FnSharedCardSaid : Prop := Claim7.holds Tryd.pinned (.plain (OpenSpec.ofChange fnSharedSpec)) fnSharedCard

/-- THE TIED CARD OF 'laws.FnReached'. -/
def fnReachedCard : Claim7 := { stood := { row := fnReachedRow, standIns := [], harness := (true, "7dc7babcab558d1beccfa0bbc32ba9568bfa0ab7224e5d371573208b837e129e"), looks := false }, kinds := [], alts := [], laidByText := true, laidKinds := [.data], laidTests := true, laidLooks := .later }
def FnReachedCardSaid : Prop := Claim7.holds Tryd.pinned (.plain (OpenSpec.ofChange fnReachedSpec)) fnReachedCard

/-- THE TIED CARD OF 'laws.FnExactWeightsOf'. -/
def fnExactWeightsOfCard : Claim7 := { stood := { row := fnExactWeightsOfRow, standIns := [], harness := (true, "7dc7babcab558d1beccfa0bbc32ba9568bfa0ab7224e5d371573208b837e129e"), looks := false }, kinds := [], alts := [], laidByText := true, laidKinds := [.data], laidTests := true, laidLooks := .later }
def FnExactWeightsOfCardSaid : Prop := Claim7.holds Tryd.pinned (.plain (OpenSpec.ofChange fnExactWeightsOfSpec)) fnExactWeightsOfCard

/-- THE TIED CARD OF 'laws.FnExactShared'. -/
def fnExactSharedCard : Claim7 := { stood := { row := fnExactSharedRow, standIns := [], harness := (true, "7dc7babcab558d1beccfa0bbc32ba9568bfa0ab7224e5d371573208b837e129e"), looks := false }, kinds := [], alts := [], laidByText := true, laidKinds := [.data], laidTests := true, laidLooks := .later }
def FnExactSharedCardSaid : Prop := Claim7.holds Tryd.pinned (.plain (OpenSpec.ofChange fnExactSharedSpec)) fnExactSharedCard

/-- THE TIED CARD OF 'laws.FnExactReached'. -/
def fnExactReachedCard : Claim7 := { stood := { row := fnExactReachedRow, standIns := [], harness := (true, "7dc7babcab558d1beccfa0bbc32ba9568bfa0ab7224e5d371573208b837e129e"), looks := false }, kinds := [], alts := [], laidByText := true, laidKinds := [.data], laidTests := true, laidLooks := .later }
def FnExactReachedCardSaid : Prop := Claim7.holds Tryd.pinned (.plain (OpenSpec.ofChange fnExactReachedSpec)) fnExactReachedCard

/-- THE TIED CARD OF 'laws.FnExactEffectOf'. -/
def fnExactEffectOfCard : Claim7 := { stood := { row := fnExactEffectOfRow, standIns := [], harness := (true, "7dc7babcab558d1beccfa0bbc32ba9568bfa0ab7224e5d371573208b837e129e"), looks := false }, kinds := [], alts := [], laidByText := true, laidKinds := [.data], laidTests := true, laidLooks := .later }
def FnExactEffectOfCardSaid : Prop := Claim7.holds Tryd.pinned (.plain (OpenSpec.ofChange fnExactEffectOfSpec)) fnExactEffectOfCard

/-- THE SECOND FORM's CARD OF 'laws.FnShared'. -/
def fnSharedUptoCard : Claim7 := { stood := { row := fnSharedUptoRow, standIns := [], harness := (true, "7dc7babcab558d1beccfa0bbc32ba9568bfa0ab7224e5d371573208b837e129e"), looks := false }, kinds := [], alts := [], laidByText := true, laidKinds := [.data], laidTests := true, laidLooks := .later }
def FnSharedUptoCardSaid : Prop := Claim7.holds Tryd.pinned (.plain (OpenSpec.upto fnSharedSpec)) fnSharedUptoCard

/-- THE SECOND FORM's CARD OF 'laws.FnReached'. -/
def fnReachedUptoCard : Claim7 := { stood := { row := fnReachedUptoRow, standIns := [], harness := (true, "7dc7babcab558d1beccfa0bbc32ba9568bfa0ab7224e5d371573208b837e129e"), looks := false }, kinds := [], alts := [], laidByText := true, laidKinds := [.data], laidTests := true, laidLooks := .later }
def FnReachedUptoCardSaid : Prop := Claim7.holds Tryd.pinned (.plain (OpenSpec.upto fnReachedSpec)) fnReachedUptoCard

/-- THE SECOND FORM's CARD OF 'laws.FnExactWeightsOf'. -/
def fnExactWeightsOfUptoCard : Claim7 := { stood := { row := fnExactWeightsOfUptoRow, standIns := [], harness := (true, "7dc7babcab558d1beccfa0bbc32ba9568bfa0ab7224e5d371573208b837e129e"), looks := false }, kinds := [], alts := [], laidByText := true, laidKinds := [.data], laidTests := true, laidLooks := .later }
def FnExactWeightsOfUptoCardSaid : Prop := Claim7.holds Tryd.pinned (.plain (OpenSpec.upto fnExactWeightsOfSpec)) fnExactWeightsOfUptoCard

/-- THE SECOND FORM's CARD OF 'laws.FnExactShared'. -/
def fnExactSharedUptoCard : Claim7 := { stood := { row := fnExactSharedUptoRow, standIns := [], harness := (true, "7dc7babcab558d1beccfa0bbc32ba9568bfa0ab7224e5d371573208b837e129e"), looks := false }, kinds := [], alts := [], laidByText := true, laidKinds := [.data], laidTests := true, laidLooks := .later }
def FnExactSharedUptoCardSaid : Prop := Claim7.holds Tryd.pinned (.plain (OpenSpec.upto fnExactSharedSpec)) fnExactSharedUptoCard

/-- THE SECOND FORM's CARD OF 'laws.FnExactReached'. -/
def fnExactReachedUptoCard : Claim7 := { stood := { row := fnExactReachedUptoRow, standIns := [], harness := (true, "7dc7babcab558d1beccfa0bbc32ba9568bfa0ab7224e5d371573208b837e129e"), looks := false }, kinds := [], alts := [], laidByText := true, laidKinds := [.data], laidTests := true, laidLooks := .later }
def FnExactReachedUptoCardSaid : Prop := Claim7.holds Tryd.pinned (.plain (OpenSpec.upto fnExactReachedSpec)) fnExactReachedUptoCard

/-- THE SECOND FORM's CARD OF 'laws.FnExactEffectOf'. -/
def fnExactEffectOfUptoCard : Claim7 := { stood := { row := fnExactEffectOfUptoRow, standIns := [], harness := (true, "7dc7babcab558d1beccfa0bbc32ba9568bfa0ab7224e5d371573208b837e129e"), looks := false }, kinds := [], alts := [], laidByText := true, laidKinds := [.data], laidTests := true, laidLooks := .later }
def FnExactEffectOfUptoCardSaid : Prop := Claim7.holds Tryd.pinned (.plain (OpenSpec.upto fnExactEffectOfSpec)) fnExactEffectOfUptoCard
end Rows
end Go.Proofs.YtekglhikojondaaDoor
