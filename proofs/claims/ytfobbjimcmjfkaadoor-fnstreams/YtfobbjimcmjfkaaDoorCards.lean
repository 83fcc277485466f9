/-
  DERIVED. GIVEN WITH THE SEED: THE CARDS: each row of YtfobbjimcmjfkaaDoorRows.lean that lists a variable, with what it lists TIED to the program's text (the seventh form; the later family's looks); each row that meets fmt, with fmt's text TOLD by the authors' own Lean function (tested against real Go, not proved from fmt's source: count such statements apart). THE CARD IS WHAT COUNTS. Prove the row's statement (the work); the ties are given (YtfobbjimcmjfkaaDoorTie.lean); close each card by the builder's one call (the guide's Derived/Test/ToyasCard.lean, 'card_holds'). Laid BY PROGRAM, IN A SANDBOX (cutbox-door.mjs). By AI agents, Wed Nov 11 2026. No macro, syntax, notation, axiom, sorry.
-/
import Derived.Test.YtfobbjimcmjfkaaDoorRows
import GoSem.ClaimSeven
namespace Go.Proofs.YtfobbjimcmjfkaaDoor
namespace Rows

/-- THE TIED CARD OF 'laws.FnStreams'. -/
def fnStreamsCard : Claim7 := { stood := { row := fnStreamsRow, standIns := [], harness := (true, "06ab62aa524dc8c07b2d8239907f87622bf2aaa7ce3b7b051f08a9adf72fe73c"), looks := false }, kinds := [], alts := [], laidByText := true, laidKinds := [.data, .data, .data, .data], laidTests := true, laidLooks := .later }
def FnStreamsCardSaid : Prop := Claim7.holds Tryd.pinned (.plain (OpenSpec.ofChange fnStreamsSpec)) fnStreamsCard

/-- THE TIED CARD OF 'laws.FnNewer'. -/
def fnNewerCard : Claim7 := { stood := { row := fnNewerRow, standIns := [], harness := (true, "06ab62aa524dc8c07b2d8239907f87622bf2aaa7ce3b7b051f08a9adf72fe73c"), looks := false }, kinds := [], alts := [], laidByText := true, laidKinds := [.data], laidTests := true, laidLooks := .later }
def FnNewerCardSaid : Prop := Claim7.holds Tryd.pinned (.plain (OpenSpec.ofChange fnNewerSpec)) fnNewerCard

/-- THE TIED CARD OF 'laws.FnExactFramesIn'. -/
def fnExactFramesInCard : Claim7 := { stood := { row := fnExactFramesInRow, standIns := [], harness := (true, "06ab62aa524dc8c07b2d8239907f87622bf2aaa7ce3b7b051f08a9adf72fe73c"), looks := false }, kinds := [], alts := [], laidByText := true, laidKinds := [.data, .data, .data, .data], laidTests := true, laidLooks := .later }
def FnExactFramesInCardSaid : Prop := Claim7.holds Tryd.pinned (.plain (OpenSpec.ofChange fnExactFramesInSpec)) fnExactFramesInCard

/-- THE TIED CARD OF 'laws.FnExactHeard'. -/
def fnExactHeardCard : Claim7 := { stood := { row := fnExactHeardRow, standIns := [], harness := (true, "06ab62aa524dc8c07b2d8239907f87622bf2aaa7ce3b7b051f08a9adf72fe73c"), looks := false }, kinds := [], alts := [], laidByText := true, laidKinds := [.data], laidTests := true, laidLooks := .later }
def FnExactHeardCardSaid : Prop := Claim7.holds Tryd.pinned (.plain (OpenSpec.ofChange fnExactHeardSpec)) fnExactHeardCard

/-- THE SECOND FORM's CARD OF 'laws.FnStreams'. -/
def fnStreamsUptoCard : Claim7 := { stood := { row := fnStreamsUptoRow, standIns := [], harness := (true, "06ab62aa524dc8c07b2d8239907f87622bf2aaa7ce3b7b051f08a9adf72fe73c"), looks := false }, kinds := [], alts := [], laidByText := true, laidKinds := [.data, .data, .data, .data], laidTests := true, laidLooks := .later }
def FnStreamsUptoCardSaid : Prop := Claim7.holds Tryd.pinned (.plain (OpenSpec.upto fnStreamsSpec)) fnStreamsUptoCard

/-- THE SECOND FORM's CARD OF 'laws.FnNewer'. -/
def fnNewerUptoCard : Claim7 := { stood := { row := fnNewerUptoRow, standIns := [], harness := (true, "06ab62aa524dc8c07b2d8239907f87622bf2aaa7ce3b7b051f08a9adf72fe73c"), looks := false }, kinds := [], alts := [], laidByText := true, laidKinds := [.data], laidTests := true, laidLooks := .later }
def FnNewerUptoCardSaid : Prop := Claim7.holds Tryd.pinned (.plain (OpenSpec.upto fnNewerSpec)) fnNewerUptoCard

/-- THE SECOND FORM's CARD OF 'laws.FnExactFramesIn'. -/
def fnExactFramesInUptoCard : Claim7 := { stood := { row := fnExactFramesInUptoRow, standIns := [], harness := (true, "06ab62aa524dc8c07b2d8239907f87622bf2aaa7ce3b7b051f08a9adf72fe73c"), looks := false }, kinds := [], alts := [], laidByText := true, laidKinds := [.data, .data, .data, .data], laidTests := true, laidLooks := .later }
def FnExactFramesInUptoCardSaid : Prop := Claim7.holds Tryd.pinned (.plain (OpenSpec.upto fnExactFramesInSpec)) fnExactFramesInUptoCard

/-- THE SECOND FORM's CARD OF 'laws.FnExactHeard'. -/
def fnExactHeardUptoCard : Claim7 := { stood := { row := fnExactHeardUptoRow, standIns := [], harness := (true, "06ab62aa524dc8c07b2d8239907f87622bf2aaa7ce3b7b051f08a9adf72fe73c"), looks := false }, kinds := [], alts := [], laidByText := true, laidKinds := [.data], laidTests := true, laidLooks := .later }
def FnExactHeardUptoCardSaid : Prop := Claim7.holds Tryd.pinned (.plain (OpenSpec.upto fnExactHeardSpec)) fnExactHeardUptoCard
end Rows
end Go.Proofs.YtfobbjimcmjfkaaDoor
