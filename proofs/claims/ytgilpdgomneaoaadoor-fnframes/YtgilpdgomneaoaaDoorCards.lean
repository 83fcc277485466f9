/-
  DERIVED. GIVEN WITH THE SEED: THE CARDS: each row of YtgilpdgomneaoaaDoorRows.lean that lists a variable, with what it lists TIED to the program's text (the seventh form; the later family's looks); each row that meets fmt, with fmt's text TOLD by the authors' own Lean function (tested against real Go, not proved from fmt's source: count such statements apart). THE CARD IS WHAT COUNTS. Prove the row's statement (the work); the ties are given (YtgilpdgomneaoaaDoorTie.lean); close each card by the builder's one call (the guide's Derived/Test/ToyasCard.lean, 'card_holds'). Laid BY PROGRAM, IN A SANDBOX (cutbox-door.mjs). By AI agents, Wed Nov 11 2026. No macro, syntax, notation, axiom, sorry.
-/
import Derived.Test.YtgilpdgomneaoaaDoorRows
import GoSem.ClaimSeven
namespace Go.Proofs.YtgilpdgomneaoaaDoor
namespace Rows

/-- THE TIED CARD OF 'laws.FnFrames'. -/
def fnFramesCard : Claim7 := { stood := { row := fnFramesRow, standIns := [], harness := (true, "436b1280a4c2c36e5da5eab85ed4c9e7cc4cfb48db515791a114f1f7d9fb9c97"), looks := false }, kinds := [], alts := [], laidByText := true, laidKinds := [.data, .data, .data, .data], laidTests := true, laidLooks := .later }
def FnFramesCardSaid : Prop := Claim7.holds Tryd.pinned (.plain (OpenSpec.ofChange fnFramesSpec)) fnFramesCard

/-- THE TIED CARD OF 'laws.FnOneByte'. -/
def fnOneByteCard : Claim7 := { stood := { row := fnOneByteRow, standIns := [], harness := (true, "436b1280a4c2c36e5da5eab85ed4c9e7cc4cfb48db515791a114f1f7d9fb9c97"), looks := false }, kinds := [], alts := [], laidByText := true, laidKinds := [.data, .data, .data, .data], laidTests := true, laidLooks := .later }
def FnOneByteCardSaid : Prop := Claim7.holds Tryd.pinned (.plain (OpenSpec.ofChange fnOneByteSpec)) fnOneByteCard

/-- THE TIED CARD OF 'laws.FnExactFrameOk'. -/
def fnExactFrameOkCard : Claim7 := { stood := { row := fnExactFrameOkRow, standIns := [], harness := (true, "436b1280a4c2c36e5da5eab85ed4c9e7cc4cfb48db515791a114f1f7d9fb9c97"), looks := false }, kinds := [], alts := [], laidByText := true, laidKinds := [.data], laidTests := true, laidLooks := .later }
def FnExactFrameOkCardSaid : Prop := Claim7.holds Tryd.pinned (.plain (OpenSpec.ofChange fnExactFrameOkSpec)) fnExactFrameOkCard

/-- THE TIED CARD OF 'laws.FnExactShowFrame'. -/
def fnExactShowFrameCard : Claim7 := { stood := { row := fnExactShowFrameRow, standIns := [], harness := (true, "436b1280a4c2c36e5da5eab85ed4c9e7cc4cfb48db515791a114f1f7d9fb9c97"), looks := false }, kinds := [], alts := [], laidByText := true, laidKinds := [.data, .data, .data, .data], laidTests := true, laidLooks := .later }
def FnExactShowFrameCardSaid : Prop := Claim7.holds Tryd.pinned (.plain (OpenSpec.ofChange fnExactShowFrameSpec)) fnExactShowFrameCard

/-- THE TIED CARD OF 'laws.FnExactReadFrame'. -/
def fnExactReadFrameCard : Claim7 := { stood := { row := fnExactReadFrameRow, standIns := [], harness := (true, "436b1280a4c2c36e5da5eab85ed4c9e7cc4cfb48db515791a114f1f7d9fb9c97"), looks := false }, kinds := [], alts := [], laidByText := true, laidKinds := [.data, .data, .data, .data], laidTests := true, laidLooks := .later }
def FnExactReadFrameCardSaid : Prop := Claim7.holds Tryd.pinned (.plain (OpenSpec.ofChange fnExactReadFrameSpec)) fnExactReadFrameCard

/-- THE SECOND FORM's CARD OF 'laws.FnFrames'. -/
def fnFramesUptoCard : Claim7 := { stood := { row := fnFramesUptoRow, standIns := [], harness := (true, "436b1280a4c2c36e5da5eab85ed4c9e7cc4cfb48db515791a114f1f7d9fb9c97"), looks := false }, kinds := [], alts := [], laidByText := true, laidKinds := [.data, .data, .data, .data], laidTests := true, laidLooks := .later }
def FnFramesUptoCardSaid : Prop := Claim7.holds Tryd.pinned (.plain (OpenSpec.upto fnFramesSpec)) fnFramesUptoCard

/-- THE SECOND FORM's CARD OF 'laws.FnOneByte'. -/
def fnOneByteUptoCard : Claim7 := { stood := { row := fnOneByteUptoRow, standIns := [], harness := (true, "436b1280a4c2c36e5da5eab85ed4c9e7cc4cfb48db515791a114f1f7d9fb9c97"), looks := false }, kinds := [], alts := [], laidByText := true, laidKinds := [.data, .data, .data, .data], laidTests := true, laidLooks := .later }
def FnOneByteUptoCardSaid : Prop := Claim7.holds Tryd.pinned (.plain (OpenSpec.upto fnOneByteSpec)) fnOneByteUptoCard

/-- THE SECOND FORM's CARD OF 'laws.FnExactFrameOk'. -/
def fnExactFrameOkUptoCard : Claim7 := { stood := { row := fnExactFrameOkUptoRow, standIns := [], harness := (true, "436b1280a4c2c36e5da5eab85ed4c9e7cc4cfb48db515791a114f1f7d9fb9c97"), looks := false }, kinds := [], alts := [], laidByText := true, laidKinds := [.data], laidTests := true, laidLooks := .later }
def FnExactFrameOkUptoCardSaid : Prop := Claim7.holds Tryd.pinned (.plain (OpenSpec.upto fnExactFrameOkSpec)) fnExactFrameOkUptoCard

/-- THE SECOND FORM's CARD OF 'laws.FnExactShowFrame'. -/
def fnExactShowFrameUptoCard : Claim7 := { stood := { row := fnExactShowFrameUptoRow, standIns := [], harness := (true, "436b1280a4c2c36e5da5eab85ed4c9e7cc4cfb48db515791a114f1f7d9fb9c97"), looks := false }, kinds := [], alts := [], laidByText := true, laidKinds := [.data, .data, .data, .data], laidTests := true, laidLooks := .later }
def FnExactShowFrameUptoCardSaid : Prop := Claim7.holds Tryd.pinned (.plain (OpenSpec.upto fnExactShowFrameSpec)) fnExactShowFrameUptoCard

/-- THE SECOND FORM's CARD OF 'laws.FnExactReadFrame'. -/
def fnExactReadFrameUptoCard : Claim7 := { stood := { row := fnExactReadFrameUptoRow, standIns := [], harness := (true, "436b1280a4c2c36e5da5eab85ed4c9e7cc4cfb48db515791a114f1f7d9fb9c97"), looks := false }, kinds := [], alts := [], laidByText := true, laidKinds := [.data, .data, .data, .data], laidTests := true, laidLooks := .later }
def FnExactReadFrameUptoCardSaid : Prop := Claim7.holds Tryd.pinned (.plain (OpenSpec.upto fnExactReadFrameSpec)) fnExactReadFrameUptoCard
end Rows
end Go.Proofs.YtgilpdgomneaoaaDoor
