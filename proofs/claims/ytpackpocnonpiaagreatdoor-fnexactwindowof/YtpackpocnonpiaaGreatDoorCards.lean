/-
  DERIVED. GIVEN WITH THE SEED: THE CARDS: each row of YtpackpocnonpiaaGreatDoorRows.lean that lists a variable, with what it lists TIED to the program's text (the seventh form; the later family's looks); each row that meets fmt, with fmt's text TOLD by the authors' own Lean function (tested against real Go, not proved from fmt's source: count such statements apart). THE CARD IS WHAT COUNTS. Prove the row's statement (the work); the ties are given (YtpackpocnonpiaaGreatDoorTie.lean); close each card by the builder's one call (the guide's Derived/Test/ToyasCard.lean, 'card_holds'). Laid BY PROGRAM, IN A SANDBOX (cutbox-door.mjs). By AI agents, Wed Nov 11 2026. No macro, syntax, notation, axiom, sorry.
-/
import Derived.Test.YtpackpocnonpiaaGreatDoorRows
import GoSem.ClaimSeven
namespace Go.Proofs.YtpackpocnonpiaaGreatDoor
namespace Rows

/-- THE TIED CARD OF 'laws.FnExactWindowOf'. -/
def fnExactWindowOfCard : Claim7 := { stood := { row := fnExactWindowOfRow, standIns := [], harness := (true, "c4f134b540aebd33a88c217c2a9c9d0af74131cf6e97fa1e3088217f5b00de03"), looks := true }, kinds := [], alts := [], laidByText := true, laidKinds := [.data, .data, .data, .data, .sentinel, .sentinel, .data, .pinned], laidTests := true, laidLooks := .later }
def FnExactWindowOfCardSaid : Prop := Claim7.holds Tryz.pinned (.plain (OpenSpec.ofChange fnExactWindowOfSpec)) fnExactWindowOfCard

/-- THE TIED CARD OF 'laws.FnExactApplyRecord'. -/
def fnExactApplyRecordCard : Claim7 := { stood := { row := fnExactApplyRecordRow, standIns := [], harness := (true, "c4f134b540aebd33a88c217c2a9c9d0af74131cf6e97fa1e3088217f5b00de03"), looks := true }, kinds := [], alts := [], laidByText := true, laidKinds := [.data, .data], laidTests := true, laidLooks := .later }
def FnExactApplyRecordCardSaid : Prop := Claim7.holds Tryz.pinned (.plain (OpenSpec.ofChange fnExactApplyRecordSpec)) fnExactApplyRecordCard

/-- THE TIED CARD OF 'laws.FnExactReplayLog'. -/
def fnExactReplayLogCard : Claim7 := { stood := { row := fnExactReplayLogRow, standIns := [], harness := (true, "c4f134b540aebd33a88c217c2a9c9d0af74131cf6e97fa1e3088217f5b00de03"), looks := true }, kinds := [], alts := [], laidByText := true, laidKinds := [.data, .data, .data, .data, .sentinel, .sentinel, .data, .data, .pinned], laidTests := true, laidLooks := .later }
def FnExactReplayLogCardSaid : Prop := Claim7.holds Tryz.pinned (.plain (OpenSpec.ofChange fnExactReplayLogSpec)) fnExactReplayLogCard

/-- THE TIED CARD OF 'laws.FnRecord'. -/
def fnRecordCard : Claim7 := { stood := { row := fnRecordRow, standIns := [], harness := (true, "c4f134b540aebd33a88c217c2a9c9d0af74131cf6e97fa1e3088217f5b00de03"), looks := true }, kinds := [], alts := [], laidByText := true, laidKinds := [.data, .data, .data, .data, .sentinel, .sentinel, .data, .data, .pinned], laidTests := true, laidLooks := .later }
def FnRecordCardSaid : Prop := Claim7.holds Tryz.pinned (.plain (OpenSpec.ofChange fnRecordSpec)) fnRecordCard

/-- THE SECOND FORM's CARD OF 'laws.FnExactWindowOf'. -/
def fnExactWindowOfUptoCard : Claim7 := { stood := { row := fnExactWindowOfUptoRow, standIns := [], harness := (true, "c4f134b540aebd33a88c217c2a9c9d0af74131cf6e97fa1e3088217f5b00de03"), looks := true }, kinds := [], alts := [], laidByText := true, laidKinds := [.data, .data, .data, .data, .sentinel, .sentinel, .data, .pinned], laidTests := true, laidLooks := .later }
def FnExactWindowOfUptoCardSaid : Prop := Claim7.holds Tryz.pinned (.plain (OpenSpec.upto fnExactWindowOfSpec)) fnExactWindowOfUptoCard

/-- THE SECOND FORM's CARD OF 'laws.FnExactApplyRecord'. -/
def fnExactApplyRecordUptoCard : Claim7 := { stood := { row := fnExactApplyRecordUptoRow, standIns := [], harness := (true, "c4f134b540aebd33a88c217c2a9c9d0af74131cf6e97fa1e3088217f5b00de03"), looks := true }, kinds := [], alts := [], laidByText := true, laidKinds := [.data, .data], laidTests := true, laidLooks := .later }
def FnExactApplyRecordUptoCardSaid : Prop := Claim7.holds Tryz.pinned (.plain (OpenSpec.upto fnExactApplyRecordSpec)) fnExactApplyRecordUptoCard

/-- THE SECOND FORM's CARD OF 'laws.FnExactReplayLog'. -/
def fnExactReplayLogUptoCard : Claim7 := { stood := { row := fnExactReplayLogUptoRow, standIns := [], harness := (true, "c4f134b540aebd33a88c217c2a9c9d0af74131cf6e97fa1e3088217f5b00de03"), looks := true }, kinds := [], alts := [], laidByText := true, laidKinds := [.data, .data, .data, .data, .sentinel, .sentinel, .data, .data, .pinned], laidTests := true, laidLooks := .later }
def FnExactReplayLogUptoCardSaid : Prop := Claim7.holds Tryz.pinned (.plain (OpenSpec.upto fnExactReplayLogSpec)) fnExactReplayLogUptoCard

/-- THE SECOND FORM's CARD OF 'laws.FnRecord'. -/
def fnRecordUptoCard : Claim7 := { stood := { row := fnRecordUptoRow, standIns := [], harness := (true, "c4f134b540aebd33a88c217c2a9c9d0af74131cf6e97fa1e3088217f5b00de03"), looks := true }, kinds := [], alts := [], laidByText := true, laidKinds := [.data, .data, .data, .data, .sentinel, .sentinel, .data, .data, .pinned], laidTests := true, laidLooks := .later }
def FnRecordUptoCardSaid : Prop := Claim7.holds Tryz.pinned (.plain (OpenSpec.upto fnRecordSpec)) fnRecordUptoCard
end Rows
end Go.Proofs.YtpackpocnonpiaaGreatDoor
