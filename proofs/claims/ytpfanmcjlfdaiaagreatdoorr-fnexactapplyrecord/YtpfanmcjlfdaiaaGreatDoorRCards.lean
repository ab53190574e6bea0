/-
  DERIVED. GIVEN WITH THE SEED: THE CARDS: each row of YtpfanmcjlfdaiaaGreatDoorRRows.lean that lists a variable, with what it lists TIED to the program's text (the seventh form; the later family's looks); each row that meets fmt, with fmt's text TOLD by the authors' own Lean function (tested against real Go, not proved from fmt's source: count such statements apart). THE CARD IS WHAT COUNTS. Prove the row's statement (the work); the ties are given (YtpfanmcjlfdaiaaGreatDoorRTie.lean); close each card by the builder's one call (the guide's Derived/Test/ToyasCard.lean, 'card_holds'). Laid BY PROGRAM, IN A SANDBOX (cutbox-door.mjs). By AI agents, Wed Nov 11 2026. No macro, syntax, notation, axiom, sorry.
-/
import Derived.Test.YtpfanmcjlfdaiaaGreatDoorRRows
import GoSem.ClaimSeven
namespace Go.Proofs.YtpfanmcjlfdaiaaGreatDoorR
namespace Rows

/-- THE TIED CARD OF 'laws.FnExactApplyRecord'. -/
def fnExactApplyRecordCard : Claim7 := { stood := { row := fnExactApplyRecordRow, standIns := [], harness := (true, "835d50d7e205c416fa2c84309d1de6115907415b5da6c0559a806c14ac27cc6b"), looks := true }, kinds := [], alts := [], laidByText := true, laidKinds := [.data, .data], laidTests := true, laidLooks := .later }
def FnExactApplyRecordCardSaid : Prop := Claim7.holds Tryz.pinned (.plain (OpenSpec.ofChange fnExactApplyRecordSpec)) fnExactApplyRecordCard

/-- THE TIED CARD OF 'laws.FnExactReplayLog'. -/
def fnExactReplayLogCard : Claim7 := { stood := { row := fnExactReplayLogRow, standIns := [], harness := (true, "835d50d7e205c416fa2c84309d1de6115907415b5da6c0559a806c14ac27cc6b"), looks := true }, kinds := [], alts := [], laidByText := true, laidKinds := [.data, .data, .data, .data, .sentinel, .sentinel, .data, .data, .pinned], laidTests := true, laidLooks := .later }
def FnExactReplayLogCardSaid : Prop := Claim7.holds Tryz.pinned (.plain (OpenSpec.ofChange fnExactReplayLogSpec)) fnExactReplayLogCard

/-- THE SECOND FORM's CARD OF 'laws.FnExactApplyRecord'. -/
def fnExactApplyRecordUptoCard : Claim7 := { stood := { row := fnExactApplyRecordUptoRow, standIns := [], harness := (true, "835d50d7e205c416fa2c84309d1de6115907415b5da6c0559a806c14ac27cc6b"), looks := true }, kinds := [], alts := [], laidByText := true, laidKinds := [.data, .data], laidTests := true, laidLooks := .later }
def FnExactApplyRecordUptoCardSaid : Prop := Claim7.holds Tryz.pinned (.plain (OpenSpec.upto fnExactApplyRecordSpec)) fnExactApplyRecordUptoCard

/-- THE SECOND FORM's CARD OF 'laws.FnExactReplayLog'. -/
def fnExactReplayLogUptoCard : Claim7 := { stood := { row := fnExactReplayLogUptoRow, standIns := [], harness := (true, "835d50d7e205c416fa2c84309d1de6115907415b5da6c0559a806c14ac27cc6b"), looks := true }, kinds := [], alts := [], laidByText := true, laidKinds := [.data, .data, .data, .data, .sentinel, .sentinel, .data, .data, .pinned], laidTests := true, laidLooks := .later }
def FnExactReplayLogUptoCardSaid : Prop := Claim7.holds Tryz.pinned (.plain (OpenSpec.upto fnExactReplayLogSpec)) fnExactReplayLogUptoCard
end Rows
end Go.Proofs.YtpfanmcjlfdaiaaGreatDoorR
