/-
  DERIVED. GIVEN WITH THE SEED: THE CARDS: each row of YthmpmagajbmpaaaDoorRows.lean that lists a variable, with what it lists TIED to the program's text (the seventh form; the later family's looks); each row that meets fmt, with fmt's text TOLD by the authors' own Lean function (tested against real Go, not proved from fmt's source: count such statements apart). THE CARD IS WHAT COUNTS. Prove the row's statement (the work); the ties are given (YthmpmagajbmpaaaDoorTie.lean); close each card by the builder's one call (the guide's Derived/Test/ToyasCard.lean, 'card_holds'). Laid BY PROGRAM, IN A SANDBOX (cutbox-door.mjs). By AI agents, Wed Nov 11 2026. No macro, syntax, notation, axiom, sorry.
-/
import Derived.Test.YthmpmagajbmpaaaDoorRows
import GoSem.ClaimSeven
namespace Go.Proofs.YthmpmagajbmpaaaDoor
namespace Rows

/-- THE TIED CARD OF 'laws.FnExactDueWindow'. -/
def fnExactDueWindowCard : Claim7 := { stood := { row := fnExactDueWindowRow, standIns := [], harness := (true, "1178f2880b7c98b5ea985affc577b4a6a44fafaa68a7081fa67cbaac5f5988a3"), looks := false }, kinds := [], alts := [], laidByText := true, laidKinds := [.data, .data], laidTests := true, laidLooks := .later }
def FnExactDueWindowCardSaid : Prop := Claim7.holds Tryd.pinned (.plain (OpenSpec.ofChange fnExactDueWindowSpec)) fnExactDueWindowCard

/-- THE TIED CARD OF 'laws.FnExactInputsOf'. -/
def fnExactInputsOfCard : Claim7 := { stood := { row := fnExactInputsOfRow, standIns := [], harness := (true, "1178f2880b7c98b5ea985affc577b4a6a44fafaa68a7081fa67cbaac5f5988a3"), looks := false }, kinds := [], alts := [], laidByText := true, laidKinds := [.data], laidTests := true, laidLooks := .later }
def FnExactInputsOfCardSaid : Prop := Claim7.holds Tryd.pinned (.plain (OpenSpec.ofChange fnExactInputsOfSpec)) fnExactInputsOfCard

/-- THE TIED CARD OF 'laws.FnExactExpiredEntry'. -/
def fnExactExpiredEntryCard : Claim7 := { stood := { row := fnExactExpiredEntryRow, standIns := [], harness := (true, "1178f2880b7c98b5ea985affc577b4a6a44fafaa68a7081fa67cbaac5f5988a3"), looks := false }, kinds := [], alts := [], laidByText := true, laidKinds := [.data, .data], laidTests := true, laidLooks := .later }
def FnExactExpiredEntryCardSaid : Prop := Claim7.holds Tryd.pinned (.plain (OpenSpec.ofChange fnExactExpiredEntrySpec)) fnExactExpiredEntryCard

/-- THE TIED CARD OF 'laws.FnExactOrphansOf'. -/
def fnExactOrphansOfCard : Claim7 := { stood := { row := fnExactOrphansOfRow, standIns := [], harness := (true, "1178f2880b7c98b5ea985affc577b4a6a44fafaa68a7081fa67cbaac5f5988a3"), looks := false }, kinds := [], alts := [], laidByText := true, laidKinds := [.data], laidTests := true, laidLooks := .later }
def FnExactOrphansOfCardSaid : Prop := Claim7.holds Tryd.pinned (.plain (OpenSpec.ofChange fnExactOrphansOfSpec)) fnExactOrphansOfCard

/-- THE TIED CARD OF 'laws.FnExactCoverOf'. -/
def fnExactCoverOfCard : Claim7 := { stood := { row := fnExactCoverOfRow, standIns := [], harness := (true, "1178f2880b7c98b5ea985affc577b4a6a44fafaa68a7081fa67cbaac5f5988a3"), looks := false }, kinds := [], alts := [], laidByText := true, laidKinds := [.data, .data], laidTests := true, laidLooks := .later }
def FnExactCoverOfCardSaid : Prop := Claim7.holds Tryd.pinned (.plain (OpenSpec.ofChange fnExactCoverOfSpec)) fnExactCoverOfCard

/-- THE SECOND FORM's CARD OF 'laws.FnExactDueWindow'. -/
def fnExactDueWindowUptoCard : Claim7 := { stood := { row := fnExactDueWindowUptoRow, standIns := [], harness := (true, "1178f2880b7c98b5ea985affc577b4a6a44fafaa68a7081fa67cbaac5f5988a3"), looks := false }, kinds := [], alts := [], laidByText := true, laidKinds := [.data, .data], laidTests := true, laidLooks := .later }
def FnExactDueWindowUptoCardSaid : Prop := Claim7.holds Tryd.pinned (.plain (OpenSpec.upto fnExactDueWindowSpec)) fnExactDueWindowUptoCard

/-- THE SECOND FORM's CARD OF 'laws.FnExactInputsOf'. -/
def fnExactInputsOfUptoCard : Claim7 := { stood := { row := fnExactInputsOfUptoRow, standIns := [], harness := (true, "1178f2880b7c98b5ea985affc577b4a6a44fafaa68a7081fa67cbaac5f5988a3"), looks := false }, kinds := [], alts := [], laidByText := true, laidKinds := [.data], laidTests := true, laidLooks := .later }
def FnExactInputsOfUptoCardSaid : Prop := Claim7.holds Tryd.pinned (.plain (OpenSpec.upto fnExactInputsOfSpec)) fnExactInputsOfUptoCard

/-- THE SECOND FORM's CARD OF 'laws.FnExactExpiredEntry'. -/
def fnExactExpiredEntryUptoCard : Claim7 := { stood := { row := fnExactExpiredEntryUptoRow, standIns := [], harness := (true, "1178f2880b7c98b5ea985affc577b4a6a44fafaa68a7081fa67cbaac5f5988a3"), looks := false }, kinds := [], alts := [], laidByText := true, laidKinds := [.data, .data], laidTests := true, laidLooks := .later }
def FnExactExpiredEntryUptoCardSaid : Prop := Claim7.holds Tryd.pinned (.plain (OpenSpec.upto fnExactExpiredEntrySpec)) fnExactExpiredEntryUptoCard

/-- THE SECOND FORM's CARD OF 'laws.FnExactOrphansOf'. -/
def fnExactOrphansOfUptoCard : Claim7 := { stood := { row := fnExactOrphansOfUptoRow, standIns := [], harness := (true, "1178f2880b7c98b5ea985affc577b4a6a44fafaa68a7081fa67cbaac5f5988a3"), looks := false }, kinds := [], alts := [], laidByText := true, laidKinds := [.data], laidTests := true, laidLooks := .later }
def FnExactOrphansOfUptoCardSaid : Prop := Claim7.holds Tryd.pinned (.plain (OpenSpec.upto fnExactOrphansOfSpec)) fnExactOrphansOfUptoCard

/-- THE SECOND FORM's CARD OF 'laws.FnExactCoverOf'. -/
def fnExactCoverOfUptoCard : Claim7 := { stood := { row := fnExactCoverOfUptoRow, standIns := [], harness := (true, "1178f2880b7c98b5ea985affc577b4a6a44fafaa68a7081fa67cbaac5f5988a3"), looks := false }, kinds := [], alts := [], laidByText := true, laidKinds := [.data, .data], laidTests := true, laidLooks := .later }
def FnExactCoverOfUptoCardSaid : Prop := Claim7.holds Tryd.pinned (.plain (OpenSpec.upto fnExactCoverOfSpec)) fnExactCoverOfUptoCard
end Rows
end Go.Proofs.YthmpmagajbmpaaaDoor
