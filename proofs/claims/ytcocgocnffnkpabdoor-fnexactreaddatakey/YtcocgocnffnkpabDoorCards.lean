/-
  DERIVED. GIVEN WITH THE SEED: THE CARDS: each row of YtcocgocnffnkpabDoorRows.lean that lists a variable, with what it lists TIED to the program's text (the seventh form; the later family's looks); each row that meets fmt, with fmt's text TOLD by the authors' own Lean function (tested against real Go, not proved from fmt's source: count such statements apart). THE CARD IS WHAT COUNTS. Prove the row's statement (the work); the ties are given (YtcocgocnffnkpabDoorTie.lean); close each card by the builder's one call (the guide's Derived/Test/ToyasCard.lean, 'card_holds'). Laid BY PROGRAM, IN A SANDBOX (cutbox-door.mjs). By AI agents, Wed Nov 11 2026. No macro, syntax, notation, axiom, sorry.
-/
import Derived.Test.YtcocgocnffnkpabDoorRows
import GoSem.ClaimSeven
namespace Go.Proofs.YtcocgocnffnkpabDoor
namespace Rows

/-- THE TIED CARD OF 'laws.FnExactDataKey'. -/
def fnExactDataKeyCard : Claim7 := { stood := { row := fnExactDataKeyRow, standIns := [], harness := (true, "e3b689cd4026dd363b6a2562389ca432582e7bbf780725c470df9fc9acb77bce"), looks := false }, kinds := [], alts := [], laidByText := true, laidKinds := [.data, .data, .data, .data], laidTests := true, laidLooks := .later }
def FnExactDataKeyCardSaid : Prop := Claim7.holds Tryd.pinned (.plain (OpenSpec.ofChange fnExactDataKeySpec)) fnExactDataKeyCard

/-- THE TIED CARD OF 'laws.FnExactReadDataKey'. -/
def fnExactReadDataKeyCard : Claim7 := { stood := { row := fnExactReadDataKeyRow, standIns := [], harness := (true, "e3b689cd4026dd363b6a2562389ca432582e7bbf780725c470df9fc9acb77bce"), looks := false }, kinds := [], alts := [], laidByText := true, laidKinds := [.data], laidTests := true, laidLooks := .later }
def FnExactReadDataKeyCardSaid : Prop := Claim7.holds Tryd.pinned (.plain (OpenSpec.ofChange fnExactReadDataKeySpec)) fnExactReadDataKeyCard

/-- THE SECOND FORM's CARD OF 'laws.FnExactDataKey'. -/
def fnExactDataKeyUptoCard : Claim7 := { stood := { row := fnExactDataKeyUptoRow, standIns := [], harness := (true, "e3b689cd4026dd363b6a2562389ca432582e7bbf780725c470df9fc9acb77bce"), looks := false }, kinds := [], alts := [], laidByText := true, laidKinds := [.data, .data, .data, .data], laidTests := true, laidLooks := .later }
def FnExactDataKeyUptoCardSaid : Prop := Claim7.holds Tryd.pinned (.plain (OpenSpec.upto fnExactDataKeySpec)) fnExactDataKeyUptoCard

/-- THE SECOND FORM's CARD OF 'laws.FnExactReadDataKey'. -/
def fnExactReadDataKeyUptoCard : Claim7 := { stood := { row := fnExactReadDataKeyUptoRow, standIns := [], harness := (true, "e3b689cd4026dd363b6a2562389ca432582e7bbf780725c470df9fc9acb77bce"), looks := false }, kinds := [], alts := [], laidByText := true, laidKinds := [.data], laidTests := true, laidLooks := .later }
def FnExactReadDataKeyUptoCardSaid : Prop := Claim7.holds Tryd.pinned (.plain (OpenSpec.upto fnExactReadDataKeySpec)) fnExactReadDataKeyUptoCard
end Rows
end Go.Proofs.YtcocgocnffnkpabDoor
