/-
  DERIVED. GIVEN WITH THE SEED: THE CARDS: each row of YtkpaocejpjhkpaaGreatDoorRows.lean that lists a variable, with what it lists TIED to the program's text (the seventh form; the later family's looks); each row that meets fmt, with fmt's text TOLD by the authors' own Lean function (tested against real Go, not proved from fmt's source: count such statements apart). THE CARD IS WHAT COUNTS. Prove the row's statement (the work); the ties are given (YtkpaocejpjhkpaaGreatDoorTie.lean); close each card by the builder's one call (the guide's Derived/Test/ToyasCard.lean, 'card_holds'). Laid BY PROGRAM, IN A SANDBOX (cutbox-door.mjs). By AI agents, Wed Nov 11 2026. No macro, syntax, notation, axiom, sorry.
-/
import Derived.Test.YtkpaocejpjhkpaaGreatDoorRows
import GoSem.ClaimSeven
namespace Go.Proofs.YtkpaocejpjhkpaaGreatDoor
namespace Rows

/-- THE TIED CARD OF 'laws.FnExactAcquire'. -/
def fnExactAcquireCard : Claim7 := { stood := { row := fnExactAcquireRow, standIns := [], harness := (true, "6d79aaab82c5b60982a8670a6f7902f4c7ad21d42cad926ced4e82b0e7f3a18d"), looks := true }, kinds := [], alts := [], laidByText := true, laidKinds := [.data, .data, .data, .data, .sentinel, .sentinel, .pinned], laidTests := true, laidLooks := .later }
def FnExactAcquireCardSaid : Prop := Claim7.holds Tryz.pinned (.plain (OpenSpec.ofChange fnExactAcquireSpec)) fnExactAcquireCard

/-- THE TIED CARD OF 'laws.FnExactRenew'. -/
def fnExactRenewCard : Claim7 := { stood := { row := fnExactRenewRow, standIns := [], harness := (true, "6d79aaab82c5b60982a8670a6f7902f4c7ad21d42cad926ced4e82b0e7f3a18d"), looks := true }, kinds := [], alts := [], laidByText := true, laidKinds := [.data, .data, .data, .data, .sentinel, .sentinel, .pinned], laidTests := true, laidLooks := .later }
def FnExactRenewCardSaid : Prop := Claim7.holds Tryz.pinned (.plain (OpenSpec.ofChange fnExactRenewSpec)) fnExactRenewCard

/-- THE TIED CARD OF 'laws.FnExactRelease'. -/
def fnExactReleaseCard : Claim7 := { stood := { row := fnExactReleaseRow, standIns := [], harness := (true, "6d79aaab82c5b60982a8670a6f7902f4c7ad21d42cad926ced4e82b0e7f3a18d"), looks := true }, kinds := [], alts := [], laidByText := true, laidKinds := [.data, .data, .data, .data, .sentinel, .sentinel, .pinned], laidTests := true, laidLooks := .later }
def FnExactReleaseCardSaid : Prop := Claim7.holds Tryz.pinned (.plain (OpenSpec.ofChange fnExactReleaseSpec)) fnExactReleaseCard

/-- THE SECOND FORM's CARD OF 'laws.FnExactAcquire'. -/
def fnExactAcquireUptoCard : Claim7 := { stood := { row := fnExactAcquireUptoRow, standIns := [], harness := (true, "6d79aaab82c5b60982a8670a6f7902f4c7ad21d42cad926ced4e82b0e7f3a18d"), looks := true }, kinds := [], alts := [], laidByText := true, laidKinds := [.data, .data, .data, .data, .sentinel, .sentinel, .pinned], laidTests := true, laidLooks := .later }
def FnExactAcquireUptoCardSaid : Prop := Claim7.holds Tryz.pinned (.plain (OpenSpec.upto fnExactAcquireSpec)) fnExactAcquireUptoCard

/-- THE SECOND FORM's CARD OF 'laws.FnExactRenew'. -/
def fnExactRenewUptoCard : Claim7 := { stood := { row := fnExactRenewUptoRow, standIns := [], harness := (true, "6d79aaab82c5b60982a8670a6f7902f4c7ad21d42cad926ced4e82b0e7f3a18d"), looks := true }, kinds := [], alts := [], laidByText := true, laidKinds := [.data, .data, .data, .data, .sentinel, .sentinel, .pinned], laidTests := true, laidLooks := .later }
def FnExactRenewUptoCardSaid : Prop := Claim7.holds Tryz.pinned (.plain (OpenSpec.upto fnExactRenewSpec)) fnExactRenewUptoCard

/-- THE SECOND FORM's CARD OF 'laws.FnExactRelease'. -/
def fnExactReleaseUptoCard : Claim7 := { stood := { row := fnExactReleaseUptoRow, standIns := [], harness := (true, "6d79aaab82c5b60982a8670a6f7902f4c7ad21d42cad926ced4e82b0e7f3a18d"), looks := true }, kinds := [], alts := [], laidByText := true, laidKinds := [.data, .data, .data, .data, .sentinel, .sentinel, .pinned], laidTests := true, laidLooks := .later }
def FnExactReleaseUptoCardSaid : Prop := Claim7.holds Tryz.pinned (.plain (OpenSpec.upto fnExactReleaseSpec)) fnExactReleaseUptoCard
end Rows
end Go.Proofs.YtkpaocejpjhkpaaGreatDoor
