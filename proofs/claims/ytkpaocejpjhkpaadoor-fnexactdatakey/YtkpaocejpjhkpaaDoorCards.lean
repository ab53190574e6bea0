/-
  DERIVED. GIVEN WITH THE SEED: THE CARDS: each row of YtkpaocejpjhkpaaDoorRows.lean that lists a variable, with what it lists TIED to the program's text (the seventh form; the later family's looks); each row that meets fmt, with fmt's text TOLD by the authors' own Lean function (tested against real Go, not proved from fmt's source: count such statements apart). THE CARD IS WHAT COUNTS. Prove the row's statement (the work); the ties are given (YtkpaocejpjhkpaaDoorTie.lean); close each card by the builder's one call (the guide's Derived/Test/ToyasCard.lean, 'card_holds'). Laid BY PROGRAM, IN A SANDBOX (cutbox-door.mjs). By AI agents, Wed Nov 11 2026. No macro, syntax, notation, axiom, sorry.
-/
import Derived.Test.YtkpaocejpjhkpaaDoorRows
import GoSem.ClaimSeven
namespace Go.Proofs.YtkpaocejpjhkpaaDoor
namespace Rows

/-- THE TIED CARD OF 'laws.FnExactLeaseText'. -/
def fnExactLeaseTextCard : Claim7 := { stood := { row := fnExactLeaseTextRow, standIns := [], harness := (true, "0ab9a6edf7f79f188fa6e64d0914ae111149f7b307ed4da06d2de7870ea035bd"), looks := true }, kinds := [], alts := [], laidByText := true, laidKinds := [.data, .data, .data], laidTests := true, laidLooks := .later }
def FnExactLeaseTextCardSaid : Prop := Claim7.holds Tryd.pinned (.plain (OpenSpec.ofChange fnExactLeaseTextSpec)) fnExactLeaseTextCard

/-- THE TIED CARD OF 'laws.FnExactReadLease'. -/
def fnExactReadLeaseCard : Claim7 := { stood := { row := fnExactReadLeaseRow, standIns := [], harness := (true, "0ab9a6edf7f79f188fa6e64d0914ae111149f7b307ed4da06d2de7870ea035bd"), looks := true }, kinds := [], alts := [], laidByText := true, laidKinds := [.data, .data, .data, .data, .sentinel, .sentinel, .pinned], laidTests := true, laidLooks := .later }
def FnExactReadLeaseCardSaid : Prop := Claim7.holds Tryd.pinned (.plain (OpenSpec.ofChange fnExactReadLeaseSpec)) fnExactReadLeaseCard

/-- THE TIED CARD OF 'laws.FnExactLeaseOf'. -/
def fnExactLeaseOfCard : Claim7 := { stood := { row := fnExactLeaseOfRow, standIns := [], harness := (true, "0ab9a6edf7f79f188fa6e64d0914ae111149f7b307ed4da06d2de7870ea035bd"), looks := true }, kinds := [], alts := [], laidByText := true, laidKinds := [.data, .data, .data, .data, .sentinel, .sentinel, .pinned], laidTests := true, laidLooks := .later }
def FnExactLeaseOfCardSaid : Prop := Claim7.holds Tryd.pinned (.plain (OpenSpec.ofChange fnExactLeaseOfSpec)) fnExactLeaseOfCard

/-- THE TIED CARD OF 'laws.FnExactDataKey'. -/
def fnExactDataKeyCard : Claim7 := { stood := { row := fnExactDataKeyRow, standIns := [], harness := (true, "0ab9a6edf7f79f188fa6e64d0914ae111149f7b307ed4da06d2de7870ea035bd"), looks := true }, kinds := [], alts := [], laidByText := true, laidKinds := [.data, .data, .data, .data], laidTests := true, laidLooks := .later }
def FnExactDataKeyCardSaid : Prop := Claim7.holds Tryd.pinned (.plain (OpenSpec.ofChange fnExactDataKeySpec)) fnExactDataKeyCard

/-- THE SECOND FORM's CARD OF 'laws.FnExactLeaseText'. -/
def fnExactLeaseTextUptoCard : Claim7 := { stood := { row := fnExactLeaseTextUptoRow, standIns := [], harness := (true, "0ab9a6edf7f79f188fa6e64d0914ae111149f7b307ed4da06d2de7870ea035bd"), looks := true }, kinds := [], alts := [], laidByText := true, laidKinds := [.data, .data, .data], laidTests := true, laidLooks := .later }
def FnExactLeaseTextUptoCardSaid : Prop := Claim7.holds Tryd.pinned (.plain (OpenSpec.upto fnExactLeaseTextSpec)) fnExactLeaseTextUptoCard

/-- THE SECOND FORM's CARD OF 'laws.FnExactReadLease'. -/
def fnExactReadLeaseUptoCard : Claim7 := { stood := { row := fnExactReadLeaseUptoRow, standIns := [], harness := (true, "0ab9a6edf7f79f188fa6e64d0914ae111149f7b307ed4da06d2de7870ea035bd"), looks := true }, kinds := [], alts := [], laidByText := true, laidKinds := [.data, .data, .data, .data, .sentinel, .sentinel, .pinned], laidTests := true, laidLooks := .later }
def FnExactReadLeaseUptoCardSaid : Prop := Claim7.holds Tryd.pinned (.plain (OpenSpec.upto fnExactReadLeaseSpec)) fnExactReadLeaseUptoCard

/-- THE SECOND FORM's CARD OF 'laws.FnExactLeaseOf'. -/
def fnExactLeaseOfUptoCard : Claim7 := { stood := { row := fnExactLeaseOfUptoRow, standIns := [], harness := (true, "0ab9a6edf7f79f188fa6e64d0914ae111149f7b307ed4da06d2de7870ea035bd"), looks := true }, kinds := [], alts := [], laidByText := true, laidKinds := [.data, .data, .data, .data, .sentinel, .sentinel, .pinned], laidTests := true, laidLooks := .later }
def FnExactLeaseOfUptoCardSaid : Prop := Claim7.holds Tryd.pinned (.plain (OpenSpec.upto fnExactLeaseOfSpec)) fnExactLeaseOfUptoCard

/-- THE SECOND FORM's CARD OF 'laws.FnExactDataKey'. -/
def fnExactDataKeyUptoCard : Claim7 := { stood := { row := fnExactDataKeyUptoRow, standIns := [], harness := (true, "0ab9a6edf7f79f188fa6e64d0914ae111149f7b307ed4da06d2de7870ea035bd"), looks := true }, kinds := [], alts := [], laidByText := true, laidKinds := [.data, .data, .data, .data], laidTests := true, laidLooks := .later }
def FnExactDataKeyUptoCardSaid : Prop := Claim7.holds Tryd.pinned (.plain (OpenSpec.upto fnExactDataKeySpec)) fnExactDataKeyUptoCard
end Rows
end Go.Proofs.YtkpaocejpjhkpaaDoor
