/-
  DERIVED. GIVEN WITH THE SEED: THE CARDS: each row of YtnglfambcophpaaDoorRows.lean that lists a variable, with what it lists TIED to the program's text (the seventh form; the later family's looks); each row that meets fmt, with fmt's text TOLD by the authors' own Lean function (tested against real Go, not proved from fmt's source: count such statements apart). THE CARD IS WHAT COUNTS. Prove the row's statement (the work); the ties are given (YtnglfambcophpaaDoorTie.lean); close each card by the builder's one call (the guide's Derived/Test/ToyasCard.lean, 'card_holds'). Laid BY PROGRAM, IN A SANDBOX (cutbox-door.mjs). By AI agents, Wed Nov 11 2026. No macro, syntax, notation, axiom, sorry.
-/
import Derived.Test.YtnglfambcophpaaDoorRows
import GoSem.ClaimSeven
namespace Go.Proofs.YtnglfambcophpaaDoor
namespace Rows

/-- THE TIED CARD OF 'laws.FnAlign'. -/
def fnAlignCard : Claim7 := { stood := { row := fnAlignRow, standIns := [], harness := (true, "0ee44c0de8cdc32443add5d51303d850ef5841d43a22719f6b6518fa5464a8ef"), looks := false }, kinds := [], alts := [], laidByText := true, laidKinds := [.data, .data], laidTests := true, laidLooks := .later }
def FnAlignCardSaid : Prop := Claim7.holds Tryd.pinned (.plain (OpenSpec.ofChange fnAlignSpec)) fnAlignCard

/-- THE TIED CARD OF 'laws.FnExactDataKey'. -/
def fnExactDataKeyCard : Claim7 := { stood := { row := fnExactDataKeyRow, standIns := [], harness := (true, "0ee44c0de8cdc32443add5d51303d850ef5841d43a22719f6b6518fa5464a8ef"), looks := false }, kinds := [], alts := [], laidByText := true, laidKinds := [.data, .data, .data, .data], laidTests := true, laidLooks := .later }
def FnExactDataKeyCardSaid : Prop := Claim7.holds Tryd.pinned (.plain (OpenSpec.ofChange fnExactDataKeySpec)) fnExactDataKeyCard

/-- THE TIED CARD OF 'laws.FnExactWidthOf'. -/
def fnExactWidthOfCard : Claim7 := { stood := { row := fnExactWidthOfRow, standIns := [], harness := (true, "0ee44c0de8cdc32443add5d51303d850ef5841d43a22719f6b6518fa5464a8ef"), looks := false }, kinds := [], alts := [], laidByText := true, laidKinds := [.data], laidTests := true, laidLooks := .later }
def FnExactWidthOfCardSaid : Prop := Claim7.holds Tryd.pinned (.plain (OpenSpec.ofChange fnExactWidthOfSpec)) fnExactWidthOfCard

/-- THE TIED CARD OF 'laws.FnExactKeepOf'. -/
def fnExactKeepOfCard : Claim7 := { stood := { row := fnExactKeepOfRow, standIns := [], harness := (true, "0ee44c0de8cdc32443add5d51303d850ef5841d43a22719f6b6518fa5464a8ef"), looks := false }, kinds := [], alts := [], laidByText := true, laidKinds := [.data], laidTests := true, laidLooks := .later }
def FnExactKeepOfCardSaid : Prop := Claim7.holds Tryd.pinned (.plain (OpenSpec.ofChange fnExactKeepOfSpec)) fnExactKeepOfCard

/-- THE TIED CARD OF 'laws.FnExactAlignDown'. -/
def fnExactAlignDownCard : Claim7 := { stood := { row := fnExactAlignDownRow, standIns := [], harness := (true, "0ee44c0de8cdc32443add5d51303d850ef5841d43a22719f6b6518fa5464a8ef"), looks := false }, kinds := [], alts := [], laidByText := true, laidKinds := [.data], laidTests := true, laidLooks := .later }
def FnExactAlignDownCardSaid : Prop := Claim7.holds Tryd.pinned (.plain (OpenSpec.ofChange fnExactAlignDownSpec)) fnExactAlignDownCard

/-- THE SECOND FORM's CARD OF 'laws.FnAlign'. -/
def fnAlignUptoCard : Claim7 := { stood := { row := fnAlignUptoRow, standIns := [], harness := (true, "0ee44c0de8cdc32443add5d51303d850ef5841d43a22719f6b6518fa5464a8ef"), looks := false }, kinds := [], alts := [], laidByText := true, laidKinds := [.data, .data], laidTests := true, laidLooks := .later }
def FnAlignUptoCardSaid : Prop := Claim7.holds Tryd.pinned (.plain (OpenSpec.upto fnAlignSpec)) fnAlignUptoCard

/-- THE SECOND FORM's CARD OF 'laws.FnExactDataKey'. -/
def fnExactDataKeyUptoCard : Claim7 := { stood := { row := fnExactDataKeyUptoRow, standIns := [], harness := (true, "0ee44c0de8cdc32443add5d51303d850ef5841d43a22719f6b6518fa5464a8ef"), looks := false }, kinds := [], alts := [], laidByText := true, laidKinds := [.data, .data, .data, .data], laidTests := true, laidLooks := .later }
def FnExactDataKeyUptoCardSaid : Prop := Claim7.holds Tryd.pinned (.plain (OpenSpec.upto fnExactDataKeySpec)) fnExactDataKeyUptoCard

/-- THE SECOND FORM's CARD OF 'laws.FnExactWidthOf'. -/
def fnExactWidthOfUptoCard : Claim7 := { stood := { row := fnExactWidthOfUptoRow, standIns := [], harness := (true, "0ee44c0de8cdc32443add5d51303d850ef5841d43a22719f6b6518fa5464a8ef"), looks := false }, kinds := [], alts := [], laidByText := true, laidKinds := [.data], laidTests := true, laidLooks := .later }
def FnExactWidthOfUptoCardSaid : Prop := Claim7.holds Tryd.pinned (.plain (OpenSpec.upto fnExactWidthOfSpec)) fnExactWidthOfUptoCard

/-- THE SECOND FORM's CARD OF 'laws.FnExactKeepOf'. -/
def fnExactKeepOfUptoCard : Claim7 := { stood := { row := fnExactKeepOfUptoRow, standIns := [], harness := (true, "0ee44c0de8cdc32443add5d51303d850ef5841d43a22719f6b6518fa5464a8ef"), looks := false }, kinds := [], alts := [], laidByText := true, laidKinds := [.data], laidTests := true, laidLooks := .later }
def FnExactKeepOfUptoCardSaid : Prop := Claim7.holds Tryd.pinned (.plain (OpenSpec.upto fnExactKeepOfSpec)) fnExactKeepOfUptoCard

/-- THE SECOND FORM's CARD OF 'laws.FnExactAlignDown'. -/
def fnExactAlignDownUptoCard : Claim7 := { stood := { row := fnExactAlignDownUptoRow, standIns := [], harness := (true, "0ee44c0de8cdc32443add5d51303d850ef5841d43a22719f6b6518fa5464a8ef"), looks := false }, kinds := [], alts := [], laidByText := true, laidKinds := [.data], laidTests := true, laidLooks := .later }
def FnExactAlignDownUptoCardSaid : Prop := Claim7.holds Tryd.pinned (.plain (OpenSpec.upto fnExactAlignDownSpec)) fnExactAlignDownUptoCard
end Rows
end Go.Proofs.YtnglfambcophpaaDoor
