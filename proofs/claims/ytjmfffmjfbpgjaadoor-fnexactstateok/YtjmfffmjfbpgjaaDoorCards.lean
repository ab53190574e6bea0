/-
  DERIVED. GIVEN WITH THE SEED: THE CARDS: each row of YtjmfffmjfbpgjaaDoorRows.lean that lists a variable, with what it lists TIED to the program's text (the seventh form; the later family's looks); each row that meets fmt, with fmt's text TOLD by the authors' own Lean function (tested against real Go, not proved from fmt's source: count such statements apart). THE CARD IS WHAT COUNTS. Prove the row's statement (the work); the ties are given (YtjmfffmjfbpgjaaDoorTie.lean); close each card by the builder's one call (the guide's Derived/Test/ToyasCard.lean, 'card_holds'). Laid BY PROGRAM, IN A SANDBOX (cutbox-door.mjs). By AI agents, Wed Nov 11 2026. No macro, syntax, notation, axiom, sorry.
-/
import Derived.Test.YtjmfffmjfbpgjaaDoorRows
import GoSem.ClaimSeven
namespace Go.Proofs.YtjmfffmjfbpgjaaDoor
namespace Rows

/-- THE TIED CARD OF 'laws.FnExactRecordOK'. -/
def fnExactRecordOKCard : Claim7 := { stood := { row := fnExactRecordOKRow, standIns := [], harness := (true, "598bfa65e86c4dfe631c18da8bb8f3dd2d69f87ababc82850033be44fc0d0536"), looks := false }, kinds := [], alts := [], laidByText := true, laidKinds := [.data, .data], laidTests := true, laidLooks := .later }
def FnExactRecordOKCardSaid : Prop := Claim7.holds Tryd.pinned (.plain (OpenSpec.ofChange fnExactRecordOKSpec)) fnExactRecordOKCard

/-- THE TIED CARD OF 'laws.FnExactRecordText'. -/
def fnExactRecordTextCard : Claim7 := { stood := { row := fnExactRecordTextRow, standIns := [], harness := (true, "598bfa65e86c4dfe631c18da8bb8f3dd2d69f87ababc82850033be44fc0d0536"), looks := false }, kinds := [], alts := [], laidByText := true, laidKinds := [.data, .data, .data, .data, .data], laidTests := true, laidLooks := .later }
def FnExactRecordTextCardSaid : Prop := Claim7.holds Tryd.pinned (.plain (OpenSpec.ofChange fnExactRecordTextSpec)) fnExactRecordTextCard

/-- THE TIED CARD OF 'laws.FnExactStateOK'. -/
def fnExactStateOKCard : Claim7 := { stood := { row := fnExactStateOKRow, standIns := [], harness := (true, "598bfa65e86c4dfe631c18da8bb8f3dd2d69f87ababc82850033be44fc0d0536"), looks := false }, kinds := [], alts := [], laidByText := true, laidKinds := [.data], laidTests := true, laidLooks := .later }
def FnExactStateOKCardSaid : Prop := Claim7.holds Tryd.pinned (.plain (OpenSpec.ofChange fnExactStateOKSpec)) fnExactStateOKCard

/-- THE SECOND FORM's CARD OF 'laws.FnExactRecordOK'. -/
def fnExactRecordOKUptoCard : Claim7 := { stood := { row := fnExactRecordOKUptoRow, standIns := [], harness := (true, "598bfa65e86c4dfe631c18da8bb8f3dd2d69f87ababc82850033be44fc0d0536"), looks := false }, kinds := [], alts := [], laidByText := true, laidKinds := [.data, .data], laidTests := true, laidLooks := .later }
def FnExactRecordOKUptoCardSaid : Prop := Claim7.holds Tryd.pinned (.plain (OpenSpec.upto fnExactRecordOKSpec)) fnExactRecordOKUptoCard

/-- THE SECOND FORM's CARD OF 'laws.FnExactRecordText'. -/
def fnExactRecordTextUptoCard : Claim7 := { stood := { row := fnExactRecordTextUptoRow, standIns := [], harness := (true, "598bfa65e86c4dfe631c18da8bb8f3dd2d69f87ababc82850033be44fc0d0536"), looks := false }, kinds := [], alts := [], laidByText := true, laidKinds := [.data, .data, .data, .data, .data], laidTests := true, laidLooks := .later }
def FnExactRecordTextUptoCardSaid : Prop := Claim7.holds Tryd.pinned (.plain (OpenSpec.upto fnExactRecordTextSpec)) fnExactRecordTextUptoCard

/-- THE SECOND FORM's CARD OF 'laws.FnExactStateOK'. -/
def fnExactStateOKUptoCard : Claim7 := { stood := { row := fnExactStateOKUptoRow, standIns := [], harness := (true, "598bfa65e86c4dfe631c18da8bb8f3dd2d69f87ababc82850033be44fc0d0536"), looks := false }, kinds := [], alts := [], laidByText := true, laidKinds := [.data], laidTests := true, laidLooks := .later }
def FnExactStateOKUptoCardSaid : Prop := Claim7.holds Tryd.pinned (.plain (OpenSpec.upto fnExactStateOKSpec)) fnExactStateOKUptoCard
end Rows
end Go.Proofs.YtjmfffmjfbpgjaaDoor
