/-
  DERIVED. GIVEN WITH THE SEED: THE CARDS: each row of YtpackpocnonpiaaDoorRows.lean that lists a variable, with what it lists TIED to the program's text (the seventh form; the later family's looks); each row that meets fmt, with fmt's text TOLD by the authors' own Lean function (tested against real Go, not proved from fmt's source: count such statements apart). THE CARD IS WHAT COUNTS. Prove the row's statement (the work); the ties are given (YtpackpocnonpiaaDoorTie.lean); close each card by the builder's one call (the guide's Derived/Test/ToyasCard.lean, 'card_holds'). Laid BY PROGRAM, IN A SANDBOX (cutbox-door.mjs). By AI agents, Wed Nov 11 2026. No macro, syntax, notation, axiom, sorry.
-/
import Derived.Test.YtpackpocnonpiaaDoorRows
import GoSem.ClaimSeven
namespace Go.Proofs.YtpackpocnonpiaaDoor
namespace Rows

/-- THE TIED CARD OF 'laws.FnExactWorkerOK'. -/
def fnExactWorkerOKCard : Claim7 := { stood := { row := fnExactWorkerOKRow, standIns := [], harness := (true, "fb539d74765311b615e6d2c420c2690072381bfaf0e1a2f1989aaa2ae844fa75"), looks := false }, kinds := [], alts := [], laidByText := true, laidKinds := [.data, .data], laidTests := true, laidLooks := .later }
def FnExactWorkerOKCardSaid : Prop := Claim7.holds Tryd.pinned (.plain (OpenSpec.ofChange fnExactWorkerOKSpec)) fnExactWorkerOKCard

/-- THE SECOND FORM's CARD OF 'laws.FnExactWorkerOK'. -/
def fnExactWorkerOKUptoCard : Claim7 := { stood := { row := fnExactWorkerOKUptoRow, standIns := [], harness := (true, "fb539d74765311b615e6d2c420c2690072381bfaf0e1a2f1989aaa2ae844fa75"), looks := false }, kinds := [], alts := [], laidByText := true, laidKinds := [.data, .data], laidTests := true, laidLooks := .later }
def FnExactWorkerOKUptoCardSaid : Prop := Claim7.holds Tryd.pinned (.plain (OpenSpec.upto fnExactWorkerOKSpec)) fnExactWorkerOKUptoCard
end Rows
end Go.Proofs.YtpackpocnonpiaaDoor
