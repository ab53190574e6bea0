/-
  DERIVED. GIVEN WITH THE SEED: THE CARDS: each row of YtcocgocnffnkpaaDoorRows.lean that lists a variable, with what it lists TIED to the program's text (the seventh form; the later family's looks); each row that meets fmt, with fmt's text TOLD by the authors' own Lean function (tested against real Go, not proved from fmt's source: count such statements apart). THE CARD IS WHAT COUNTS. Prove the row's statement (the work); the ties are given (YtcocgocnffnkpaaDoorTie.lean); close each card by the builder's one call (the guide's Derived/Test/ToyasCard.lean, 'card_holds'). Laid BY PROGRAM, IN A SANDBOX (cutbox-door.mjs). By AI agents, Wed Nov 11 2026. No macro, syntax, notation, axiom, sorry.
-/
import Derived.Test.YtcocgocnffnkpaaDoorRows
import GoSem.ClaimSeven
namespace Go.Proofs.YtcocgocnffnkpaaDoor
namespace Rows

/-- THE TIED CARD OF 'laws.FnMean'. -/
def fnMeanCard : Claim7 := { stood := { row := fnMeanRow, standIns := [], harness := (true, "c8228a78b10d867ce2254cb71f5ce35f2c02f5d9a6b995d1d023e49f053bdf4a"), looks := true }, kinds := [], alts := [], laidByText := true, laidKinds := [.data, .data, .data, .data, .sentinel, .sentinel, .pinned], laidTests := true, laidLooks := .later }
def FnMeanCardSaid : Prop := Claim7.holds Tryd.pinned (.plain (OpenSpec.ofChange fnMeanSpec)) fnMeanCard

/-- THE TIED CARD OF 'laws.FnExactAggText'. -/
def fnExactAggTextCard : Claim7 := { stood := { row := fnExactAggTextRow, standIns := [], harness := (true, "c8228a78b10d867ce2254cb71f5ce35f2c02f5d9a6b995d1d023e49f053bdf4a"), looks := true }, kinds := [], alts := [], laidByText := true, laidKinds := [.data, .data, .data], laidTests := true, laidLooks := .later }
def FnExactAggTextCardSaid : Prop := Claim7.holds Tryd.pinned (.plain (OpenSpec.ofChange fnExactAggTextSpec)) fnExactAggTextCard

/-- THE TIED CARD OF 'laws.FnExactReadAgg'. -/
def fnExactReadAggCard : Claim7 := { stood := { row := fnExactReadAggRow, standIns := [], harness := (true, "c8228a78b10d867ce2254cb71f5ce35f2c02f5d9a6b995d1d023e49f053bdf4a"), looks := true }, kinds := [], alts := [], laidByText := true, laidKinds := [.data, .data, .data, .data, .sentinel, .sentinel, .pinned], laidTests := true, laidLooks := .later }
def FnExactReadAggCardSaid : Prop := Claim7.holds Tryd.pinned (.plain (OpenSpec.ofChange fnExactReadAggSpec)) fnExactReadAggCard

/-- THE TIED CARD OF 'laws.FnExactSamplesText'. -/
def fnExactSamplesTextCard : Claim7 := { stood := { row := fnExactSamplesTextRow, standIns := [], harness := (true, "c8228a78b10d867ce2254cb71f5ce35f2c02f5d9a6b995d1d023e49f053bdf4a"), looks := true }, kinds := [], alts := [], laidByText := true, laidKinds := [.data, .data, .data], laidTests := true, laidLooks := .later }
def FnExactSamplesTextCardSaid : Prop := Claim7.holds Tryd.pinned (.plain (OpenSpec.ofChange fnExactSamplesTextSpec)) fnExactSamplesTextCard

/-- THE TIED CARD OF 'laws.FnExactReadSamples'. -/
def fnExactReadSamplesCard : Claim7 := { stood := { row := fnExactReadSamplesRow, standIns := [], harness := (true, "c8228a78b10d867ce2254cb71f5ce35f2c02f5d9a6b995d1d023e49f053bdf4a"), looks := true }, kinds := [], alts := [], laidByText := true, laidKinds := [.data, .data, .data, .sentinel, .sentinel], laidTests := true, laidLooks := .later }
def FnExactReadSamplesCardSaid : Prop := Claim7.holds Tryd.pinned (.plain (OpenSpec.ofChange fnExactReadSamplesSpec)) fnExactReadSamplesCard

/-- THE TIED CARD OF 'laws.FnExactBucketsText'. -/
def fnExactBucketsTextCard : Claim7 := { stood := { row := fnExactBucketsTextRow, standIns := [], harness := (true, "c8228a78b10d867ce2254cb71f5ce35f2c02f5d9a6b995d1d023e49f053bdf4a"), looks := true }, kinds := [], alts := [], laidByText := true, laidKinds := [.data, .data, .data], laidTests := true, laidLooks := .later }
def FnExactBucketsTextCardSaid : Prop := Claim7.holds Tryd.pinned (.plain (OpenSpec.ofChange fnExactBucketsTextSpec)) fnExactBucketsTextCard

/-- THE TIED CARD OF 'laws.FnExactReadBuckets'. -/
def fnExactReadBucketsCard : Claim7 := { stood := { row := fnExactReadBucketsRow, standIns := [], harness := (true, "c8228a78b10d867ce2254cb71f5ce35f2c02f5d9a6b995d1d023e49f053bdf4a"), looks := true }, kinds := [], alts := [], laidByText := true, laidKinds := [.data, .data, .data, .data, .sentinel, .sentinel, .pinned], laidTests := true, laidLooks := .later }
def FnExactReadBucketsCardSaid : Prop := Claim7.holds Tryd.pinned (.plain (OpenSpec.ofChange fnExactReadBucketsSpec)) fnExactReadBucketsCard

/-- THE SECOND FORM's CARD OF 'laws.FnMean'. -/
def fnMeanUptoCard : Claim7 := { stood := { row := fnMeanUptoRow, standIns := [], harness := (true, "c8228a78b10d867ce2254cb71f5ce35f2c02f5d9a6b995d1d023e49f053bdf4a"), looks := true }, kinds := [], alts := [], laidByText := true, laidKinds := [.data, .data, .data, .data, .sentinel, .sentinel, .pinned], laidTests := true, laidLooks := .later }
def FnMeanUptoCardSaid : Prop := Claim7.holds Tryd.pinned (.plain (OpenSpec.upto fnMeanSpec)) fnMeanUptoCard

/-- THE SECOND FORM's CARD OF 'laws.FnExactAggText'. -/
def fnExactAggTextUptoCard : Claim7 := { stood := { row := fnExactAggTextUptoRow, standIns := [], harness := (true, "c8228a78b10d867ce2254cb71f5ce35f2c02f5d9a6b995d1d023e49f053bdf4a"), looks := true }, kinds := [], alts := [], laidByText := true, laidKinds := [.data, .data, .data], laidTests := true, laidLooks := .later }
def FnExactAggTextUptoCardSaid : Prop := Claim7.holds Tryd.pinned (.plain (OpenSpec.upto fnExactAggTextSpec)) fnExactAggTextUptoCard

/-- THE SECOND FORM's CARD OF 'laws.FnExactReadAgg'. -/
def fnExactReadAggUptoCard : Claim7 := { stood := { row := fnExactReadAggUptoRow, standIns := [], harness := (true, "c8228a78b10d867ce2254cb71f5ce35f2c02f5d9a6b995d1d023e49f053bdf4a"), looks := true }, kinds := [], alts := [], laidByText := true, laidKinds := [.data, .data, .data, .data, .sentinel, .sentinel, .pinned], laidTests := true, laidLooks := .later }
def FnExactReadAggUptoCardSaid : Prop := Claim7.holds Tryd.pinned (.plain (OpenSpec.upto fnExactReadAggSpec)) fnExactReadAggUptoCard

/-- THE SECOND FORM's CARD OF 'laws.FnExactSamplesText'. -/
def fnExactSamplesTextUptoCard : Claim7 := { stood := { row := fnExactSamplesTextUptoRow, standIns := [], harness := (true, "c8228a78b10d867ce2254cb71f5ce35f2c02f5d9a6b995d1d023e49f053bdf4a"), looks := true }, kinds := [], alts := [], laidByText := true, laidKinds := [.data, .data, .data], laidTests := true, laidLooks := .later }
def FnExactSamplesTextUptoCardSaid : Prop := Claim7.holds Tryd.pinned (.plain (OpenSpec.upto fnExactSamplesTextSpec)) fnExactSamplesTextUptoCard

/-- THE SECOND FORM's CARD OF 'laws.FnExactReadSamples'. -/
def fnExactReadSamplesUptoCard : Claim7 := { stood := { row := fnExactReadSamplesUptoRow, standIns := [], harness := (true, "c8228a78b10d867ce2254cb71f5ce35f2c02f5d9a6b995d1d023e49f053bdf4a"), looks := true }, kinds := [], alts := [], laidByText := true, laidKinds := [.data, .data, .data, .sentinel, .sentinel], laidTests := true, laidLooks := .later }
def FnExactReadSamplesUptoCardSaid : Prop := Claim7.holds Tryd.pinned (.plain (OpenSpec.upto fnExactReadSamplesSpec)) fnExactReadSamplesUptoCard

/-- THE SECOND FORM's CARD OF 'laws.FnExactBucketsText'. -/
def fnExactBucketsTextUptoCard : Claim7 := { stood := { row := fnExactBucketsTextUptoRow, standIns := [], harness := (true, "c8228a78b10d867ce2254cb71f5ce35f2c02f5d9a6b995d1d023e49f053bdf4a"), looks := true }, kinds := [], alts := [], laidByText := true, laidKinds := [.data, .data, .data], laidTests := true, laidLooks := .later }
def FnExactBucketsTextUptoCardSaid : Prop := Claim7.holds Tryd.pinned (.plain (OpenSpec.upto fnExactBucketsTextSpec)) fnExactBucketsTextUptoCard

/-- THE SECOND FORM's CARD OF 'laws.FnExactReadBuckets'. -/
def fnExactReadBucketsUptoCard : Claim7 := { stood := { row := fnExactReadBucketsUptoRow, standIns := [], harness := (true, "c8228a78b10d867ce2254cb71f5ce35f2c02f5d9a6b995d1d023e49f053bdf4a"), looks := true }, kinds := [], alts := [], laidByText := true, laidKinds := [.data, .data, .data, .data, .sentinel, .sentinel, .pinned], laidTests := true, laidLooks := .later }
def FnExactReadBucketsUptoCardSaid : Prop := Claim7.holds Tryd.pinned (.plain (OpenSpec.upto fnExactReadBucketsSpec)) fnExactReadBucketsUptoCard
end Rows
end Go.Proofs.YtcocgocnffnkpaaDoor
