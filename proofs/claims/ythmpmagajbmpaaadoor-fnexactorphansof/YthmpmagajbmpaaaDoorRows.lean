/-
  NARROWER THAN 'FOR EVERY INPUT', by the rows' own cells (each row's printed sentence says how): FnExactDueWindow: laid · FnExactInputsOf: laid · FnExactExpiredEntry: laid · FnExactOrphansOf: laid · FnExactCoverOf: laid.
  DERIVED. THE GIVEN ROWS OF THIS SEAT. 5 by the template 'for every input the law returns true; each argument reads behind the call as it read before'; 0 by the template 'total and deterministic' (their statements: YthmpmagajbmpaaaDoorTotals.lean).
  GIVEN WITH THE SEED: the statements are not yours to turn. If you find one false, say at which input.
  Laid BY PROGRAM, IN A SANDBOX (cutbox-rows.mjs): the forced cells as the released guide's own fill.sh prints them over the translation 3c18d6c42089be80… (all of the seat's roots in one cut). By AI agents, Wed Nov 11 2026. No macro, syntax, notation, axiom, sorry.
-/
import Derived.Test.YthmpmagajbmpaaaDoorChecked
import GoSem.Claim
import GoSem.ClaimJoined
import GoSem.ClaimMapViews
import Derived.JoinedTies
import Derived.KernelRfl
namespace Go.Proofs.YthmpmagajbmpaaaDoor
/- THE CELL 'sum', in the pinned program and in every row, IS THE sha256 OF THE DUMP (.gsa) THAT YthmpmagajbmpaaaDoorProg.lean LOADS. Nothing in Lean hashes anything: it is a label: what it is worth is what the hold of that sum in a sandbox is worth. -/
noncomputable def Tryd.pinned : Pinned := { name := "ythmpmagajbmpaaadoor", sum := "3c18d6c42089be80d4ab2b8b49909cf835ba17cd0b9b194614197185de11652b", checked := Tryd.checked }
namespace Rows
def none {H : Type} : Left H := { results := [], args := [] }

/- WHAT THE LISTED PACKAGE-LEVEL VARIABLES READ AS WHEN THE CALL BEGINS. Each datum BY PROGRAM (the guide's laid-datum.mjs) off the statement by which the dump's own 'gosem.cut.vars' lays the variable. In a bare row this is a premise. The card (YthmpmagajbmpaaaDoorCards.lean) ties it to the program's text. -/
def laid_loop_example_g00601_impl_tierPaths {H : Type} : DataW H := .agg [.lit (.string [114, 97, 119, 47]), .lit (.string [116, 49, 47]), .lit (.string [116, 50, 47])]
def laid_loop_example_g00601_impl_tierWidths {H : Type} : DataW H := .agg [.lit (.int .i64 1), .lit (.int .i64 5), .lit (.int .i64 20)]
def laid_loop_example_g00601_impl_tierKeeps {H : Type} : DataW H := .agg [.lit (.int .i64 40), .lit (.int .i64 100), .lit (.int .i64 400)]

/-- 'laws.FnExactDueWindow': WHATEVER THE INPUT: true; the input reads as it did. -/
def fnExactDueWindowSpec : ChangeSpec := { name := "fnExactDueWindow", vars := ["loop.example/g00601/impl.tierPaths", "loop.example/g00601/impl.tierWidths"], fn := fun _ => fun
  | [d, g1, g2] => { results := [.lit (.bool true)], args := [d], vars := [g1, g2] }
  | _ => none }
def fnExactDueWindowRow : OpenClaim := { program := "ythmpmagajbmpaaadoor", sum := "3c18d6c42089be80d4ab2b8b49909cf835ba17cd0b9b194614197185de11652b", func := "loop.example/g00601/laws.FnExactDueWindow", spec := "fnExactDueWindow", unfollowed := true, recurses := true, named := ["loop.example/g00601/impl.tierPaths", "loop.example/g00601/impl.tierWidths"], apart := false, laid := [("loop.example/g00601/impl.tierPaths", laid_loop_example_g00601_impl_tierPaths), ("loop.example/g00601/impl.tierWidths", laid_loop_example_g00601_impl_tierWidths)] }
def FnExactDueWindowSaid : Prop := fnExactDueWindowRow.holds Tryd.pinned (OpenSpec.ofChange fnExactDueWindowSpec)

/-- ITS FALSE NEIGHBOUR: 'it returns false'. Refute it at one input. -/
def fnExactDueWindowWrong : ChangeSpec := { name := "fnExactDueWindow", vars := ["loop.example/g00601/impl.tierPaths", "loop.example/g00601/impl.tierWidths"], fn := fun _ => fun
  | [d, g1, g2] => { results := [.lit (.bool false)], args := [d], vars := [g1, g2] }
  | _ => none }
def FnExactDueWindowWrongFalsely : Prop := fnExactDueWindowRow.holds Tryd.pinned (OpenSpec.ofChange fnExactDueWindowWrong)

/-- 'laws.FnExactInputsOf': WHATEVER THE INPUT: true; the input reads as it did. -/
def fnExactInputsOfSpec : ChangeSpec := { name := "fnExactInputsOf", vars := ["loop.example/g00601/impl.tierPaths"], fn := fun _ => fun
  | [d1, d2, d3, d4, g1] => { results := [.lit (.bool true)], args := [d1, d2, d3, d4], vars := [g1] }
  | _ => none }
def fnExactInputsOfRow : OpenClaim := { program := "ythmpmagajbmpaaadoor", sum := "3c18d6c42089be80d4ab2b8b49909cf835ba17cd0b9b194614197185de11652b", func := "loop.example/g00601/laws.FnExactInputsOf", spec := "fnExactInputsOf", unfollowed := true, recurses := true, named := ["loop.example/g00601/impl.tierPaths"], apart := false, laid := [("loop.example/g00601/impl.tierPaths", laid_loop_example_g00601_impl_tierPaths)] }
def FnExactInputsOfSaid : Prop := fnExactInputsOfRow.holds Tryd.pinned (OpenSpec.ofChange fnExactInputsOfSpec)

/-- ITS FALSE NEIGHBOUR: 'it returns false'. Refute it at one input. -/
def fnExactInputsOfWrong : ChangeSpec := { name := "fnExactInputsOf", vars := ["loop.example/g00601/impl.tierPaths"], fn := fun _ => fun
  | [d1, d2, d3, d4, g1] => { results := [.lit (.bool false)], args := [d1, d2, d3, d4], vars := [g1] }
  | _ => none }
def FnExactInputsOfWrongFalsely : Prop := fnExactInputsOfRow.holds Tryd.pinned (OpenSpec.ofChange fnExactInputsOfWrong)

/-- 'laws.FnExactExpiredEntry': WHATEVER THE INPUT: true; the input reads as it did. -/
def fnExactExpiredEntrySpec : ChangeSpec := { name := "fnExactExpiredEntry", vars := ["loop.example/g00601/impl.tierKeeps", "loop.example/g00601/impl.tierPaths"], fn := fun _ => fun
  | [d1, d2, g1, g2] => { results := [.lit (.bool true)], args := [d1, d2], vars := [g1, g2] }
  | _ => none }
def fnExactExpiredEntryRow : OpenClaim := { program := "ythmpmagajbmpaaadoor", sum := "3c18d6c42089be80d4ab2b8b49909cf835ba17cd0b9b194614197185de11652b", func := "loop.example/g00601/laws.FnExactExpiredEntry", spec := "fnExactExpiredEntry", unfollowed := true, recurses := true, named := ["loop.example/g00601/impl.tierKeeps", "loop.example/g00601/impl.tierPaths"], apart := false, laid := [("loop.example/g00601/impl.tierPaths", laid_loop_example_g00601_impl_tierPaths), ("loop.example/g00601/impl.tierKeeps", laid_loop_example_g00601_impl_tierKeeps)] }
def FnExactExpiredEntrySaid : Prop := fnExactExpiredEntryRow.holds Tryd.pinned (OpenSpec.ofChange fnExactExpiredEntrySpec)

/-- ITS FALSE NEIGHBOUR: 'it returns false'. Refute it at one input. -/
def fnExactExpiredEntryWrong : ChangeSpec := { name := "fnExactExpiredEntry", vars := ["loop.example/g00601/impl.tierKeeps", "loop.example/g00601/impl.tierPaths"], fn := fun _ => fun
  | [d1, d2, g1, g2] => { results := [.lit (.bool false)], args := [d1, d2], vars := [g1, g2] }
  | _ => none }
def FnExactExpiredEntryWrongFalsely : Prop := fnExactExpiredEntryRow.holds Tryd.pinned (OpenSpec.ofChange fnExactExpiredEntryWrong)

/-- 'laws.FnExactOrphansOf': WHATEVER THE INPUT: true; the input reads as it did. -/
def fnExactOrphansOfSpec : ChangeSpec := { name := "fnExactOrphansOf", vars := ["loop.example/g00601/impl.tierPaths"], fn := fun _ => fun
  | [d1, d2, g1] => { results := [.lit (.bool true)], args := [d1, d2], vars := [g1] }
  | _ => none }
def fnExactOrphansOfRow : OpenClaim := { program := "ythmpmagajbmpaaadoor", sum := "3c18d6c42089be80d4ab2b8b49909cf835ba17cd0b9b194614197185de11652b", func := "loop.example/g00601/laws.FnExactOrphansOf", spec := "fnExactOrphansOf", unfollowed := true, recurses := true, named := ["loop.example/g00601/impl.tierPaths"], apart := false, laid := [("loop.example/g00601/impl.tierPaths", laid_loop_example_g00601_impl_tierPaths)] }
def FnExactOrphansOfSaid : Prop := fnExactOrphansOfRow.holds Tryd.pinned (OpenSpec.ofChange fnExactOrphansOfSpec)

/-- ITS FALSE NEIGHBOUR: 'it returns false'. Refute it at one input. -/
def fnExactOrphansOfWrong : ChangeSpec := { name := "fnExactOrphansOf", vars := ["loop.example/g00601/impl.tierPaths"], fn := fun _ => fun
  | [d1, d2, g1] => { results := [.lit (.bool false)], args := [d1, d2], vars := [g1] }
  | _ => none }
def FnExactOrphansOfWrongFalsely : Prop := fnExactOrphansOfRow.holds Tryd.pinned (OpenSpec.ofChange fnExactOrphansOfWrong)

/-- 'laws.FnExactCoverOf': WHATEVER THE INPUT: true; the input reads as it did. -/
def fnExactCoverOfSpec : ChangeSpec := { name := "fnExactCoverOf", vars := ["loop.example/g00601/impl.tierWidths", "loop.example/g00601/impl.tierPaths"], fn := fun _ => fun
  | [d1, d2, d3, d4, g1, g2] => { results := [.lit (.bool true)], args := [d1, d2, d3, d4], vars := [g1, g2] }
  | _ => none }
def fnExactCoverOfRow : OpenClaim := { program := "ythmpmagajbmpaaadoor", sum := "3c18d6c42089be80d4ab2b8b49909cf835ba17cd0b9b194614197185de11652b", func := "loop.example/g00601/laws.FnExactCoverOf", spec := "fnExactCoverOf", unfollowed := true, recurses := true, named := ["loop.example/g00601/impl.tierWidths", "loop.example/g00601/impl.tierPaths"], apart := false, laid := [("loop.example/g00601/impl.tierPaths", laid_loop_example_g00601_impl_tierPaths), ("loop.example/g00601/impl.tierWidths", laid_loop_example_g00601_impl_tierWidths)] }
def FnExactCoverOfSaid : Prop := fnExactCoverOfRow.holds Tryd.pinned (OpenSpec.ofChange fnExactCoverOfSpec)

/-- ITS FALSE NEIGHBOUR: 'it returns false'. Refute it at one input. -/
def fnExactCoverOfWrong : ChangeSpec := { name := "fnExactCoverOf", vars := ["loop.example/g00601/impl.tierWidths", "loop.example/g00601/impl.tierPaths"], fn := fun _ => fun
  | [d1, d2, d3, d4, g1, g2] => { results := [.lit (.bool false)], args := [d1, d2, d3, d4], vars := [g1, g2] }
  | _ => none }
def FnExactCoverOfWrongFalsely : Prop := fnExactCoverOfRow.holds Tryd.pinned (OpenSpec.ofChange fnExactCoverOfWrong)

/- THE SECOND FORM. 'bulk': how many values and letters a reading holds, each counted each time it is reached (what is shared counts as often as it is met; a slice's spare places count too). A statement '..UptoSaid' is the law's where the arguments, and the package variables that the reading takes, are together of bulk at most 1048576: NARROWER than '..Said'. Prove '..Said' where nothing that the law and all that it calls make is longer than what came in: it says more and counts as full. Else prove '..UptoSaid'. A law counts once. -/
mutual
def uptoBulk {H : Type} : DataW H → Nat
  | .lit (.string bytes) => bytes.length + 1
  | .lit _ => 1
  | .nil => 1
  | .ptr d => uptoBulk d + 1
  | .slice elems spare => uptoBulkAll elems + uptoBulkAll spare + 1
  | .agg parts => uptoBulkAll parts + 1
  | .iface _ d => uptoBulk d + 1
  | .map entries => uptoBulkEntries entries + 1
  | .held _ => 1
def uptoBulkAll {H : Type} : List (DataW H) → Nat
  | [] => 0
  | d :: r => uptoBulk d + uptoBulkAll r
def uptoBulkEntries {H : Type} : List (Lit × DataW H) → Nat
  | [] => 0
  | x :: r => uptoBulkEntry x + uptoBulkEntries r
def uptoBulkEntry {H : Type} : Lit × DataW H → Nat
  | (.string bytes, d) => bytes.length + uptoBulk d + 1
  | (_, d) => uptoBulk d + 1
 end
def uptoSmall : (H : Type) → List (DataW H) → Bool := fun _ ds => decide (uptoBulkAll ds ≤ 1048576)
def OpenSpec.upto (s : _root_.Go.ChangeSpec) : _root_.Go.OpenSpec := { _root_.Go.OpenSpec.ofChange s with cond := some uptoSmall }

/-- 'laws.FnExactDueWindow', WHERE WHAT IT READS IS OF BULK AT MOST 1048576: true; the input reads as it did. -/
def fnExactDueWindowUptoRow : OpenClaim := { program := "ythmpmagajbmpaaadoor", sum := "3c18d6c42089be80d4ab2b8b49909cf835ba17cd0b9b194614197185de11652b", func := "loop.example/g00601/laws.FnExactDueWindow", spec := "fnExactDueWindow", unfollowed := true, recurses := true, named := ["loop.example/g00601/impl.tierPaths", "loop.example/g00601/impl.tierWidths"], apart := false, laid := [("loop.example/g00601/impl.tierPaths", laid_loop_example_g00601_impl_tierPaths), ("loop.example/g00601/impl.tierWidths", laid_loop_example_g00601_impl_tierWidths)], narrowed := true }
def FnExactDueWindowUptoSaid : Prop := fnExactDueWindowUptoRow.holds Tryd.pinned (OpenSpec.upto fnExactDueWindowSpec)

/-- 'laws.FnExactInputsOf', WHERE WHAT IT READS IS OF BULK AT MOST 1048576: true; the input reads as it did. -/
def fnExactInputsOfUptoRow : OpenClaim := { program := "ythmpmagajbmpaaadoor", sum := "3c18d6c42089be80d4ab2b8b49909cf835ba17cd0b9b194614197185de11652b", func := "loop.example/g00601/laws.FnExactInputsOf", spec := "fnExactInputsOf", unfollowed := true, recurses := true, named := ["loop.example/g00601/impl.tierPaths"], apart := false, laid := [("loop.example/g00601/impl.tierPaths", laid_loop_example_g00601_impl_tierPaths)], narrowed := true }
def FnExactInputsOfUptoSaid : Prop := fnExactInputsOfUptoRow.holds Tryd.pinned (OpenSpec.upto fnExactInputsOfSpec)

/-- 'laws.FnExactExpiredEntry', WHERE WHAT IT READS IS OF BULK AT MOST 1048576: true; the input reads as it did. -/
def fnExactExpiredEntryUptoRow : OpenClaim := { program := "ythmpmagajbmpaaadoor", sum := "3c18d6c42089be80d4ab2b8b49909cf835ba17cd0b9b194614197185de11652b", func := "loop.example/g00601/laws.FnExactExpiredEntry", spec := "fnExactExpiredEntry", unfollowed := true, recurses := true, named := ["loop.example/g00601/impl.tierKeeps", "loop.example/g00601/impl.tierPaths"], apart := false, laid := [("loop.example/g00601/impl.tierPaths", laid_loop_example_g00601_impl_tierPaths), ("loop.example/g00601/impl.tierKeeps", laid_loop_example_g00601_impl_tierKeeps)], narrowed := true }
def FnExactExpiredEntryUptoSaid : Prop := fnExactExpiredEntryUptoRow.holds Tryd.pinned (OpenSpec.upto fnExactExpiredEntrySpec)

/-- 'laws.FnExactOrphansOf', WHERE WHAT IT READS IS OF BULK AT MOST 1048576: true; the input reads as it did. -/
def fnExactOrphansOfUptoRow : OpenClaim := { program := "ythmpmagajbmpaaadoor", sum := "3c18d6c42089be80d4ab2b8b49909cf835ba17cd0b9b194614197185de11652b", func := "loop.example/g00601/laws.FnExactOrphansOf", spec := "fnExactOrphansOf", unfollowed := true, recurses := true, named := ["loop.example/g00601/impl.tierPaths"], apart := false, laid := [("loop.example/g00601/impl.tierPaths", laid_loop_example_g00601_impl_tierPaths)], narrowed := true }
def FnExactOrphansOfUptoSaid : Prop := fnExactOrphansOfUptoRow.holds Tryd.pinned (OpenSpec.upto fnExactOrphansOfSpec)

/-- 'laws.FnExactCoverOf', WHERE WHAT IT READS IS OF BULK AT MOST 1048576: true; the input reads as it did. -/
def fnExactCoverOfUptoRow : OpenClaim := { program := "ythmpmagajbmpaaadoor", sum := "3c18d6c42089be80d4ab2b8b49909cf835ba17cd0b9b194614197185de11652b", func := "loop.example/g00601/laws.FnExactCoverOf", spec := "fnExactCoverOf", unfollowed := true, recurses := true, named := ["loop.example/g00601/impl.tierWidths", "loop.example/g00601/impl.tierPaths"], apart := false, laid := [("loop.example/g00601/impl.tierPaths", laid_loop_example_g00601_impl_tierPaths), ("loop.example/g00601/impl.tierWidths", laid_loop_example_g00601_impl_tierWidths)], narrowed := true }
def FnExactCoverOfUptoSaid : Prop := fnExactCoverOfUptoRow.holds Tryd.pinned (OpenSpec.upto fnExactCoverOfSpec)

end Rows
end Go.Proofs.YthmpmagajbmpaaaDoor
