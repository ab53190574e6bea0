/-
  NARROWER THAN 'FOR EVERY INPUT', by the rows' own cells (each row's printed sentence says how): FnAlign: laid · FnExactDataKey: laid · FnExactWidthOf: laid · FnExactKeepOf: laid · FnExactAlignDown: laid.
  DERIVED. THE GIVEN ROWS OF THIS SEAT. 5 by the template 'for every input the law returns true; each argument reads behind the call as it read before'; 0 by the template 'total and deterministic' (their statements: YtnglfambcophpaaDoorTotals.lean).
  GIVEN WITH THE SEED: the statements are not yours to turn. If you find one false, say at which input.
  Laid BY PROGRAM, IN A SANDBOX (cutbox-rows.mjs): the forced cells as the released guide's own fill.sh prints them over the translation 9714c0518d47c78f… (all of the seat's roots in one cut). By AI agents, Wed Nov 11 2026. No macro, syntax, notation, axiom, sorry.
-/
import Derived.Test.YtnglfambcophpaaDoorChecked
import GoSem.Claim
import GoSem.ClaimJoined
import GoSem.ClaimMapViews
import Derived.JoinedTies
import Derived.KernelRfl
namespace Go.Proofs.YtnglfambcophpaaDoor
/- THE CELL 'sum', in the pinned program and in every row, IS THE sha256 OF THE DUMP (.gsa) THAT YtnglfambcophpaaDoorProg.lean LOADS. Nothing in Lean hashes anything: it is a label: what it is worth is what the hold of that sum in a sandbox is worth. -/
noncomputable def Tryd.pinned : Pinned := { name := "ytnglfambcophpaadoor", sum := "9714c0518d47c78f93c5a8b3a3618efb1a686666c0676a7a509a43fc317b0718", checked := Tryd.checked }
namespace Rows
def none {H : Type} : Left H := { results := [], args := [] }

/- WHAT THE LISTED PACKAGE-LEVEL VARIABLES READ AS WHEN THE CALL BEGINS. Each datum BY PROGRAM (the guide's laid-datum.mjs) off the statement by which the dump's own 'gosem.cut.vars' lays the variable. In a bare row this is a premise. The card (YtnglfambcophpaaDoorCards.lean) ties it to the program's text. -/
def laid_loop_example_g00601_impl_tierWidths {H : Type} : DataW H := .agg [.lit (.int .i64 1), .lit (.int .i64 5), .lit (.int .i64 20)]
def laid_loop_example_g00601_impl_tierKeeps {H : Type} : DataW H := .agg [.lit (.int .i64 40), .lit (.int .i64 100), .lit (.int .i64 400)]
def laid_math_bits_deBruijn32tab {H : Type} : DataW H := .agg [.lit (.int .u8 0), .lit (.int .u8 1), .lit (.int .u8 28), .lit (.int .u8 2), .lit (.int .u8 29), .lit (.int .u8 14), .lit (.int .u8 24), .lit (.int .u8 3), .lit (.int .u8 30), .lit (.int .u8 22), .lit (.int .u8 20), .lit (.int .u8 15), .lit (.int .u8 25), .lit (.int .u8 17), .lit (.int .u8 4), .lit (.int .u8 8), .lit (.int .u8 31), .lit (.int .u8 27), .lit (.int .u8 13), .lit (.int .u8 23), .lit (.int .u8 21), .lit (.int .u8 19), .lit (.int .u8 16), .lit (.int .u8 7), .lit (.int .u8 26), .lit (.int .u8 12), .lit (.int .u8 18), .lit (.int .u8 6), .lit (.int .u8 11), .lit (.int .u8 5), .lit (.int .u8 10), .lit (.int .u8 9)]
def laid_math_bits_deBruijn64tab {H : Type} : DataW H := .agg [.lit (.int .u8 0), .lit (.int .u8 1), .lit (.int .u8 56), .lit (.int .u8 2), .lit (.int .u8 57), .lit (.int .u8 49), .lit (.int .u8 28), .lit (.int .u8 3), .lit (.int .u8 61), .lit (.int .u8 58), .lit (.int .u8 42), .lit (.int .u8 50), .lit (.int .u8 38), .lit (.int .u8 29), .lit (.int .u8 17), .lit (.int .u8 4), .lit (.int .u8 62), .lit (.int .u8 47), .lit (.int .u8 59), .lit (.int .u8 36), .lit (.int .u8 45), .lit (.int .u8 43), .lit (.int .u8 51), .lit (.int .u8 22), .lit (.int .u8 53), .lit (.int .u8 39), .lit (.int .u8 33), .lit (.int .u8 30), .lit (.int .u8 24), .lit (.int .u8 18), .lit (.int .u8 12), .lit (.int .u8 5), .lit (.int .u8 63), .lit (.int .u8 55), .lit (.int .u8 48), .lit (.int .u8 27), .lit (.int .u8 60), .lit (.int .u8 41), .lit (.int .u8 37), .lit (.int .u8 16), .lit (.int .u8 46), .lit (.int .u8 35), .lit (.int .u8 44), .lit (.int .u8 21), .lit (.int .u8 52), .lit (.int .u8 32), .lit (.int .u8 23), .lit (.int .u8 11), .lit (.int .u8 54), .lit (.int .u8 26), .lit (.int .u8 40), .lit (.int .u8 15), .lit (.int .u8 34), .lit (.int .u8 20), .lit (.int .u8 31), .lit (.int .u8 10), .lit (.int .u8 25), .lit (.int .u8 14), .lit (.int .u8 19), .lit (.int .u8 9), .lit (.int .u8 13), .lit (.int .u8 8), .lit (.int .u8 7), .lit (.int .u8 6)]
def laid_internal_strconv_uint64pow10 {H : Type} : DataW H := .agg [.lit (.int .u64 1), .lit (.int .u64 10), .lit (.int .u64 100), .lit (.int .u64 1000), .lit (.int .u64 10000), .lit (.int .u64 100000), .lit (.int .u64 1000000), .lit (.int .u64 10000000), .lit (.int .u64 100000000), .lit (.int .u64 1000000000), .lit (.int .u64 10000000000), .lit (.int .u64 100000000000), .lit (.int .u64 1000000000000), .lit (.int .u64 10000000000000), .lit (.int .u64 100000000000000), .lit (.int .u64 1000000000000000), .lit (.int .u64 10000000000000000), .lit (.int .u64 100000000000000000), .lit (.int .u64 1000000000000000000), .lit (.int .u64 10000000000000000000)]
def laid_loop_example_g00601_impl_tierPaths {H : Type} : DataW H := .agg [.lit (.string [114, 97, 119, 47]), .lit (.string [116, 49, 47]), .lit (.string [116, 50, 47])]

/-- 'laws.FnAlign': WHATEVER THE INPUT: true; the input reads as it did. -/
def fnAlignSpec : ChangeSpec := { name := "fnAlign", vars := ["loop.example/g00601/impl.tierWidths", "loop.example/g00601/impl.tierKeeps"], fn := fun _ => fun
  | [d, g1, g2] => { results := [.lit (.bool true)], args := [d], vars := [g1, g2] }
  | _ => none }
def fnAlignRow : OpenClaim := { program := "ytnglfambcophpaadoor", sum := "9714c0518d47c78f93c5a8b3a3618efb1a686666c0676a7a509a43fc317b0718", func := "loop.example/g00601/laws.FnAlign", spec := "fnAlign", named := ["loop.example/g00601/impl.tierWidths", "loop.example/g00601/impl.tierKeeps"], apart := false, laid := [("loop.example/g00601/impl.tierWidths", laid_loop_example_g00601_impl_tierWidths), ("loop.example/g00601/impl.tierKeeps", laid_loop_example_g00601_impl_tierKeeps)] }
def FnAlignSaid : Prop := fnAlignRow.holds Tryd.pinned (OpenSpec.ofChange fnAlignSpec)

/-- ITS FALSE NEIGHBOUR: 'it returns false'. Refute it at one input. -/
def fnAlignWrong : ChangeSpec := { name := "fnAlign", vars := ["loop.example/g00601/impl.tierWidths", "loop.example/g00601/impl.tierKeeps"], fn := fun _ => fun
  | [d, g1, g2] => { results := [.lit (.bool false)], args := [d], vars := [g1, g2] }
  | _ => none }
def FnAlignWrongFalsely : Prop := fnAlignRow.holds Tryd.pinned (OpenSpec.ofChange fnAlignWrong)

/-- 'laws.FnExactDataKey': WHATEVER THE INPUT: true; the input reads as it did. -/
def fnExactDataKeySpec : ChangeSpec := { name := "fnExactDataKey", vars := ["loop.example/g00601/impl.tierPaths"], fn := fun _ => fun
  | [d1, d2, d3, g1] => { results := [.lit (.bool true)], args := [d1, d2, d3], vars := [g1] }
  | _ => none }
def fnExactDataKeyRow : OpenClaim := { program := "ytnglfambcophpaadoor", sum := "9714c0518d47c78f93c5a8b3a3618efb1a686666c0676a7a509a43fc317b0718", func := "loop.example/g00601/laws.FnExactDataKey", spec := "fnExactDataKey", recurses := true, named := ["loop.example/g00601/impl.tierPaths", "internal/strconv.uint64pow10", "math/bits.deBruijn32tab", "math/bits.deBruijn64tab"], apart := false, laid := [("math/bits.deBruijn32tab", laid_math_bits_deBruijn32tab), ("math/bits.deBruijn64tab", laid_math_bits_deBruijn64tab), ("internal/strconv.uint64pow10", laid_internal_strconv_uint64pow10), ("loop.example/g00601/impl.tierPaths", laid_loop_example_g00601_impl_tierPaths)] }
def FnExactDataKeySaid : Prop := fnExactDataKeyRow.holds Tryd.pinned (OpenSpec.ofChange fnExactDataKeySpec)

/-- ITS FALSE NEIGHBOUR: 'it returns false'. Refute it at one input. -/
def fnExactDataKeyWrong : ChangeSpec := { name := "fnExactDataKey", vars := ["loop.example/g00601/impl.tierPaths"], fn := fun _ => fun
  | [d1, d2, d3, g1] => { results := [.lit (.bool false)], args := [d1, d2, d3], vars := [g1] }
  | _ => none }
def FnExactDataKeyWrongFalsely : Prop := fnExactDataKeyRow.holds Tryd.pinned (OpenSpec.ofChange fnExactDataKeyWrong)

/-- 'laws.FnExactWidthOf': WHATEVER THE INPUT: true; the input reads as it did. -/
def fnExactWidthOfSpec : ChangeSpec := { name := "fnExactWidthOf", vars := ["loop.example/g00601/impl.tierWidths"], fn := fun _ => fun
  | [d, g1] => { results := [.lit (.bool true)], args := [d], vars := [g1] }
  | _ => none }
def fnExactWidthOfRow : OpenClaim := { program := "ytnglfambcophpaadoor", sum := "9714c0518d47c78f93c5a8b3a3618efb1a686666c0676a7a509a43fc317b0718", func := "loop.example/g00601/laws.FnExactWidthOf", spec := "fnExactWidthOf", named := ["loop.example/g00601/impl.tierWidths"], apart := false, laid := [("loop.example/g00601/impl.tierWidths", laid_loop_example_g00601_impl_tierWidths)] }
def FnExactWidthOfSaid : Prop := fnExactWidthOfRow.holds Tryd.pinned (OpenSpec.ofChange fnExactWidthOfSpec)

/-- ITS FALSE NEIGHBOUR: 'it returns false'. Refute it at one input. -/
def fnExactWidthOfWrong : ChangeSpec := { name := "fnExactWidthOf", vars := ["loop.example/g00601/impl.tierWidths"], fn := fun _ => fun
  | [d, g1] => { results := [.lit (.bool false)], args := [d], vars := [g1] }
  | _ => none }
def FnExactWidthOfWrongFalsely : Prop := fnExactWidthOfRow.holds Tryd.pinned (OpenSpec.ofChange fnExactWidthOfWrong)

/-- 'laws.FnExactKeepOf': WHATEVER THE INPUT: true; the input reads as it did. -/
def fnExactKeepOfSpec : ChangeSpec := { name := "fnExactKeepOf", vars := ["loop.example/g00601/impl.tierKeeps"], fn := fun _ => fun
  | [d, g1] => { results := [.lit (.bool true)], args := [d], vars := [g1] }
  | _ => none }
def fnExactKeepOfRow : OpenClaim := { program := "ytnglfambcophpaadoor", sum := "9714c0518d47c78f93c5a8b3a3618efb1a686666c0676a7a509a43fc317b0718", func := "loop.example/g00601/laws.FnExactKeepOf", spec := "fnExactKeepOf", named := ["loop.example/g00601/impl.tierKeeps"], apart := false, laid := [("loop.example/g00601/impl.tierKeeps", laid_loop_example_g00601_impl_tierKeeps)] }
def FnExactKeepOfSaid : Prop := fnExactKeepOfRow.holds Tryd.pinned (OpenSpec.ofChange fnExactKeepOfSpec)

/-- ITS FALSE NEIGHBOUR: 'it returns false'. Refute it at one input. -/
def fnExactKeepOfWrong : ChangeSpec := { name := "fnExactKeepOf", vars := ["loop.example/g00601/impl.tierKeeps"], fn := fun _ => fun
  | [d, g1] => { results := [.lit (.bool false)], args := [d], vars := [g1] }
  | _ => none }
def FnExactKeepOfWrongFalsely : Prop := fnExactKeepOfRow.holds Tryd.pinned (OpenSpec.ofChange fnExactKeepOfWrong)

/-- 'laws.FnExactAlignDown': WHATEVER THE INPUT: true; the input reads as it did. -/
def fnExactAlignDownSpec : ChangeSpec := { name := "fnExactAlignDown", vars := ["loop.example/g00601/impl.tierWidths"], fn := fun _ => fun
  | [d1, d2, g1] => { results := [.lit (.bool true)], args := [d1, d2], vars := [g1] }
  | _ => none }
def fnExactAlignDownRow : OpenClaim := { program := "ytnglfambcophpaadoor", sum := "9714c0518d47c78f93c5a8b3a3618efb1a686666c0676a7a509a43fc317b0718", func := "loop.example/g00601/laws.FnExactAlignDown", spec := "fnExactAlignDown", named := ["loop.example/g00601/impl.tierWidths"], apart := false, laid := [("loop.example/g00601/impl.tierWidths", laid_loop_example_g00601_impl_tierWidths)] }
def FnExactAlignDownSaid : Prop := fnExactAlignDownRow.holds Tryd.pinned (OpenSpec.ofChange fnExactAlignDownSpec)

/-- ITS FALSE NEIGHBOUR: 'it returns false'. Refute it at one input. -/
def fnExactAlignDownWrong : ChangeSpec := { name := "fnExactAlignDown", vars := ["loop.example/g00601/impl.tierWidths"], fn := fun _ => fun
  | [d1, d2, g1] => { results := [.lit (.bool false)], args := [d1, d2], vars := [g1] }
  | _ => none }
def FnExactAlignDownWrongFalsely : Prop := fnExactAlignDownRow.holds Tryd.pinned (OpenSpec.ofChange fnExactAlignDownWrong)

/- THE SECOND FORM. 'bulk': how many values and letters a reading holds, each counted each time it is reached (what is shared counts as often as it is met; a slice's spare places count too). A statement '..UptoSaid' is the law's where the arguments, and the package variables that the reading takes, are together of bulk at most 1048576: NARROWER than '..Said'. Prove '..Said' where nothing that the law and all that it calls make is longer than what came in: it says more and counts as full. Else prove '..UptoSaid'. A law counts once. -/
mutual
def uptoBulk {H : Type} : DataW H → Nat
  | .lit (.string bytes) => bytes.length + 1
  | .lit _ => 1
  | .nil => 1
  | .ptr d => uptoBulk d + 1
  | .slice elems spare => uptoBulkAll elems + uptoBulkAll spare + 1
  | .agg parts => uptoBulkAll parts + 1
  | .iface _ d => uptoBulk d + 1
  | .map entries => uptoBulkEntries entries + 1
  | .held _ => 1
def uptoBulkAll {H : Type} : List (DataW H) → Nat
  | [] => 0
  | d :: r => uptoBulk d + uptoBulkAll r
def uptoBulkEntries {H : Type} : List (Lit × DataW H) → Nat
  | [] => 0
  | x :: r => uptoBulkEntry x + uptoBulkEntries r
def uptoBulkEntry {H : Type} : Lit × DataW H → Nat
  | (.string bytes, d) => bytes.length + uptoBulk d + 1
  | (_, d) => uptoBulk d + 1
 end
def uptoSmall : (H : Type) → List (DataW H) → Bool := fun _ ds => decide (uptoBulkAll ds ≤ 1048576)
def OpenSpec.upto (s : _root_.Go.ChangeSpec) : _root_.Go.OpenSpec := { _root_.Go.OpenSpec.ofChange s with cond := some uptoSmall }

/-- 'laws.FnAlign', WHERE WHAT IT READS IS OF BULK AT MOST 1048576: true; the input reads as it did. -/
def fnAlignUptoRow : OpenClaim := { program := "ytnglfambcophpaadoor", sum := "9714c0518d47c78f93c5a8b3a3618efb1a686666c0676a7a509a43fc317b0718", func := "loop.example/g00601/laws.FnAlign", spec := "fnAlign", named := ["loop.example/g00601/impl.tierWidths", "loop.example/g00601/impl.tierKeeps"], apart := false, laid := [("loop.example/g00601/impl.tierWidths", laid_loop_example_g00601_impl_tierWidths), ("loop.example/g00601/impl.tierKeeps", laid_loop_example_g00601_impl_tierKeeps)], narrowed := true }
def FnAlignUptoSaid : Prop := fnAlignUptoRow.holds Tryd.pinned (OpenSpec.upto fnAlignSpec)

/-- 'laws.FnExactDataKey', WHERE WHAT IT READS IS OF BULK AT MOST 1048576: true; the input reads as it did. -/
def fnExactDataKeyUptoRow : OpenClaim := { program := "ytnglfambcophpaadoor", sum := "9714c0518d47c78f93c5a8b3a3618efb1a686666c0676a7a509a43fc317b0718", func := "loop.example/g00601/laws.FnExactDataKey", spec := "fnExactDataKey", recurses := true, named := ["loop.example/g00601/impl.tierPaths", "internal/strconv.uint64pow10", "math/bits.deBruijn32tab", "math/bits.deBruijn64tab"], apart := false, laid := [("math/bits.deBruijn32tab", laid_math_bits_deBruijn32tab), ("math/bits.deBruijn64tab", laid_math_bits_deBruijn64tab), ("internal/strconv.uint64pow10", laid_internal_strconv_uint64pow10), ("loop.example/g00601/impl.tierPaths", laid_loop_example_g00601_impl_tierPaths)], narrowed := true }
def FnExactDataKeyUptoSaid : Prop := fnExactDataKeyUptoRow.holds Tryd.pinned (OpenSpec.upto fnExactDataKeySpec)

/-- 'laws.FnExactWidthOf', WHERE WHAT IT READS IS OF BULK AT MOST 1048576: true; the input reads as it did. -/
def fnExactWidthOfUptoRow : OpenClaim := { program := "ytnglfambcophpaadoor", sum := "9714c0518d47c78f93c5a8b3a3618efb1a686666c0676a7a509a43fc317b0718", func := "loop.example/g00601/laws.FnExactWidthOf", spec := "fnExactWidthOf", named := ["loop.example/g00601/impl.tierWidths"], apart := false, laid := [("loop.example/g00601/impl.tierWidths", laid_loop_example_g00601_impl_tierWidths)], narrowed := true }
def FnExactWidthOfUptoSaid : Prop := fnExactWidthOfUptoRow.holds Tryd.pinned (OpenSpec.upto fnExactWidthOfSpec)

/-- 'laws.FnExactKeepOf', WHERE WHAT IT READS IS OF BULK AT MOST 1048576: true; the input reads as it did. -/
def fnExactKeepOfUptoRow : OpenClaim := { program := "ytnglfambcophpaadoor", sum := "9714c0518d47c78f93c5a8b3a3618efb1a686666c0676a7a509a43fc317b0718", func := "loop.example/g00601/laws.FnExactKeepOf", spec := "fnExactKeepOf", named := ["loop.example/g00601/impl.tierKeeps"], apart := false, laid := [("loop.example/g00601/impl.tierKeeps", laid_loop_example_g00601_impl_tierKeeps)], narrowed := true }
def FnExactKeepOfUptoSaid : Prop := fnExactKeepOfUptoRow.holds Tryd.pinned (OpenSpec.upto fnExactKeepOfSpec)

/-- 'laws.FnExactAlignDown', WHERE WHAT IT READS IS OF BULK AT MOST 1048576: true; the input reads as it did. -/
def fnExactAlignDownUptoRow : OpenClaim := { program := "ytnglfambcophpaadoor", sum := "9714c0518d47c78f93c5a8b3a3618efb1a686666c0676a7a509a43fc317b0718", func := "loop.example/g00601/laws.FnExactAlignDown", spec := "fnExactAlignDown", named := ["loop.example/g00601/impl.tierWidths"], apart := false, laid := [("loop.example/g00601/impl.tierWidths", laid_loop_example_g00601_impl_tierWidths)], narrowed := true }
def FnExactAlignDownUptoSaid : Prop := fnExactAlignDownUptoRow.holds Tryd.pinned (OpenSpec.upto fnExactAlignDownSpec)

end Rows
end Go.Proofs.YtnglfambcophpaaDoor
