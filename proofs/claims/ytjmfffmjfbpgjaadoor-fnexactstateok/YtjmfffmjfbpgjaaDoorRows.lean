/-
  NARROWER THAN 'FOR EVERY INPUT', by the rows' own cells (each row's printed sentence says how): FnExactRecordOK: laid · FnExactRecordText: laid · FnExactStateOK: laid.
  DERIVED. THE GIVEN ROWS OF THIS SEAT. 3 by the template 'for every input the law returns true; each argument reads behind the call as it read before'; 0 by the template 'total and deterministic' (their statements: YtjmfffmjfbpgjaaDoorTotals.lean).
  GIVEN WITH THE SEED: the statements are not yours to turn. If you find one false, say at which input.
  Laid BY PROGRAM, IN A SANDBOX (cutbox-rows.mjs): the forced cells as the released guide's own fill.sh prints them over the translation 40e93026e69ba05f… (all of the seat's roots in one cut). By AI agents, Wed Nov 11 2026. No macro, syntax, notation, axiom, sorry.
-/
import Derived.Test.YtjmfffmjfbpgjaaDoorChecked
import GoSem.Claim
import GoSem.ClaimJoined
import GoSem.ClaimMapViews
import Derived.JoinedTies
import Derived.KernelRfl
namespace Go.Proofs.YtjmfffmjfbpgjaaDoor
/- THE CELL 'sum', in the pinned program and in every row, IS THE sha256 OF THE DUMP (.gsa) THAT YtjmfffmjfbpgjaaDoorProg.lean LOADS. Nothing in Lean hashes anything: it is a label: what it is worth is what the hold of that sum in a sandbox is worth. -/
noncomputable def Tryd.pinned : Pinned := { name := "ytjmfffmjfbpgjaadoor", sum := "40e93026e69ba05fc725c75e48ad6cdc1dc56c644100b91e053dc36d8add9f89", checked := Tryd.checked }
namespace Rows
def none {H : Type} : Left H := { results := [], args := [] }

/- WHAT THE LISTED PACKAGE-LEVEL VARIABLES READ AS WHEN THE CALL BEGINS. Each datum BY PROGRAM (the guide's laid-datum.mjs) off the statement by which the dump's own 'gosem.cut.vars' lays the variable. In a bare row this is a premise. The card (YtjmfffmjfbpgjaaDoorCards.lean) ties it to the program's text. -/
def laid_loop_example_g00601_impl_tierPaths {H : Type} : DataW H := .agg [.lit (.string [114, 97, 119, 47]), .lit (.string [116, 49, 47]), .lit (.string [116, 50, 47])]
def laid_loop_example_g00601_impl_tierWidths {H : Type} : DataW H := .agg [.lit (.int .i64 1), .lit (.int .i64 5), .lit (.int .i64 20)]
def laid_math_bits_deBruijn32tab {H : Type} : DataW H := .agg [.lit (.int .u8 0), .lit (.int .u8 1), .lit (.int .u8 28), .lit (.int .u8 2), .lit (.int .u8 29), .lit (.int .u8 14), .lit (.int .u8 24), .lit (.int .u8 3), .lit (.int .u8 30), .lit (.int .u8 22), .lit (.int .u8 20), .lit (.int .u8 15), .lit (.int .u8 25), .lit (.int .u8 17), .lit (.int .u8 4), .lit (.int .u8 8), .lit (.int .u8 31), .lit (.int .u8 27), .lit (.int .u8 13), .lit (.int .u8 23), .lit (.int .u8 21), .lit (.int .u8 19), .lit (.int .u8 16), .lit (.int .u8 7), .lit (.int .u8 26), .lit (.int .u8 12), .lit (.int .u8 18), .lit (.int .u8 6), .lit (.int .u8 11), .lit (.int .u8 5), .lit (.int .u8 10), .lit (.int .u8 9)]
def laid_math_bits_deBruijn64tab {H : Type} : DataW H := .agg [.lit (.int .u8 0), .lit (.int .u8 1), .lit (.int .u8 56), .lit (.int .u8 2), .lit (.int .u8 57), .lit (.int .u8 49), .lit (.int .u8 28), .lit (.int .u8 3), .lit (.int .u8 61), .lit (.int .u8 58), .lit (.int .u8 42), .lit (.int .u8 50), .lit (.int .u8 38), .lit (.int .u8 29), .lit (.int .u8 17), .lit (.int .u8 4), .lit (.int .u8 62), .lit (.int .u8 47), .lit (.int .u8 59), .lit (.int .u8 36), .lit (.int .u8 45), .lit (.int .u8 43), .lit (.int .u8 51), .lit (.int .u8 22), .lit (.int .u8 53), .lit (.int .u8 39), .lit (.int .u8 33), .lit (.int .u8 30), .lit (.int .u8 24), .lit (.int .u8 18), .lit (.int .u8 12), .lit (.int .u8 5), .lit (.int .u8 63), .lit (.int .u8 55), .lit (.int .u8 48), .lit (.int .u8 27), .lit (.int .u8 60), .lit (.int .u8 41), .lit (.int .u8 37), .lit (.int .u8 16), .lit (.int .u8 46), .lit (.int .u8 35), .lit (.int .u8 44), .lit (.int .u8 21), .lit (.int .u8 52), .lit (.int .u8 32), .lit (.int .u8 23), .lit (.int .u8 11), .lit (.int .u8 54), .lit (.int .u8 26), .lit (.int .u8 40), .lit (.int .u8 15), .lit (.int .u8 34), .lit (.int .u8 20), .lit (.int .u8 31), .lit (.int .u8 10), .lit (.int .u8 25), .lit (.int .u8 14), .lit (.int .u8 19), .lit (.int .u8 9), .lit (.int .u8 13), .lit (.int .u8 8), .lit (.int .u8 7), .lit (.int .u8 6)]
def laid_internal_strconv_uint64pow10 {H : Type} : DataW H := .agg [.lit (.int .u64 1), .lit (.int .u64 10), .lit (.int .u64 100), .lit (.int .u64 1000), .lit (.int .u64 10000), .lit (.int .u64 100000), .lit (.int .u64 1000000), .lit (.int .u64 10000000), .lit (.int .u64 100000000), .lit (.int .u64 1000000000), .lit (.int .u64 10000000000), .lit (.int .u64 100000000000), .lit (.int .u64 1000000000000), .lit (.int .u64 10000000000000), .lit (.int .u64 100000000000000), .lit (.int .u64 1000000000000000), .lit (.int .u64 10000000000000000), .lit (.int .u64 100000000000000000), .lit (.int .u64 1000000000000000000), .lit (.int .u64 10000000000000000000)]

/-- 'laws.FnExactRecordOK': WHATEVER THE INPUT: true; the input reads as it did. -/
def fnExactRecordOKSpec : ChangeSpec := { name := "fnExactRecordOK", vars := ["loop.example/g00601/impl.tierPaths", "loop.example/g00601/impl.tierWidths"], fn := fun _ => fun
  | [d, g1, g2] => { results := [.lit (.bool true)], args := [d], vars := [g1, g2] }
  | _ => none }
def fnExactRecordOKRow : OpenClaim := { program := "ytjmfffmjfbpgjaadoor", sum := "40e93026e69ba05fc725c75e48ad6cdc1dc56c644100b91e053dc36d8add9f89", func := "loop.example/g00601/laws.FnExactRecordOK", spec := "fnExactRecordOK", unfollowed := true, recurses := true, named := ["loop.example/g00601/impl.tierPaths", "loop.example/g00601/impl.tierWidths"], apart := false, laid := [("loop.example/g00601/impl.tierPaths", laid_loop_example_g00601_impl_tierPaths), ("loop.example/g00601/impl.tierWidths", laid_loop_example_g00601_impl_tierWidths)] }
def FnExactRecordOKSaid : Prop := fnExactRecordOKRow.holds Tryd.pinned (OpenSpec.ofChange fnExactRecordOKSpec)

/-- ITS FALSE NEIGHBOUR: 'it returns false'. Refute it at one input. -/
def fnExactRecordOKWrong : ChangeSpec := { name := "fnExactRecordOK", vars := ["loop.example/g00601/impl.tierPaths", "loop.example/g00601/impl.tierWidths"], fn := fun _ => fun
  | [d, g1, g2] => { results := [.lit (.bool false)], args := [d], vars := [g1, g2] }
  | _ => none }
def FnExactRecordOKWrongFalsely : Prop := fnExactRecordOKRow.holds Tryd.pinned (OpenSpec.ofChange fnExactRecordOKWrong)

/-- 'laws.FnExactRecordText': WHATEVER THE INPUT: true; the input reads as it did. -/
def fnExactRecordTextSpec : ChangeSpec := { name := "fnExactRecordText", vars := ["loop.example/g00601/impl.tierPaths", "loop.example/g00601/impl.tierWidths"], fn := fun _ => fun
  | [d, g1, g2] => { results := [.lit (.bool true)], args := [d], vars := [g1, g2] }
  | _ => none }
def fnExactRecordTextRow : OpenClaim := { program := "ytjmfffmjfbpgjaadoor", sum := "40e93026e69ba05fc725c75e48ad6cdc1dc56c644100b91e053dc36d8add9f89", func := "loop.example/g00601/laws.FnExactRecordText", spec := "fnExactRecordText", inPlace := ["internal/abi.NoEscape", "internal/bytealg.MakeNoZero"], unfollowed := true, recurses := true, named := ["loop.example/g00601/impl.tierPaths", "loop.example/g00601/impl.tierWidths", "internal/strconv.uint64pow10", "math/bits.deBruijn32tab", "math/bits.deBruijn64tab"], apart := false, laid := [("math/bits.deBruijn32tab", laid_math_bits_deBruijn32tab), ("math/bits.deBruijn64tab", laid_math_bits_deBruijn64tab), ("internal/strconv.uint64pow10", laid_internal_strconv_uint64pow10), ("loop.example/g00601/impl.tierPaths", laid_loop_example_g00601_impl_tierPaths), ("loop.example/g00601/impl.tierWidths", laid_loop_example_g00601_impl_tierWidths)] }
def FnExactRecordTextSaid : Prop := fnExactRecordTextRow.holds Tryd.pinned (OpenSpec.ofChange fnExactRecordTextSpec)

/-- ITS FALSE NEIGHBOUR: 'it returns false'. Refute it at one input. -/
def fnExactRecordTextWrong : ChangeSpec := { name := "fnExactRecordText", vars := ["loop.example/g00601/impl.tierPaths", "loop.example/g00601/impl.tierWidths"], fn := fun _ => fun
  | [d, g1, g2] => { results := [.lit (.bool false)], args := [d], vars := [g1, g2] }
  | _ => none }
def FnExactRecordTextWrongFalsely : Prop := fnExactRecordTextRow.holds Tryd.pinned (OpenSpec.ofChange fnExactRecordTextWrong)

/-- 'laws.FnExactStateOK': WHATEVER THE INPUT: true; the input reads as it did. -/
def fnExactStateOKSpec : ChangeSpec := { name := "fnExactStateOK", vars := ["loop.example/g00601/impl.tierPaths"], fn := fun _ => fun
  | [d, g1] => { results := [.lit (.bool true)], args := [d], vars := [g1] }
  | _ => none }
def fnExactStateOKRow : OpenClaim := { program := "ytjmfffmjfbpgjaadoor", sum := "40e93026e69ba05fc725c75e48ad6cdc1dc56c644100b91e053dc36d8add9f89", func := "loop.example/g00601/laws.FnExactStateOK", spec := "fnExactStateOK", recurses := true, named := ["loop.example/g00601/impl.tierPaths"], apart := false, laid := [("loop.example/g00601/impl.tierPaths", laid_loop_example_g00601_impl_tierPaths)] }
def FnExactStateOKSaid : Prop := fnExactStateOKRow.holds Tryd.pinned (OpenSpec.ofChange fnExactStateOKSpec)

/-- ITS FALSE NEIGHBOUR: 'it returns false'. Refute it at one input. -/
def fnExactStateOKWrong : ChangeSpec := { name := "fnExactStateOK", vars := ["loop.example/g00601/impl.tierPaths"], fn := fun _ => fun
  | [d, g1] => { results := [.lit (.bool false)], args := [d], vars := [g1] }
  | _ => none }
def FnExactStateOKWrongFalsely : Prop := fnExactStateOKRow.holds Tryd.pinned (OpenSpec.ofChange fnExactStateOKWrong)

/- THE SECOND FORM. 'bulk': how many values and letters a reading holds, each counted each time it is reached (what is shared counts as often as it is met; a slice's spare places count too). A statement '..UptoSaid' is the law's where the arguments, and the package variables that the reading takes, are together of bulk at most 1048576: NARROWER than '..Said'. Prove '..Said' where nothing that the law and all that it calls make is longer than what came in: it says more and counts as full. Else prove '..UptoSaid'. A law counts once. -/
mutual
def uptoBulk {H : Type} : DataW H → Nat
  | .lit (.string bytes) => bytes.length + 1
  | .lit _ => 1
  | .nil => 1
  | .ptr d => uptoBulk d + 1
  | .slice elems spare => uptoBulkAll elems + uptoBulkAll spare + 1
  | .agg parts => uptoBulkAll parts + 1
  | .iface _ d => uptoBulk d + 1
  | .map entries => uptoBulkEntries entries + 1
  | .held _ => 1
def uptoBulkAll {H : Type} : List (DataW H) → Nat
  | [] => 0
  | d :: r => uptoBulk d + uptoBulkAll r
def uptoBulkEntries {H : Type} : List (Lit × DataW H) → Nat
  | [] => 0
  | x :: r => uptoBulkEntry x + uptoBulkEntries r
def uptoBulkEntry {H : Type} : Lit × DataW H → Nat
  | (.string bytes, d) => bytes.length + uptoBulk d + 1
  | (_, d) => uptoBulk d + 1
 end
def uptoSmall : (H : Type) → List (DataW H) → Bool := fun _ ds => decide (uptoBulkAll ds ≤ 1048576)
def OpenSpec.upto (s : _root_.Go.ChangeSpec) : _root_.Go.OpenSpec := { _root_.Go.OpenSpec.ofChange s with cond := some uptoSmall }

/-- 'laws.FnExactRecordOK', WHERE WHAT IT READS IS OF BULK AT MOST 1048576: true; the input reads as it did. -/
def fnExactRecordOKUptoRow : OpenClaim := { program := "ytjmfffmjfbpgjaadoor", sum := "40e93026e69ba05fc725c75e48ad6cdc1dc56c644100b91e053dc36d8add9f89", func := "loop.example/g00601/laws.FnExactRecordOK", spec := "fnExactRecordOK", unfollowed := true, recurses := true, named := ["loop.example/g00601/impl.tierPaths", "loop.example/g00601/impl.tierWidths"], apart := false, laid := [("loop.example/g00601/impl.tierPaths", laid_loop_example_g00601_impl_tierPaths), ("loop.example/g00601/impl.tierWidths", laid_loop_example_g00601_impl_tierWidths)], narrowed := true }
def FnExactRecordOKUptoSaid : Prop := fnExactRecordOKUptoRow.holds Tryd.pinned (OpenSpec.upto fnExactRecordOKSpec)

/-- 'laws.FnExactRecordText', WHERE WHAT IT READS IS OF BULK AT MOST 1048576: true; the input reads as it did. -/
def fnExactRecordTextUptoRow : OpenClaim := { program := "ytjmfffmjfbpgjaadoor", sum := "40e93026e69ba05fc725c75e48ad6cdc1dc56c644100b91e053dc36d8add9f89", func := "loop.example/g00601/laws.FnExactRecordText", spec := "fnExactRecordText", inPlace := ["internal/abi.NoEscape", "internal/bytealg.MakeNoZero"], unfollowed := true, recurses := true, named := ["loop.example/g00601/impl.tierPaths", "loop.example/g00601/impl.tierWidths", "internal/strconv.uint64pow10", "math/bits.deBruijn32tab", "math/bits.deBruijn64tab"], apart := false, laid := [("math/bits.deBruijn32tab", laid_math_bits_deBruijn32tab), ("math/bits.deBruijn64tab", laid_math_bits_deBruijn64tab), ("internal/strconv.uint64pow10", laid_internal_strconv_uint64pow10), ("loop.example/g00601/impl.tierPaths", laid_loop_example_g00601_impl_tierPaths), ("loop.example/g00601/impl.tierWidths", laid_loop_example_g00601_impl_tierWidths)], narrowed := true }
def FnExactRecordTextUptoSaid : Prop := fnExactRecordTextUptoRow.holds Tryd.pinned (OpenSpec.upto fnExactRecordTextSpec)

/-- 'laws.FnExactStateOK', WHERE WHAT IT READS IS OF BULK AT MOST 1048576: true; the input reads as it did. -/
def fnExactStateOKUptoRow : OpenClaim := { program := "ytjmfffmjfbpgjaadoor", sum := "40e93026e69ba05fc725c75e48ad6cdc1dc56c644100b91e053dc36d8add9f89", func := "loop.example/g00601/laws.FnExactStateOK", spec := "fnExactStateOK", recurses := true, named := ["loop.example/g00601/impl.tierPaths"], apart := false, laid := [("loop.example/g00601/impl.tierPaths", laid_loop_example_g00601_impl_tierPaths)], narrowed := true }
def FnExactStateOKUptoSaid : Prop := fnExactStateOKUptoRow.holds Tryd.pinned (OpenSpec.upto fnExactStateOKSpec)

end Rows
end Go.Proofs.YtjmfffmjfbpgjaaDoor
