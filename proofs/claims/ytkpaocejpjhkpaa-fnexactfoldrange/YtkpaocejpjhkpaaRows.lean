/-
  No cell of these rows narrows 'for every input' (looked for: loops, veiled, ifaces, maps, wideKeys, modest, calm, conditions, laid).
  DERIVED. THE GIVEN ROWS OF THIS SEAT. 4 by the template 'for every input the law returns true; each argument reads behind the call as it read before'; 0 by the template 'total and deterministic' (their statements: YtkpaocejpjhkpaaTotals.lean).
  GIVEN WITH THE SEED: the statements are not yours to turn. If you find one false, say at which input.
  Laid BY PROGRAM, IN A SANDBOX (cutbox-rows.mjs): the forced cells as the released guide's own fill.sh prints them over the translation a85a45d87201d80d… (all of the seat's roots in one cut). By AI agents, Wed Nov 11 2026. No macro, syntax, notation, axiom, sorry.
-/
import Derived.Test.YtkpaocejpjhkpaaChecked
import GoSem.Claim
import GoSem.ClaimJoined
import GoSem.ClaimMapViews
import Derived.JoinedTies
import Derived.KernelRfl
namespace Go.Proofs.Ytkpaocejpjhkpaa
/- THE CELL 'sum', in the pinned program and in every row, IS THE sha256 OF THE DUMP (.gsa) THAT YtkpaocejpjhkpaaProg.lean LOADS. Nothing in Lean hashes anything: it is a label: what it is worth is what the hold of that sum in a sandbox is worth. -/
noncomputable def Try.pinned : Pinned := { name := "ytkpaocejpjhkpaa", sum := "a85a45d87201d80d02d5a958bc17ea707dda9e80b74475e46f1daa510deb7932", checked := Try.checked }
namespace Rows
def none {H : Type} : Left H := { results := [], args := [] }

/-- 'laws.FnExactLeaseOK': WHATEVER THE INPUT: true; the input reads as it did. -/
def fnExactLeaseOKSpec : ChangeSpec := { name := "fnExactLeaseOK", fn := fun _ => fun
  | [d] => { results := [.lit (.bool true)], args := [d] }
  | _ => none }
def fnExactLeaseOKRow : OpenClaim := { program := "ytkpaocejpjhkpaa", sum := "a85a45d87201d80d02d5a958bc17ea707dda9e80b74475e46f1daa510deb7932", func := "loop.example/g00601/laws.FnExactLeaseOK", spec := "fnExactLeaseOK", apart := false }
def FnExactLeaseOKSaid : Prop := fnExactLeaseOKRow.holds Try.pinned (OpenSpec.ofChange fnExactLeaseOKSpec)

/-- ITS FALSE NEIGHBOUR: 'it returns false'. Refute it at one input. -/
def fnExactLeaseOKWrong : ChangeSpec := { name := "fnExactLeaseOK", fn := fun _ => fun
  | [d] => { results := [.lit (.bool false)], args := [d] }
  | _ => none }
def FnExactLeaseOKWrongFalsely : Prop := fnExactLeaseOKRow.holds Try.pinned (OpenSpec.ofChange fnExactLeaseOKWrong)

/-- 'laws.FnExactDownsample': WHATEVER THE INPUT: true; the input reads as it did. -/
def fnExactDownsampleSpec : ChangeSpec := { name := "fnExactDownsample", fn := fun _ => fun
  | [d1, d2, d3] => { results := [.lit (.bool true)], args := [d1, d2, d3] }
  | _ => none }
def fnExactDownsampleRow : OpenClaim := { program := "ytkpaocejpjhkpaa", sum := "a85a45d87201d80d02d5a958bc17ea707dda9e80b74475e46f1daa510deb7932", func := "loop.example/g00601/laws.FnExactDownsample", spec := "fnExactDownsample", unfollowed := true, recurses := true, apart := false }
def FnExactDownsampleSaid : Prop := fnExactDownsampleRow.holds Try.pinned (OpenSpec.ofChange fnExactDownsampleSpec)

/-- ITS FALSE NEIGHBOUR: 'it returns false'. Refute it at one input. -/
def fnExactDownsampleWrong : ChangeSpec := { name := "fnExactDownsample", fn := fun _ => fun
  | [d1, d2, d3] => { results := [.lit (.bool false)], args := [d1, d2, d3] }
  | _ => none }
def FnExactDownsampleWrongFalsely : Prop := fnExactDownsampleRow.holds Try.pinned (OpenSpec.ofChange fnExactDownsampleWrong)

/-- 'laws.FnExactRollUp': WHATEVER THE INPUT: true; the input reads as it did. -/
def fnExactRollUpSpec : ChangeSpec := { name := "fnExactRollUp", fn := fun _ => fun
  | [d1, d2, d3] => { results := [.lit (.bool true)], args := [d1, d2, d3] }
  | _ => none }
def fnExactRollUpRow : OpenClaim := { program := "ytkpaocejpjhkpaa", sum := "a85a45d87201d80d02d5a958bc17ea707dda9e80b74475e46f1daa510deb7932", func := "loop.example/g00601/laws.FnExactRollUp", spec := "fnExactRollUp", unfollowed := true, recurses := true, apart := false }
def FnExactRollUpSaid : Prop := fnExactRollUpRow.holds Try.pinned (OpenSpec.ofChange fnExactRollUpSpec)

/-- ITS FALSE NEIGHBOUR: 'it returns false'. Refute it at one input. -/
def fnExactRollUpWrong : ChangeSpec := { name := "fnExactRollUp", fn := fun _ => fun
  | [d1, d2, d3] => { results := [.lit (.bool false)], args := [d1, d2, d3] }
  | _ => none }
def FnExactRollUpWrongFalsely : Prop := fnExactRollUpRow.holds Try.pinned (OpenSpec.ofChange fnExactRollUpWrong)

/-- 'laws.FnExactFoldRange': WHATEVER THE INPUT: true; the input reads as it did. -/
def fnExactFoldRangeSpec : ChangeSpec := { name := "fnExactFoldRange", fn := fun _ => fun
  | [d1, d2, d3] => { results := [.lit (.bool true)], args := [d1, d2, d3] }
  | _ => none }
def fnExactFoldRangeRow : OpenClaim := { program := "ytkpaocejpjhkpaa", sum := "a85a45d87201d80d02d5a958bc17ea707dda9e80b74475e46f1daa510deb7932", func := "loop.example/g00601/laws.FnExactFoldRange", spec := "fnExactFoldRange", unfollowed := true, recurses := true, apart := false }
def FnExactFoldRangeSaid : Prop := fnExactFoldRangeRow.holds Try.pinned (OpenSpec.ofChange fnExactFoldRangeSpec)

/-- ITS FALSE NEIGHBOUR: 'it returns false'. Refute it at one input. -/
def fnExactFoldRangeWrong : ChangeSpec := { name := "fnExactFoldRange", fn := fun _ => fun
  | [d1, d2, d3] => { results := [.lit (.bool false)], args := [d1, d2, d3] }
  | _ => none }
def FnExactFoldRangeWrongFalsely : Prop := fnExactFoldRangeRow.holds Try.pinned (OpenSpec.ofChange fnExactFoldRangeWrong)

/- THE SECOND FORM. 'bulk': how many values and letters a reading holds, each counted each time it is reached (what is shared counts as often as it is met; a slice's spare places count too). A statement '..UptoSaid' is the law's where the arguments, and the package variables that the reading takes, are together of bulk at most 1048576: NARROWER than '..Said'. Prove '..Said' where nothing that the law and all that it calls make is longer than what came in: it says more and counts as full. Else prove '..UptoSaid'. A law counts once. -/
mutual
def uptoBulk {H : Type} : DataW H → Nat
  | .lit (.string bytes) => bytes.length + 1
  | .lit _ => 1
  | .nil => 1
  | .ptr d => uptoBulk d + 1
  | .slice elems spare => uptoBulkAll elems + uptoBulkAll spare + 1
  | .agg parts => uptoBulkAll parts + 1
  | .iface _ d => uptoBulk d + 1
  | .map entries => uptoBulkEntries entries + 1
  | .held _ => 1
def uptoBulkAll {H : Type} : List (DataW H) → Nat
  | [] => 0
  | d :: r => uptoBulk d + uptoBulkAll r
def uptoBulkEntries {H : Type} : List (Lit × DataW H) → Nat
  | [] => 0
  | x :: r => uptoBulkEntry x + uptoBulkEntries r
def uptoBulkEntry {H : Type} : Lit × DataW H → Nat
  | (.string bytes, d) => bytes.length + uptoBulk d + 1
  | (_, d) => uptoBulk d + 1
 end
def uptoSmall : (H : Type) → List (DataW H) → Bool := fun _ ds => decide (uptoBulkAll ds ≤ 1048576)
def OpenSpec.upto (s : _root_.Go.ChangeSpec) : _root_.Go.OpenSpec := { _root_.Go.OpenSpec.ofChange s with cond := some uptoSmall }

/-- 'laws.FnExactLeaseOK', WHERE WHAT IT READS IS OF BULK AT MOST 1048576: true; the input reads as it did. -/
def fnExactLeaseOKUptoRow : OpenClaim := { program := "ytkpaocejpjhkpaa", sum := "a85a45d87201d80d02d5a958bc17ea707dda9e80b74475e46f1daa510deb7932", func := "loop.example/g00601/laws.FnExactLeaseOK", spec := "fnExactLeaseOK", apart := false, narrowed := true }
def FnExactLeaseOKUptoSaid : Prop := fnExactLeaseOKUptoRow.holds Try.pinned (OpenSpec.upto fnExactLeaseOKSpec)

/-- 'laws.FnExactDownsample', WHERE WHAT IT READS IS OF BULK AT MOST 1048576: true; the input reads as it did. -/
def fnExactDownsampleUptoRow : OpenClaim := { program := "ytkpaocejpjhkpaa", sum := "a85a45d87201d80d02d5a958bc17ea707dda9e80b74475e46f1daa510deb7932", func := "loop.example/g00601/laws.FnExactDownsample", spec := "fnExactDownsample", unfollowed := true, recurses := true, apart := false, narrowed := true }
def FnExactDownsampleUptoSaid : Prop := fnExactDownsampleUptoRow.holds Try.pinned (OpenSpec.upto fnExactDownsampleSpec)

/-- 'laws.FnExactRollUp', WHERE WHAT IT READS IS OF BULK AT MOST 1048576: true; the input reads as it did. -/
def fnExactRollUpUptoRow : OpenClaim := { program := "ytkpaocejpjhkpaa", sum := "a85a45d87201d80d02d5a958bc17ea707dda9e80b74475e46f1daa510deb7932", func := "loop.example/g00601/laws.FnExactRollUp", spec := "fnExactRollUp", unfollowed := true, recurses := true, apart := false, narrowed := true }
def FnExactRollUpUptoSaid : Prop := fnExactRollUpUptoRow.holds Try.pinned (OpenSpec.upto fnExactRollUpSpec)

/-- 'laws.FnExactFoldRange', WHERE WHAT IT READS IS OF BULK AT MOST 1048576: true; the input reads as it did. -/
def fnExactFoldRangeUptoRow : OpenClaim := { program := "ytkpaocejpjhkpaa", sum := "a85a45d87201d80d02d5a958bc17ea707dda9e80b74475e46f1daa510deb7932", func := "loop.example/g00601/laws.FnExactFoldRange", spec := "fnExactFoldRange", unfollowed := true, recurses := true, apart := false, narrowed := true }
def FnExactFoldRangeUptoSaid : Prop := fnExactFoldRangeUptoRow.holds Try.pinned (OpenSpec.upto fnExactFoldRangeSpec)

end Rows
end Go.Proofs.Ytkpaocejpjhkpaa
