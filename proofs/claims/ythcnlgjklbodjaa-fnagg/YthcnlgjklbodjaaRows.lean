/-
  No cell of these rows narrows 'for every input' (looked for: loops, veiled, ifaces, maps, wideKeys, modest, calm, conditions, laid).
  DERIVED. THE GIVEN ROWS OF THIS SEAT. 9 by the template 'for every input the law returns true; each argument reads behind the call as it read before'; 0 by the template 'total and deterministic' (their statements: YthcnlgjklbodjaaTotals.lean).
  GIVEN WITH THE SEED: the statements are not yours to turn. If you find one false, say at which input.
  Laid BY PROGRAM, IN A SANDBOX (cutbox-rows.mjs): the forced cells as the released guide's own fill.sh prints them over the translation 12ef25ea401e87bc… (all of the seat's roots in one cut). By AI agents, Wed Nov 11 2026. No macro, syntax, notation, axiom, sorry.
-/
import Derived.Test.YthcnlgjklbodjaaChecked
import GoSem.Claim
import GoSem.ClaimJoined
import GoSem.ClaimMapViews
import Derived.JoinedTies
import Derived.KernelRfl
namespace Go.Proofs.Ythcnlgjklbodjaa
/- THE CELL 'sum', in the pinned program and in every row, IS THE sha256 OF THE DUMP (.gsa) THAT YthcnlgjklbodjaaProg.lean LOADS. Nothing in Lean hashes anything: it is a label: what it is worth is what the hold of that sum in a sandbox is worth. -/
noncomputable def Try.pinned : Pinned := { name := "ythcnlgjklbodjaa", sum := "12ef25ea401e87bcaa7f9dc171217405aad69356b863b10d00054de2d6b09a90", checked := Try.checked }
namespace Rows
def none {H : Type} : Left H := { results := [], args := [] }

/-- 'laws.FnStore': WHATEVER THE INPUT: true; the input reads as it did. -/
def fnStoreSpec : ChangeSpec := { name := "fnStore", fn := fun _ => fun
  | [d1, d2] => { results := [.lit (.bool true)], args := [d1, d2] }
  | _ => none }
def fnStoreRow : OpenClaim := { program := "ythcnlgjklbodjaa", sum := "12ef25ea401e87bcaa7f9dc171217405aad69356b863b10d00054de2d6b09a90", func := "loop.example/g00601/laws.FnStore", spec := "fnStore", unfollowed := true, recurses := true, apart := false }
def FnStoreSaid : Prop := fnStoreRow.holds Try.pinned (OpenSpec.ofChange fnStoreSpec)

/-- ITS FALSE NEIGHBOUR: 'it returns false'. Refute it at one input. -/
def fnStoreWrong : ChangeSpec := { name := "fnStore", fn := fun _ => fun
  | [d1, d2] => { results := [.lit (.bool false)], args := [d1, d2] }
  | _ => none }
def FnStoreWrongFalsely : Prop := fnStoreRow.holds Try.pinned (OpenSpec.ofChange fnStoreWrong)

/-- 'laws.FnCas': WHATEVER THE INPUT: true; the input reads as it did. -/
def fnCasSpec : ChangeSpec := { name := "fnCas", fn := fun _ => fun
  | [d1, d2] => { results := [.lit (.bool true)], args := [d1, d2] }
  | _ => none }
def fnCasRow : OpenClaim := { program := "ythcnlgjklbodjaa", sum := "12ef25ea401e87bcaa7f9dc171217405aad69356b863b10d00054de2d6b09a90", func := "loop.example/g00601/laws.FnCas", spec := "fnCas", unfollowed := true, recurses := true, apart := false }
def FnCasSaid : Prop := fnCasRow.holds Try.pinned (OpenSpec.ofChange fnCasSpec)

/-- ITS FALSE NEIGHBOUR: 'it returns false'. Refute it at one input. -/
def fnCasWrong : ChangeSpec := { name := "fnCas", fn := fun _ => fun
  | [d1, d2] => { results := [.lit (.bool false)], args := [d1, d2] }
  | _ => none }
def FnCasWrongFalsely : Prop := fnCasRow.holds Try.pinned (OpenSpec.ofChange fnCasWrong)

/-- 'laws.FnList': WHATEVER THE INPUT: true; the input reads as it did. -/
def fnListSpec : ChangeSpec := { name := "fnList", fn := fun _ => fun
  | [d1, d2] => { results := [.lit (.bool true)], args := [d1, d2] }
  | _ => none }
def fnListRow : OpenClaim := { program := "ythcnlgjklbodjaa", sum := "12ef25ea401e87bcaa7f9dc171217405aad69356b863b10d00054de2d6b09a90", func := "loop.example/g00601/laws.FnList", spec := "fnList", apart := false }
def FnListSaid : Prop := fnListRow.holds Try.pinned (OpenSpec.ofChange fnListSpec)

/-- ITS FALSE NEIGHBOUR: 'it returns false'. Refute it at one input. -/
def fnListWrong : ChangeSpec := { name := "fnList", fn := fun _ => fun
  | [d1, d2] => { results := [.lit (.bool false)], args := [d1, d2] }
  | _ => none }
def FnListWrongFalsely : Prop := fnListRow.holds Try.pinned (OpenSpec.ofChange fnListWrong)

/-- 'laws.FnAgg': WHATEVER THE INPUT: true; the input reads as it did. -/
def fnAggSpec : ChangeSpec := { name := "fnAgg", fn := fun _ => fun
  | [d1, d2] => { results := [.lit (.bool true)], args := [d1, d2] }
  | _ => none }
def fnAggRow : OpenClaim := { program := "ythcnlgjklbodjaa", sum := "12ef25ea401e87bcaa7f9dc171217405aad69356b863b10d00054de2d6b09a90", func := "loop.example/g00601/laws.FnAgg", spec := "fnAgg", apart := false }
def FnAggSaid : Prop := fnAggRow.holds Try.pinned (OpenSpec.ofChange fnAggSpec)

/-- ITS FALSE NEIGHBOUR: 'it returns false'. Refute it at one input. -/
def fnAggWrong : ChangeSpec := { name := "fnAgg", fn := fun _ => fun
  | [d1, d2] => { results := [.lit (.bool false)], args := [d1, d2] }
  | _ => none }
def FnAggWrongFalsely : Prop := fnAggRow.holds Try.pinned (OpenSpec.ofChange fnAggWrong)

/-- 'laws.FnExactNameOK': WHATEVER THE INPUT: true; the input reads as it did. -/
def fnExactNameOKSpec : ChangeSpec := { name := "fnExactNameOK", fn := fun _ => fun
  | [d] => { results := [.lit (.bool true)], args := [d] }
  | _ => none }
def fnExactNameOKRow : OpenClaim := { program := "ythcnlgjklbodjaa", sum := "12ef25ea401e87bcaa7f9dc171217405aad69356b863b10d00054de2d6b09a90", func := "loop.example/g00601/laws.FnExactNameOK", spec := "fnExactNameOK", apart := false }
def FnExactNameOKSaid : Prop := fnExactNameOKRow.holds Try.pinned (OpenSpec.ofChange fnExactNameOKSpec)

/-- ITS FALSE NEIGHBOUR: 'it returns false'. Refute it at one input. -/
def fnExactNameOKWrong : ChangeSpec := { name := "fnExactNameOK", fn := fun _ => fun
  | [d] => { results := [.lit (.bool false)], args := [d] }
  | _ => none }
def FnExactNameOKWrongFalsely : Prop := fnExactNameOKRow.holds Try.pinned (OpenSpec.ofChange fnExactNameOKWrong)

/-- 'laws.FnExactNewStore': WHATEVER THE INPUT: true; the input reads as it did. -/
def fnExactNewStoreSpec : ChangeSpec := { name := "fnExactNewStore", fn := fun _ => fun
  | [] => { results := [.lit (.bool true)], args := [] }
  | _ => none }
def fnExactNewStoreRow : OpenClaim := { program := "ythcnlgjklbodjaa", sum := "12ef25ea401e87bcaa7f9dc171217405aad69356b863b10d00054de2d6b09a90", func := "loop.example/g00601/laws.FnExactNewStore", spec := "fnExactNewStore", apart := false }
def FnExactNewStoreSaid : Prop := fnExactNewStoreRow.holds Try.pinned (OpenSpec.ofChange fnExactNewStoreSpec)

/-- ITS FALSE NEIGHBOUR: 'it returns false'. Refute it at one input. -/
def fnExactNewStoreWrong : ChangeSpec := { name := "fnExactNewStore", fn := fun _ => fun
  | [] => { results := [.lit (.bool false)], args := [] }
  | _ => none }
def FnExactNewStoreWrongFalsely : Prop := fnExactNewStoreRow.holds Try.pinned (OpenSpec.ofChange fnExactNewStoreWrong)

/-- 'laws.FnExactStoreOK': WHATEVER THE INPUT: true; the input reads as it did. -/
def fnExactStoreOKSpec : ChangeSpec := { name := "fnExactStoreOK", fn := fun _ => fun
  | [d] => { results := [.lit (.bool true)], args := [d] }
  | _ => none }
def fnExactStoreOKRow : OpenClaim := { program := "ythcnlgjklbodjaa", sum := "12ef25ea401e87bcaa7f9dc171217405aad69356b863b10d00054de2d6b09a90", func := "loop.example/g00601/laws.FnExactStoreOK", spec := "fnExactStoreOK", apart := false }
def FnExactStoreOKSaid : Prop := fnExactStoreOKRow.holds Try.pinned (OpenSpec.ofChange fnExactStoreOKSpec)

/-- ITS FALSE NEIGHBOUR: 'it returns false'. Refute it at one input. -/
def fnExactStoreOKWrong : ChangeSpec := { name := "fnExactStoreOK", fn := fun _ => fun
  | [d] => { results := [.lit (.bool false)], args := [d] }
  | _ => none }
def FnExactStoreOKWrongFalsely : Prop := fnExactStoreOKRow.holds Try.pinned (OpenSpec.ofChange fnExactStoreOKWrong)

/-- 'laws.FnExactKeyOK': WHATEVER THE INPUT: true; the input reads as it did. -/
def fnExactKeyOKSpec : ChangeSpec := { name := "fnExactKeyOK", fn := fun _ => fun
  | [d] => { results := [.lit (.bool true)], args := [d] }
  | _ => none }
def fnExactKeyOKRow : OpenClaim := { program := "ythcnlgjklbodjaa", sum := "12ef25ea401e87bcaa7f9dc171217405aad69356b863b10d00054de2d6b09a90", func := "loop.example/g00601/laws.FnExactKeyOK", spec := "fnExactKeyOK", apart := false }
def FnExactKeyOKSaid : Prop := fnExactKeyOKRow.holds Try.pinned (OpenSpec.ofChange fnExactKeyOKSpec)

/-- ITS FALSE NEIGHBOUR: 'it returns false'. Refute it at one input. -/
def fnExactKeyOKWrong : ChangeSpec := { name := "fnExactKeyOK", fn := fun _ => fun
  | [d] => { results := [.lit (.bool false)], args := [d] }
  | _ => none }
def FnExactKeyOKWrongFalsely : Prop := fnExactKeyOKRow.holds Try.pinned (OpenSpec.ofChange fnExactKeyOKWrong)

/-- 'laws.FnExactGetObject': WHATEVER THE INPUT: true; the input reads as it did. -/
def fnExactGetObjectSpec : ChangeSpec := { name := "fnExactGetObject", fn := fun _ => fun
  | [d1, d2] => { results := [.lit (.bool true)], args := [d1, d2] }
  | _ => none }
def fnExactGetObjectRow : OpenClaim := { program := "ythcnlgjklbodjaa", sum := "12ef25ea401e87bcaa7f9dc171217405aad69356b863b10d00054de2d6b09a90", func := "loop.example/g00601/laws.FnExactGetObject", spec := "fnExactGetObject", apart := false }
def FnExactGetObjectSaid : Prop := fnExactGetObjectRow.holds Try.pinned (OpenSpec.ofChange fnExactGetObjectSpec)

/-- ITS FALSE NEIGHBOUR: 'it returns false'. Refute it at one input. -/
def fnExactGetObjectWrong : ChangeSpec := { name := "fnExactGetObject", fn := fun _ => fun
  | [d1, d2] => { results := [.lit (.bool false)], args := [d1, d2] }
  | _ => none }
def FnExactGetObjectWrongFalsely : Prop := fnExactGetObjectRow.holds Try.pinned (OpenSpec.ofChange fnExactGetObjectWrong)

/- THE SECOND FORM. 'bulk': how many values and letters a reading holds, each counted each time it is reached (what is shared counts as often as it is met; a slice's spare places count too). A statement '..UptoSaid' is the law's where the arguments, and the package variables that the reading takes, are together of bulk at most 1048576: NARROWER than '..Said'. Prove '..Said' where nothing that the law and all that it calls make is longer than what came in: it says more and counts as full. Else prove '..UptoSaid'. A law counts once. -/
mutual
def uptoBulk {H : Type} : DataW H → Nat
  | .lit (.string bytes) => bytes.length + 1
  | .lit _ => 1
  | .nil => 1
  | .ptr d => uptoBulk d + 1
  | .slice elems spare => uptoBulkAll elems + uptoBulkAll spare + 1
  | .agg parts => uptoBulkAll parts + 1
  | .iface _ d => uptoBulk d + 1
  | .map entries => uptoBulkEntries entries + 1
  | .held _ => 1
def uptoBulkAll {H : Type} : List (DataW H) → Nat
  | [] => 0
  | d :: r => uptoBulk d + uptoBulkAll r
def uptoBulkEntries {H : Type} : List (Lit × DataW H) → Nat
  | [] => 0
  | x :: r => uptoBulkEntry x + uptoBulkEntries r
def uptoBulkEntry {H : Type} : Lit × DataW H → Nat
  | (.string bytes, d) => bytes.length + uptoBulk d + 1
  | (_, d) => uptoBulk d + 1
 end
def uptoSmall : (H : Type) → List (DataW H) → Bool := fun _ ds => decide (uptoBulkAll ds ≤ 1048576)
def OpenSpec.upto (s : _root_.Go.ChangeSpec) : _root_.Go.OpenSpec := { _root_.Go.OpenSpec.ofChange s with cond := some uptoSmall }

/-- 'laws.FnStore', WHERE WHAT IT READS IS OF BULK AT MOST 1048576: true; the input reads as it did. -/
def fnStoreUptoRow : OpenClaim := { program := "ythcnlgjklbodjaa", sum := "12ef25ea401e87bcaa7f9dc171217405aad69356b863b10d00054de2d6b09a90", func := "loop.example/g00601/laws.FnStore", spec := "fnStore", unfollowed := true, recurses := true, apart := false, narrowed := true }
def FnStoreUptoSaid : Prop := fnStoreUptoRow.holds Try.pinned (OpenSpec.upto fnStoreSpec)

/-- 'laws.FnCas', WHERE WHAT IT READS IS OF BULK AT MOST 1048576: true; the input reads as it did. -/
def fnCasUptoRow : OpenClaim := { program := "ythcnlgjklbodjaa", sum := "12ef25ea401e87bcaa7f9dc171217405aad69356b863b10d00054de2d6b09a90", func := "loop.example/g00601/laws.FnCas", spec := "fnCas", unfollowed := true, recurses := true, apart := false, narrowed := true }
def FnCasUptoSaid : Prop := fnCasUptoRow.holds Try.pinned (OpenSpec.upto fnCasSpec)

/-- 'laws.FnList', WHERE WHAT IT READS IS OF BULK AT MOST 1048576: true; the input reads as it did. -/
def fnListUptoRow : OpenClaim := { program := "ythcnlgjklbodjaa", sum := "12ef25ea401e87bcaa7f9dc171217405aad69356b863b10d00054de2d6b09a90", func := "loop.example/g00601/laws.FnList", spec := "fnList", apart := false, narrowed := true }
def FnListUptoSaid : Prop := fnListUptoRow.holds Try.pinned (OpenSpec.upto fnListSpec)

/-- 'laws.FnAgg', WHERE WHAT IT READS IS OF BULK AT MOST 1048576: true; the input reads as it did. -/
def fnAggUptoRow : OpenClaim := { program := "ythcnlgjklbodjaa", sum := "12ef25ea401e87bcaa7f9dc171217405aad69356b863b10d00054de2d6b09a90", func := "loop.example/g00601/laws.FnAgg", spec := "fnAgg", apart := false, narrowed := true }
def FnAggUptoSaid : Prop := fnAggUptoRow.holds Try.pinned (OpenSpec.upto fnAggSpec)

/-- 'laws.FnExactNameOK', WHERE WHAT IT READS IS OF BULK AT MOST 1048576: true; the input reads as it did. -/
def fnExactNameOKUptoRow : OpenClaim := { program := "ythcnlgjklbodjaa", sum := "12ef25ea401e87bcaa7f9dc171217405aad69356b863b10d00054de2d6b09a90", func := "loop.example/g00601/laws.FnExactNameOK", spec := "fnExactNameOK", apart := false, narrowed := true }
def FnExactNameOKUptoSaid : Prop := fnExactNameOKUptoRow.holds Try.pinned (OpenSpec.upto fnExactNameOKSpec)

/-- 'laws.FnExactNewStore', WHERE WHAT IT READS IS OF BULK AT MOST 1048576: true; the input reads as it did. -/
def fnExactNewStoreUptoRow : OpenClaim := { program := "ythcnlgjklbodjaa", sum := "12ef25ea401e87bcaa7f9dc171217405aad69356b863b10d00054de2d6b09a90", func := "loop.example/g00601/laws.FnExactNewStore", spec := "fnExactNewStore", apart := false, narrowed := true }
def FnExactNewStoreUptoSaid : Prop := fnExactNewStoreUptoRow.holds Try.pinned (OpenSpec.upto fnExactNewStoreSpec)

/-- 'laws.FnExactStoreOK', WHERE WHAT IT READS IS OF BULK AT MOST 1048576: true; the input reads as it did. -/
def fnExactStoreOKUptoRow : OpenClaim := { program := "ythcnlgjklbodjaa", sum := "12ef25ea401e87bcaa7f9dc171217405aad69356b863b10d00054de2d6b09a90", func := "loop.example/g00601/laws.FnExactStoreOK", spec := "fnExactStoreOK", apart := false, narrowed := true }
def FnExactStoreOKUptoSaid : Prop := fnExactStoreOKUptoRow.holds Try.pinned (OpenSpec.upto fnExactStoreOKSpec)

/-- 'laws.FnExactKeyOK', WHERE WHAT IT READS IS OF BULK AT MOST 1048576: true; the input reads as it did. -/
def fnExactKeyOKUptoRow : OpenClaim := { program := "ythcnlgjklbodjaa", sum := "12ef25ea401e87bcaa7f9dc171217405aad69356b863b10d00054de2d6b09a90", func := "loop.example/g00601/laws.FnExactKeyOK", spec := "fnExactKeyOK", apart := false, narrowed := true }
def FnExactKeyOKUptoSaid : Prop := fnExactKeyOKUptoRow.holds Try.pinned (OpenSpec.upto fnExactKeyOKSpec)

/-- 'laws.FnExactGetObject', WHERE WHAT IT READS IS OF BULK AT MOST 1048576: true; the input reads as it did. -/
def fnExactGetObjectUptoRow : OpenClaim := { program := "ythcnlgjklbodjaa", sum := "12ef25ea401e87bcaa7f9dc171217405aad69356b863b10d00054de2d6b09a90", func := "loop.example/g00601/laws.FnExactGetObject", spec := "fnExactGetObject", apart := false, narrowed := true }
def FnExactGetObjectUptoSaid : Prop := fnExactGetObjectUptoRow.holds Try.pinned (OpenSpec.upto fnExactGetObjectSpec)

end Rows
end Go.Proofs.Ythcnlgjklbodjaa
