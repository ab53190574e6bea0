/-
  No cell of these rows narrows 'for every input' (looked for: loops, veiled, ifaces, maps, wideKeys, modest, calm, conditions, laid).
  DERIVED. THE GIVEN ROWS OF THIS SEAT. 4 by the template 'for every input the law returns true; each argument reads behind the call as it read before'; 0 by the template 'total and deterministic' (their statements: YtpfanmcjlfdaiaaTotals.lean).
  GIVEN WITH THE SEED: the statements are not yours to turn. If you find one false, say at which input.
  Laid BY PROGRAM, IN A SANDBOX (cutbox-rows.mjs): the forced cells as the released guide's own fill.sh prints them over the translation 2fd93c95d8f9c36c… (all of the seat's roots in one cut). By AI agents, Wed Nov 11 2026. No macro, syntax, notation, axiom, sorry.
-/
import Derived.Test.YtpfanmcjlfdaiaaChecked
import GoSem.Claim
import GoSem.ClaimJoined
import GoSem.ClaimMapViews
import Derived.JoinedTies
import Derived.KernelRfl
namespace Go.Proofs.Ytpfanmcjlfdaiaa
/- THE CELL 'sum', in the pinned program and in every row, IS THE sha256 OF THE DUMP (.gsa) THAT YtpfanmcjlfdaiaaProg.lean LOADS. Nothing in Lean hashes anything: it is a label: what it is worth is what the hold of that sum in a sandbox is worth. -/
noncomputable def Try.pinned : Pinned := { name := "ytpfanmcjlfdaiaa", sum := "2fd93c95d8f9c36cd3b7e4a9cc847ab7e764d5b2b783a6929a402a6242d42c2e", checked := Try.checked }
namespace Rows
def none {H : Type} : Left H := { results := [], args := [] }

/-- 'laws.FnExactNewIngester': WHATEVER THE INPUT: true; the input reads as it did. -/
def fnExactNewIngesterSpec : ChangeSpec := { name := "fnExactNewIngester", fn := fun _ => fun
  | [d] => { results := [.lit (.bool true)], args := [d] }
  | _ => none }
def fnExactNewIngesterRow : OpenClaim := { program := "ytpfanmcjlfdaiaa", sum := "2fd93c95d8f9c36cd3b7e4a9cc847ab7e764d5b2b783a6929a402a6242d42c2e", func := "loop.example/g00601/laws.FnExactNewIngester", spec := "fnExactNewIngester", apart := false }
def FnExactNewIngesterSaid : Prop := fnExactNewIngesterRow.holds Try.pinned (OpenSpec.ofChange fnExactNewIngesterSpec)

/-- ITS FALSE NEIGHBOUR: 'it returns false'. Refute it at one input. -/
def fnExactNewIngesterWrong : ChangeSpec := { name := "fnExactNewIngester", fn := fun _ => fun
  | [d] => { results := [.lit (.bool false)], args := [d] }
  | _ => none }
def FnExactNewIngesterWrongFalsely : Prop := fnExactNewIngesterRow.holds Try.pinned (OpenSpec.ofChange fnExactNewIngesterWrong)

/-- 'laws.FnExactIngesterOK': WHATEVER THE INPUT: true; the input reads as it did. -/
def fnExactIngesterOKSpec : ChangeSpec := { name := "fnExactIngesterOK", fn := fun _ => fun
  | [d] => { results := [.lit (.bool true)], args := [d] }
  | _ => none }
def fnExactIngesterOKRow : OpenClaim := { program := "ytpfanmcjlfdaiaa", sum := "2fd93c95d8f9c36cd3b7e4a9cc847ab7e764d5b2b783a6929a402a6242d42c2e", func := "loop.example/g00601/laws.FnExactIngesterOK", spec := "fnExactIngesterOK", apart := false }
def FnExactIngesterOKSaid : Prop := fnExactIngesterOKRow.holds Try.pinned (OpenSpec.ofChange fnExactIngesterOKSpec)

/-- ITS FALSE NEIGHBOUR: 'it returns false'. Refute it at one input. -/
def fnExactIngesterOKWrong : ChangeSpec := { name := "fnExactIngesterOK", fn := fun _ => fun
  | [d] => { results := [.lit (.bool false)], args := [d] }
  | _ => none }
def FnExactIngesterOKWrongFalsely : Prop := fnExactIngesterOKRow.holds Try.pinned (OpenSpec.ofChange fnExactIngesterOKWrong)

/-- 'laws.FnExactGiveBatch': WHATEVER THE INPUT: true; the input reads as it did. -/
def fnExactGiveBatchSpec : ChangeSpec := { name := "fnExactGiveBatch", fn := fun _ => fun
  | [d1, d2] => { results := [.lit (.bool true)], args := [d1, d2] }
  | _ => none }
def fnExactGiveBatchRow : OpenClaim := { program := "ytpfanmcjlfdaiaa", sum := "2fd93c95d8f9c36cd3b7e4a9cc847ab7e764d5b2b783a6929a402a6242d42c2e", func := "loop.example/g00601/laws.FnExactGiveBatch", spec := "fnExactGiveBatch", apart := false }
def FnExactGiveBatchSaid : Prop := fnExactGiveBatchRow.holds Try.pinned (OpenSpec.ofChange fnExactGiveBatchSpec)

/-- ITS FALSE NEIGHBOUR: 'it returns false'. Refute it at one input. -/
def fnExactGiveBatchWrong : ChangeSpec := { name := "fnExactGiveBatch", fn := fun _ => fun
  | [d1, d2] => { results := [.lit (.bool false)], args := [d1, d2] }
  | _ => none }
def FnExactGiveBatchWrongFalsely : Prop := fnExactGiveBatchRow.holds Try.pinned (OpenSpec.ofChange fnExactGiveBatchWrong)

/-- 'laws.FnExactSameIngester': WHATEVER THE INPUT: true; the input reads as it did. -/
def fnExactSameIngesterSpec : ChangeSpec := { name := "fnExactSameIngester", fn := fun _ => fun
  | [d1, d2] => { results := [.lit (.bool true)], args := [d1, d2] }
  | _ => none }
def fnExactSameIngesterRow : OpenClaim := { program := "ytpfanmcjlfdaiaa", sum := "2fd93c95d8f9c36cd3b7e4a9cc847ab7e764d5b2b783a6929a402a6242d42c2e", func := "loop.example/g00601/laws.FnExactSameIngester", spec := "fnExactSameIngester", apart := false }
def FnExactSameIngesterSaid : Prop := fnExactSameIngesterRow.holds Try.pinned (OpenSpec.ofChange fnExactSameIngesterSpec)

/-- ITS FALSE NEIGHBOUR: 'it returns false'. Refute it at one input. -/
def fnExactSameIngesterWrong : ChangeSpec := { name := "fnExactSameIngester", fn := fun _ => fun
  | [d1, d2] => { results := [.lit (.bool false)], args := [d1, d2] }
  | _ => none }
def FnExactSameIngesterWrongFalsely : Prop := fnExactSameIngesterRow.holds Try.pinned (OpenSpec.ofChange fnExactSameIngesterWrong)

/- THE SECOND FORM. 'bulk': how many values and letters a reading holds, each counted each time it is reached (what is shared counts as often as it is met; a slice's spare places count too). A statement '..UptoSaid' is the law's where the arguments, and the package variables that the reading takes, are together of bulk at most 1048576: NARROWER than '..Said'. Prove '..Said' where nothing that the law and all that it calls make is longer than what came in: it says more and counts as full. Else prove '..UptoSaid'. A law counts once. -/
mutual
def uptoBulk {H : Type} : DataW H → Nat
  | .lit (.string bytes) => bytes.length + 1
  | .lit _ => 1
  | .nil => 1
  | .ptr d => uptoBulk d + 1
  | .slice elems spare => uptoBulkAll elems + uptoBulkAll spare + 1
  | .agg parts => uptoBulkAll parts + 1
  | .iface _ d => uptoBulk d + 1
  | .map entries => uptoBulkEntries entries + 1
  | .held _ => 1
def uptoBulkAll {H : Type} : List (DataW H) → Nat
  | [] => 0
  | d :: r => uptoBulk d + uptoBulkAll r
def uptoBulkEntries {H : Type} : List (Lit × DataW H) → Nat
  | [] => 0
  | x :: r => uptoBulkEntry x + uptoBulkEntries r
def uptoBulkEntry {H : Type} : Lit × DataW H → Nat
  | (.string bytes, d) => bytes.length + uptoBulk d + 1
  | (_, d) => uptoBulk d + 1
 end
def uptoSmall : (H : Type) → List (DataW H) → Bool := fun _ ds => decide (uptoBulkAll ds ≤ 1048576)
def OpenSpec.upto (s : _root_.Go.ChangeSpec) : _root_.Go.OpenSpec := { _root_.Go.OpenSpec.ofChange s with cond := some uptoSmall }

/-- 'laws.FnExactNewIngester', WHERE WHAT IT READS IS OF BULK AT MOST 1048576: true; the input reads as it did. -/
def fnExactNewIngesterUptoRow : OpenClaim := { program := "ytpfanmcjlfdaiaa", sum := "2fd93c95d8f9c36cd3b7e4a9cc847ab7e764d5b2b783a6929a402a6242d42c2e", func := "loop.example/g00601/laws.FnExactNewIngester", spec := "fnExactNewIngester", apart := false, narrowed := true }
def FnExactNewIngesterUptoSaid : Prop := fnExactNewIngesterUptoRow.holds Try.pinned (OpenSpec.upto fnExactNewIngesterSpec)

/-- 'laws.FnExactIngesterOK', WHERE WHAT IT READS IS OF BULK AT MOST 1048576: true; the input reads as it did. -/
def fnExactIngesterOKUptoRow : OpenClaim := { program := "ytpfanmcjlfdaiaa", sum := "2fd93c95d8f9c36cd3b7e4a9cc847ab7e764d5b2b783a6929a402a6242d42c2e", func := "loop.example/g00601/laws.FnExactIngesterOK", spec := "fnExactIngesterOK", apart := false, narrowed := true }
def FnExactIngesterOKUptoSaid : Prop := fnExactIngesterOKUptoRow.holds Try.pinned (OpenSpec.upto fnExactIngesterOKSpec)

/-- 'laws.FnExactGiveBatch', WHERE WHAT IT READS IS OF BULK AT MOST 1048576: true; the input reads as it did. -/
def fnExactGiveBatchUptoRow : OpenClaim := { program := "ytpfanmcjlfdaiaa", sum := "2fd93c95d8f9c36cd3b7e4a9cc847ab7e764d5b2b783a6929a402a6242d42c2e", func := "loop.example/g00601/laws.FnExactGiveBatch", spec := "fnExactGiveBatch", apart := false, narrowed := true }
def FnExactGiveBatchUptoSaid : Prop := fnExactGiveBatchUptoRow.holds Try.pinned (OpenSpec.upto fnExactGiveBatchSpec)

/-- 'laws.FnExactSameIngester', WHERE WHAT IT READS IS OF BULK AT MOST 1048576: true; the input reads as it did. -/
def fnExactSameIngesterUptoRow : OpenClaim := { program := "ytpfanmcjlfdaiaa", sum := "2fd93c95d8f9c36cd3b7e4a9cc847ab7e764d5b2b783a6929a402a6242d42c2e", func := "loop.example/g00601/laws.FnExactSameIngester", spec := "fnExactSameIngester", apart := false, narrowed := true }
def FnExactSameIngesterUptoSaid : Prop := fnExactSameIngesterUptoRow.holds Try.pinned (OpenSpec.upto fnExactSameIngesterSpec)

end Rows
end Go.Proofs.Ytpfanmcjlfdaiaa
