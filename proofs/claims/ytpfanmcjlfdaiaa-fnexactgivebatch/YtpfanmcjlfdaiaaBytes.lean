/-
  Contracts of the small functions on bytes (digits, letters) of both packages: what each answers, at every byte; the world stays as it was. No conditions.
-/
import Derived.Test.YtpfanmcjlfdaiaaRows
import Derived.WalkKit
import Derived.ProofKit
import Derived.OpenShut
namespace Go.Proofs.Ytpfanmcjlfdaiaa
open Go.ChangeShapes Go.WideShapes Go.ChangeAt Go.RowKit
set_option linter.unusedVariables false

/-- a digit's byte -/
def digB (n : Int) : Bool := decide (48 ≤ n ∧ n ≤ 57)

/-- a letter's byte, or the low line -/
def lettB (n : Int) : Bool := decide ((97 ≤ n ∧ n ≤ 122) ∨ (65 ≤ n ∧ n ≤ 90) ∨ n = 95)

end Go.Proofs.Ytpfanmcjlfdaiaa
