/-
  Contracts of the laws' holding helpers: held finds the marks that mark wrote.
-/
import Derived.Test.YtpfanmcjlfdaiaaMarks
import Derived.Deep.RegionHeld3
namespace Go.Proofs.Ytpfanmcjlfdaiaa
open Go.ChangeShapes Go.WideShapes Go.ChangeAt Go.RowKit
set_option linter.unusedVariables false

end Go.Proofs.Ytpfanmcjlfdaiaa
