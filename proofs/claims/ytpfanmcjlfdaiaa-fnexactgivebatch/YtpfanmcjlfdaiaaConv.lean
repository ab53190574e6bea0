/-
  Contracts of the laws' copying helpers over stores: sz (how much room is left), to (a copy in new memory).
-/
import Derived.Test.YtpfanmcjlfdaiaaHeld
namespace Go.Proofs.Ytpfanmcjlfdaiaa
open Go.ChangeShapes Go.WideShapes Go.ChangeAt Go.RowKit
set_option linter.unusedVariables false

def GObj.small (o : GObj) : Prop := o.key.size ≤ 1048576 ∧ o.data.size ≤ 1048576

def GObj.fits (o : GObj) : Prop := o.key.size ≤ maxLen ∧ o.data.size ≤ maxLen

/-- a number is answered that, if it is not below 0, is at most what it was and says P; nothing old has turned -/
def Left (P : Prop) (left : Int) (w : World) (e : Ending) (w' : World) : Prop := ∃ v : Int, (0 ≤ v → P ∧ v ≤ left) ∧ -1 ≤ v ∧ v ≤ 1048576 ∧ e = .returned (.int .i64 v) ∧ Below w.heap.size w w'

end Go.Proofs.Ytpfanmcjlfdaiaa
