/-
  The library's table of powers of ten, held from world to world; contract of strconv.Itoa in these words. Conditions: the table is as the library's text lays it.
-/
import Derived.Test.YtpfanmcjlfdaiaaGreatDoorRN5
import Derived.Test.YtpfanmcjlfdaiaaGreatDoorRShelf
import Derived.WalkSmall
import Derived.Lib.SmallJoins
namespace Go.Proofs.YtpfanmcjlfdaiaaGreatDoorR
open Go.ChangeShapes Go.WideShapes Go.ChangeAt Go.RowKit
set_option linter.unusedVariables false

/-- the library's powers of ten are as they were laid -/
def Pow (w : World) : Prop := Lib.TabIs Tryz.prog w "internal/strconv.uint64pow10" .u64 Lib.pow10Tab

theorem Pow.below {w w' : World} {B : Nat} (h : Pow w) (hb : Below B w w') (hB : w.heap.size ≤ B) : Pow w' := by
  unfold Pow Lib.TabIs at *
  cases hg : Program.globalNamed Tryz.prog "internal/strconv.uint64pow10" with
  | none => simp [World.var?, hg] at h
  | some g => exact Joins.var_stays hg h hb hB

end Go.Proofs.YtpfanmcjlfdaiaaGreatDoorR
