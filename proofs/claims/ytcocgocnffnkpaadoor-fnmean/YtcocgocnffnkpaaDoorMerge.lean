/-
  Contracts of what puts two aggregates together, in both packages: counts and sums are added (as floats, which are exact there), the rest by its rule. Conditions: counts and sums are far below 2 to the 53.
-/
import Derived.Test.YtcocgocnffnkpaaDoorMean
import Derived.Test.YtcocgocnffnkpaaDoorFlt
import Derived.Deep.RegionHeld3
import Derived.Deep.RegionWith
namespace Go.Proofs.YtcocgocnffnkpaaDoor
open Go.ChangeShapes Go.WideShapes Go.ChangeAt Go.RowKit
set_option linter.unusedVariables false

/-- both together, the second being later -/
def gMerge (a b : GAgg) : GAgg := if a.cnt = 0 then b else if b.cnt = 0 then a else ⟨a.cnt + b.cnt, a.sum + b.sum, min a.mn b.mn, max a.mx b.mx, a.fst, b.lst⟩

/-- its numbers are small enough for floats -/
def GAgg.small (a : GAgg) : Prop := -1000000000000000 ≤ a.cnt ∧ a.cnt ≤ 1000000000000000 ∧ -1000000000000000 ≤ a.sum ∧ a.sum ≤ 1000000000000000

theorem add_float (a b c d : Int) (ha : a.natAbs < 9007199254740992) (hb : b.natAbs < 9007199254740992) (hab : (a + b).natAbs < 9007199254740992) (hc : c.natAbs < 9007199254740992) (hd : d.natAbs < 9007199254740992) (hcd : (c + d).natAbs < 9007199254740992) (t : TypeId) (W : World) :
    (binOp .add t (.complex .f64 (floatOfInt .f64 a) (floatOfInt .f64 c)) (.complex .f64 (floatOfInt .f64 b) (floatOfInt .f64 d))).run Tryd.prog W = .ok (.complex .f64 (floatOfInt .f64 (a + b)) (floatOfInt .f64 (c + d))) W := by
  refine run_complex_sum W .add (Or.inl rfl) t .f64 _ _ _ _ _ _ ?_
  have e1 : floatBits .add .f64 (floatOfInt .f64 a) (floatOfInt .f64 b) = some (floatOfInt .f64 (a + b)) := near_add a b ha hb hab
  have e2 : floatBits .add .f64 (floatOfInt .f64 c) (floatOfInt .f64 d) = some (floatOfInt .f64 (c + d)) := near_add c d hc hd hcd
  unfold cSumBits
  rw [e1, e2]
  rfl

end Go.Proofs.YtcocgocnffnkpaaDoor
