/-
  The answers of AggOK of both packages and of l01In, by a bool that is known ahead. No conditions.
-/
import Derived.Test.YthmpmagajbmpaaaGreatDoorAggOK
namespace Go.Proofs.YthmpmagajbmpaaaGreatDoor
open Go.ChangeShapes Go.WideShapes Go.ChangeAt Go.RowKit
set_option linter.unusedVariables false

theorem inL_b (n lo hi : Int) (b : Bool) (h : inB n lo hi = b) (w : World) : Calls Tryz.prog 56 #[.int .i64 n, .int .i64 lo, .int .i64 hi] w fun e w' => e = .returned (.bool b) ∧ w = w' :=
  (inL_any n lo hi w).mono fun e w' ⟨he, hB⟩ => ⟨by rw [he, h], hB⟩

end Go.Proofs.YthmpmagajbmpaaaGreatDoor
