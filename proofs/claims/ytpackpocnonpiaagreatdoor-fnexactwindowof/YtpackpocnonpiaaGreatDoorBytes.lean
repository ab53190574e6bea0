/-
  Contracts of the small functions on bytes (digits, letters) of both packages: what each answers, at every byte; the world stays as it was. No conditions.
-/
import Derived.Test.YtpackpocnonpiaaGreatDoorRows
import Derived.WalkKit
import Derived.ProofKit
import Derived.OpenShut
namespace Go.Proofs.YtpackpocnonpiaaGreatDoor
open Go.ChangeShapes Go.WideShapes Go.ChangeAt Go.RowKit
set_option linter.unusedVariables false

/-- a digit's byte -/
def digB (n : Int) : Bool := decide (48 ≤ n ∧ n ≤ 57)

/-- a letter's byte, or the low line -/
def lettB (n : Int) : Bool := decide ((97 ≤ n ∧ n ≤ 122) ∨ (65 ≤ n ∧ n ≤ 90) ∨ n = 95)

theorem isDigit_any (n : Int) (w : World) : Calls Tryz.prog 197 #[.int .u8 n] w fun e w' => e = .returned (.bool (digB n)) ∧ w = w' := by
  go_enter Tryz.func197, Tryz.ntmps197
  go_wp2
  all_goals go_ret
  all_goals refine ⟨?_, rfl⟩
  all_goals simp [digB]
  all_goals omega

theorem specDigit_any (n : Int) (w : World) : Calls Tryz.prog 169 #[.int .u8 n] w fun e w' => e = .returned (.bool (digB n)) ∧ w = w' := by
  go_enter Tryz.func169, Tryz.ntmps169
  go_wp2
  all_goals go_ret
  all_goals refine ⟨?_, rfl⟩
  all_goals simp [digB]
  all_goals omega

end Go.Proofs.YtpackpocnonpiaaGreatDoor
