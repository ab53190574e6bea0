/-
  Contracts of the small functions on bytes (digits, letters) of both packages: what each answers, at every byte; the world stays as it was. No conditions.
-/
import Derived.Test.YtpfanmcjlfdaiaaGreatDoorRRows
import Derived.WalkKit
import Derived.ProofKit
import Derived.OpenShut
namespace Go.Proofs.YtpfanmcjlfdaiaaGreatDoorR
open Go.ChangeShapes Go.WideShapes Go.ChangeAt Go.RowKit
set_option linter.unusedVariables false

/-- a digit's byte -/
def digB (n : Int) : Bool := decide (48 ≤ n ∧ n ≤ 57)

theorem isDigit_any (n : Int) (w : World) : Calls Tryz.prog 128 #[.int .u8 n] w fun e w' => e = .returned (.bool (digB n)) ∧ w = w' := by
  go_enter Tryz.func128, Tryz.ntmps128
  go_wp2
  all_goals go_ret
  all_goals refine ⟨?_, rfl⟩
  all_goals simp [digB]
  all_goals omega

theorem specDigit_any (n : Int) (w : World) : Calls Tryz.prog 107 #[.int .u8 n] w fun e w' => e = .returned (.bool (digB n)) ∧ w = w' := by
  go_enter Tryz.func107, Tryz.ntmps107
  go_wp2
  all_goals go_ret
  all_goals refine ⟨?_, rfl⟩
  all_goals simp [digB]
  all_goals omega

end Go.Proofs.YtpfanmcjlfdaiaaGreatDoorR
