/-
  Contracts of AggOK of both packages: each answers true just of a right aggregate; nothing old has turned. No conditions.
-/
import Derived.Test.YtpfanmcjlfdaiaaAgg
namespace Go.Proofs.Ytpfanmcjlfdaiaa
open Go.ChangeShapes Go.WideShapes Go.ChangeAt Go.RowKit
set_option linter.unusedVariables false

theorem mul_in {c m : Int} (h1 : 1 ≤ c) (h2 : c ≤ 100000) (h3 : -1000000 ≤ m) (h4 : m ≤ 1000000) : -100000000000 ≤ c * m ∧ c * m ≤ 100000000000 := by
  have a : c * -1000000 ≤ c * m := Int.mul_le_mul_of_nonneg_left h3 (by omega)
  have b : c * m ≤ c * 1000000 := Int.mul_le_mul_of_nonneg_left h4 (by omega)
  omega

theorem mul_wrap {c m : Int} (h1 : 1 ≤ c) (h2 : c ≤ 100000) (h3 : -1000000 ≤ m) (h4 : m ≤ 1000000) : wrap64 (c * m) = c * m := by
  have := mul_in h1 h2 h3 h4
  unfold wrap64; omega

end Go.Proofs.Ytpfanmcjlfdaiaa
