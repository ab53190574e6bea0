/-
  Contracts of KeyOK of both packages: each answers true just of a key, at every text; the world stays as it was. Conditions: none beside the form's own bound of a text's length.
-/
import Derived.Test.YtpfanmcjlfdaiaaNameOK
namespace Go.Proofs.Ytpfanmcjlfdaiaa
open Go.ChangeShapes Go.WideShapes Go.ChangeAt Go.RowKit
set_option linter.unusedVariables false

/-- a byte of a key -/
def keyB (n : Int) : Bool := decide ((97 ≤ n ∧ n ≤ 122) ∨ (48 ≤ n ∧ n ≤ 57) ∨ n = 47 ∨ n = 45)

def KeyP (s : ByteArray) : Prop := 1 ≤ s.size ∧ s.size ≤ 30 ∧ ∀ k, (h : k < s.size) → keyB (s[k].toNat : Int) = true

theorem l01In_any (n a b : Int) (w : World) : Calls Try.prog 24 #[.int .i64 n, .int .i64 a, .int .i64 b] w fun e w' => e = .returned (.bool (decide (a ≤ n ∧ n ≤ b))) ∧ w = w' := by
  go_enter Try.func24, Try.ntmps24
  go_wp2
  all_goals go_ret
  all_goals refine ⟨?_, rfl⟩
  all_goals simp
  all_goals omega

theorem keyB_cases (n : Int) : (keyB n = true ∧ 97 ≤ n ∧ n ≤ 122 ∧ digB n = false) ∨ (keyB n = true ∧ digB n = true ∧ n < 97) ∨ (keyB n = true ∧ n = 47 ∧ digB n = false) ∨ (keyB n = true ∧ n = 45 ∧ digB n = false) ∨
    (keyB n = false ∧ digB n = false ∧ (n < 97 ∨ 122 < n) ∧ (n == 47) = false ∧ (n == 45) = false ∧ (n != 47) = true ∧ (n != 45) = true) := by
  simp [keyB, digB, bne]; omega

end Go.Proofs.Ytpfanmcjlfdaiaa
