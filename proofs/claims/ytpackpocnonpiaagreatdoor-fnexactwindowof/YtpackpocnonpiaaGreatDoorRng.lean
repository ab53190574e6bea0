/-
  Ranges, and contracts of what asks whether two times are one, in both packages. No conditions.
-/
import Derived.Test.YtpackpocnonpiaaGreatDoorAgg
import Derived.Lib.Hide
namespace Go.Proofs.YtpackpocnonpiaaGreatDoor
open Go.ChangeShapes Go.WideShapes Go.ChangeAt Go.RowKit
set_option linter.unusedVariables false
set_option linter.unusedSimpArgs false

/-- a range -/
def rngB (f t : Int) : Bool := decide (0 ≤ f ∧ f ≤ t ∧ t ≤ 100000)

theorem rngB_iff {f t : Int} : rngB f t = true ↔ 0 ≤ f ∧ f ≤ t ∧ t ≤ 100000 := by simp [rngB]

theorem isRange_any (f t : Int) (w : World) : Calls Tryz.prog 38 #[.int .i64 f, .int .i64 t] w fun e w' => e = .returned (.bool (rngB f t)) ∧ w = w' := by
  have hi : rngB f t = (inB f 0 t && decide (t ≤ 100000)) := by
    rw [Bool.eq_iff_iff]; simp only [rngB_iff, Bool.and_eq_true, inB_iff, decide_eq_true_eq]; omega
  have Hi := Lib.hid hi; clear hi
  go_enter Tryz.func38, Tryz.ntmps38
  go_wp2_with (go_at_call 87; refine (within_any _ _ _ _).mono ?_; rintro e w' ⟨rfl, rfl⟩)
  all_goals go_ret
  all_goals refine ⟨?_, rfl⟩
  all_goals (rw [Hi.out]; simp_all)

theorem l04Range_any (f t : Int) (w : World) : Calls Tryz.prog 34 #[.int .i64 f, .int .i64 t] w fun e w' => e = .returned (.bool (rngB f t)) ∧ w = w' := by
  have hi : rngB f t = (inB f 0 100000 && inB t f 100000) := by
    rw [Bool.eq_iff_iff]; simp only [rngB_iff, Bool.and_eq_true, inB_iff]; omega
  have Hi := Lib.hid hi; clear hi
  go_enter Tryz.func34, Tryz.ntmps34
  go_wp2_with (go_at_call 80; refine (inL_any _ _ _ _).mono ?_; rintro e w' ⟨rfl, rfl⟩)
  all_goals go_ret
  all_goals refine ⟨?_, rfl⟩
  all_goals (rw [Hi.out]; simp_all)

end Go.Proofs.YtpackpocnonpiaaGreatDoor
