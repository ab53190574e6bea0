/-
  Contract of the model's l00Digits over all ints. Conditions: the number fits an int.
-/
import Derived.Test.YtpackpocnonpiaaGreatDoorDigits
namespace Go.Proofs.YtpackpocnonpiaaGreatDoor
open Go.ChangeShapes Go.WideShapes Go.ChangeAt Go.RowKit
set_option linter.unusedVariables false

theorem numT_min : numT (-9223372036854775808) = ⟨#[45, 57, 50, 50, 51, 51, 55, 50, 48, 51, 54, 56, 53, 52, 55, 55, 53, 56, 48, 56]⟩ := by
  unfold numT Lib.itoa
  rw [if_pos (by omega), show (-9223372036854775808 : Int).natAbs = 9223372036854775808 from rfl]
  rw [Lib.decDigits.eq_1, dif_neg (by omega), Lib.decDigits.eq_1, dif_neg (by omega), Lib.decDigits.eq_1, dif_neg (by omega), Lib.decDigits.eq_1, dif_neg (by omega), Lib.decDigits.eq_1, dif_neg (by omega), Lib.decDigits.eq_1, dif_neg (by omega), Lib.decDigits.eq_1, dif_neg (by omega), Lib.decDigits.eq_1, dif_neg (by omega), Lib.decDigits.eq_1, dif_neg (by omega), Lib.decDigits.eq_1, dif_neg (by omega), Lib.decDigits.eq_1, dif_neg (by omega), Lib.decDigits.eq_1, dif_neg (by omega), Lib.decDigits.eq_1, dif_neg (by omega), Lib.decDigits.eq_1, dif_neg (by omega), Lib.decDigits.eq_1, dif_neg (by omega), Lib.decDigits.eq_1, dif_neg (by omega), Lib.decDigits.eq_1, dif_neg (by omega), Lib.decDigits.eq_1, dif_neg (by omega), Lib.decDigits_one (by omega)]
  rfl

set_option maxRecDepth 100000 in
theorem digits_int (n : Int) (w : World) (h1 : -9223372036854775808 ≤ n) (h2 : n ≤ 9223372036854775807) : Calls Tryz.prog 178 #[.int .i64 n] w fun e w' => e = .returned (.string (numT n)) ∧ Below w.heap.size w w' := by
  by_cases hn : 0 ≤ n
  · obtain ⟨u, rfl⟩ := Int.eq_ofNat_of_zero_le hn
    exact digits_nat u u w (Nat.le_refl _) (by omega)
  by_cases hm : n = -9223372036854775808
  · subst hm
    have e := Lib.hid numT_min
    go_enter Tryz.func178, Tryz.ntmps178
    go_wp2_with fail
    go_ret
    exact ⟨by rw [e.out]; rfl, Below.refl _ _⟩
  · obtain ⟨u, hu⟩ := Int.eq_ofNat_of_zero_le (show 0 ≤ -n by omega)
    obtain rfl : n = -(u : Int) := by omega
    have d0 : (-(u : Int) == -9223372036854775808) = false := by simp only [beq_eq_false_iff_ne, ne_eq]; omega
    have d1 : decide (-(u : Int) < 0) = true := by simp; omega
    have wn : IntKind.i64.wrap (u : Int) = (u : Int) := by rw [IntKind.wrap_i64]; omega
    have nn : - -(u : Int) = (u : Int) := by omega
    have e := Lib.hid (numT_neg (u := u) (by omega))
    have IH := Lib.hid (fun w => digits_nat u u w (Nat.le_refl _) (by omega))
    have hsz : (numT (u : Int)).size ≤ 20 := numT_size (by omega)
    have hsz2 : ¬ 9223372036854775807 < 1 + (numT (u : Int)).size := by omega
    generalize numT (u : Int) = T at *
    go_enter Tryz.func178, Tryz.ntmps178
    go_wp2_with fail
    refine (IH.out _).mono ?_
    rintro e w1 ⟨rfl, hb1⟩
    go_wp2_with fail
    go_ret
    exact ⟨by rw [e.out]; rfl, hb1⟩

end Go.Proofs.YtpackpocnonpiaaGreatDoor
