/-
  The library's table of powers of ten, held from world to world; contract of strconv.Itoa in these words. Conditions: the table is as the library's text lays it.
-/
import Derived.Test.YtpackpocnonpiaaGreatDoorDigitsInt
import Derived.Test.YtpackpocnonpiaaGreatDoorShelf
import Derived.WalkSmall
import Derived.Lib.SmallJoins
namespace Go.Proofs.YtpackpocnonpiaaGreatDoor
open Go.ChangeShapes Go.WideShapes Go.ChangeAt Go.RowKit
set_option linter.unusedVariables false

theorem numT_le {n : Int} (h1 : -9223372036854775808 ≤ n) (h2 : n ≤ 9223372036854775807) : (numT n).size ≤ 21 := by
  by_cases hn : 0 ≤ n
  · obtain ⟨u, rfl⟩ := Int.eq_ofNat_of_zero_le hn
    have := numT_size (u := u) (by omega)
    omega
  · by_cases hm : n = -9223372036854775808
    · subst hm; rw [numT_min]; decide
    obtain ⟨u, hu⟩ := Int.eq_ofNat_of_zero_le (show 0 ≤ -n by omega)
    obtain rfl : n = -(u : Int) := by omega
    rw [numT_neg (by omega), ByteArray.size_append]
    have := numT_size (u := u) (by omega)
    have e1 : (⟨#[45]⟩ : ByteArray).size = 1 := rfl
    omega

/-- the library's powers of ten are as they were laid -/
def Pow (w : World) : Prop := Lib.TabIs Tryz.prog w "internal/strconv.uint64pow10" .u64 Lib.pow10Tab

theorem Pow.below {w w' : World} {B : Nat} (h : Pow w) (hb : Below B w w') (hB : w.heap.size ≤ B) : Pow w' := by
  unfold Pow Lib.TabIs at *
  cases hg : Program.globalNamed Tryz.prog "internal/strconv.uint64pow10" with
  | none => simp [World.var?, hg] at h
  | some g => exact Joins.var_stays hg h hb hB

theorem itoa_any (n : Int) (w : World) (h0 : -9223372036854775808 ≤ n) (h1 : n ≤ 9223372036854775807) (ht : Pow w) : Calls Tryz.prog 121 #[.int .i64 n] w fun e w' => e = .returned (.string (numT n)) ∧ Below w.heap.size w w' :=
  (sh_strconv_Itoa n h0 h1 w ht).mono fun e w' ⟨he, k, os, hw⟩ => ⟨he, by
    subst hw
    exact ⟨rfl, rfl, rfl, by simp [Sort.grow, World.drewN], fun i hi => by simp [Sort.grow, World.drewN, Array.getElem?_append_left hi]⟩⟩

end Go.Proofs.YtpackpocnonpiaaGreatDoor
