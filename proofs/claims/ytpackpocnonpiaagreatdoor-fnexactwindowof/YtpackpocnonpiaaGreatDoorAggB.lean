/-
  The answers of AggOK of both packages and of l01In, by a bool that is known ahead. No conditions.
-/
import Derived.Test.YtpackpocnonpiaaGreatDoorAggOK
namespace Go.Proofs.YtpackpocnonpiaaGreatDoor
open Go.ChangeShapes Go.WideShapes Go.ChangeAt Go.RowKit
set_option linter.unusedVariables false

theorem inL_b (n lo hi : Int) (b : Bool) (h : inB n lo hi = b) (w : World) : Calls Tryz.prog 80 #[.int .i64 n, .int .i64 lo, .int .i64 hi] w fun e w' => e = .returned (.bool b) ∧ w = w' :=
  (inL_any n lo hi w).mono fun e w' ⟨he, hB⟩ => ⟨by rw [he, h], hB⟩

theorem specAggOK_b (a : GAgg) (b : Bool) (h : b = true ↔ AggP a) (w : World) : Calls Tryz.prog 194 #[.agg #[.int .i64 a.cnt, .int .i64 a.sum, .int .i64 a.mn, .int .i64 a.mx, .int .i64 a.fst, .int .i64 a.lst]] w fun e w' => e = .returned (.bool b) ∧ Below w.heap.size w w' :=
  (specAggOK_any a w).mono fun e w' ⟨b', hb', he, hB⟩ => ⟨by rw [he, Bool.eq_iff_iff.2 (hb'.trans h.symm)], hB⟩

theorem aggOK_b (a : GAgg) (b : Bool) (h : b = true ↔ AggP a) (w : World) : Calls Tryz.prog 204 #[.agg #[.int .i64 a.cnt, .int .i64 a.sum, .int .i64 a.mn, .int .i64 a.mx, .int .i64 a.fst, .int .i64 a.lst]] w fun e w' => e = .returned (.bool b) ∧ Below w.heap.size w w' :=
  (aggOK_any a w).mono fun e w' ⟨b', hb', he, hB⟩ => ⟨by rw [he, Bool.eq_iff_iff.2 (hb'.trans h.symm)], hB⟩

end Go.Proofs.YtpackpocnonpiaaGreatDoor
