/-
  Contract of merge: aggregates put together in order. Conditions: those that are handed to it are right.
-/
import Derived.Test.YtcocgocnffnkpaaDoorMergeAll
namespace Go.Proofs.YtcocgocnffnkpaaDoor
open Go.ChangeShapes Go.WideShapes Go.ChangeAt Go.RowKit
set_option linter.unusedVariables false

theorem aggP_z : AggP zAgg := Or.inl rfl

theorem l02Merge_m (a b : GAgg) (ha : a.small) (hb : b.small) (w : World) : Calls Tryd.prog 89 #[.agg #[.int .i64 a.cnt, .int .i64 a.sum, .int .i64 a.mn, .int .i64 a.mx, .int .i64 a.fst, .int .i64 a.lst], .agg #[.int .i64 b.cnt, .int .i64 b.sum, .int .i64 b.mn, .int .i64 b.mx, .int .i64 b.fst, .int .i64 b.lst]] w fun e w' => ∃ m, e = .returned (.agg #[.int .i64 m.cnt, .int .i64 m.sum, .int .i64 m.mn, .int .i64 m.mx, .int .i64 m.fst, .int .i64 m.lst]) ∧ m = gMerge a b ∧ Below w.heap.size w w' :=
  (l02Merge_any a b ha hb w).mono fun e w' ⟨he, hB⟩ => ⟨gMerge a b, he, rfl, hB⟩

end Go.Proofs.YtcocgocnffnkpaaDoor
