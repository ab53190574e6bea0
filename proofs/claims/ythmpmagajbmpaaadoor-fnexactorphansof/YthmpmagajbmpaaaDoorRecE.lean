/-
  What a right entry and a right record are; contracts of what asks whether one is right, in both packages. Conditions: the program's table of paths is as its text lays it; a text's length.
-/
import Derived.Test.YthmpmagajbmpaaaDoorRecI
import Derived.Deep.DeepCutAuto
namespace Go.Proofs.YthmpmagajbmpaaaDoor
open Go.ChangeShapes Go.WideShapes Go.ChangeAt Go.RowKit Go.Deep Go.Joins
set_option linter.unusedVariables false
set_option linter.unusedSimpArgs false

/-- what a kind that has no use for them leaves at zero -/
def plB (ti bg fi : Int) : Bool := (ti == 0) && ((bg == 0) && (fi == 0))

theorem plB_iff (ti bg fi : Int) : plB ti bg fi = true ↔ ti = 0 ∧ bg = 0 ∧ fi = 0 := by simp [plB]

theorem ent_pos {e : GEnt} : EntP e ∧ 0 ≤ e.tier ↔ EntP e := ⟨fun h => h.1, fun h => ⟨h, h.tier.1⟩⟩

theorem ent_pos1 {e : GEnt} : EntP e ∧ 1 ≤ e.tier ↔ EntP e ∧ e.tier ≠ 0 := ⟨fun h => ⟨h.1, by omega⟩, fun h => ⟨h.1, by have := h.1.tier; omega⟩⟩

theorem toKey_b (key : ByteArray) (w : World) (hk : key.size ≤ 1048576) : Calls Tryd.prog 66 #[.string key] w fun e w' => ∃ t n m b, e = .returned (.tuple #[.int .i64 t, .int .i64 n, .int .i64 m, .bool b]) ∧ (b = true ↔ AnyKey key) ∧ Below w.heap.size w w' :=
  (toKey_any key w hk).mono fun e w' ⟨t, n, m, b, he, hK, hB⟩ => ⟨t, n, m, b, he, by
    rcases hK with ⟨rfl, h⟩ | ⟨rfl, _, _, _, h⟩
    · simp only [true_iff]; exact ⟨t, n, m, h⟩
    · simp only [Bool.false_eq_true, false_iff]; exact fun ⟨t, n, m, h'⟩ => h t n m h', hB⟩

end Go.Proofs.YthmpmagajbmpaaaDoor
