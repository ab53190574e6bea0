/-
  Contract of impl.DataKey. Conditions: the library's table of powers of ten and the program's table of paths are as their texts lay them.
-/
import Derived.Test.YtpackpocnonpiaaDoorKeyM
import Derived.Test.YtpackpocnonpiaaDoorTierA
import Derived.Deep.RegionHeld3
namespace Go.Proofs.YtpackpocnonpiaaDoor
open Go.ChangeShapes Go.WideShapes Go.ChangeAt Go.RowKit
set_option linter.unusedVariables false
set_option linter.unusedSimpArgs false

/-- the program's paths of tiers are as they were laid -/
def Paths (w : World) : Prop := ∀ t, t < 3 → w.cell? ⟨1, t, none⟩ = some (.string (pathT t))

theorem Paths.below {w w' : World} {B : Nat} (h : Paths w) (hb : Below B w w') (hB : 1 < B) : Paths w' := fun t ht => (hb.cell (p := ⟨1, t, none⟩) hB).trans (h t ht)

theorem within_b (n lo hi : Int) (b : Bool) (h : inB n lo hi = b) (w : World) : Calls Tryd.prog 29 #[.int .i64 n, .int .i64 lo, .int .i64 hi] w fun e w' => e = .returned (.bool b) ∧ w = w' :=
  (within_any n lo hi w).mono fun e w' ⟨he, hB⟩ => ⟨by rw [he, h], hB⟩

end Go.Proofs.YtpackpocnonpiaaDoor
