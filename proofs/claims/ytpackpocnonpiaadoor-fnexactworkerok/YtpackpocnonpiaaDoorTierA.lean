/-
  Contracts of WidthOf, KeepOf and AlignDown of both packages: what each answers at every tier and time. Conditions: the program's tables of widths and keeps hold what its text lays there.
-/
import Derived.Test.YtpackpocnonpiaaDoorAgg
import Derived.Lib.Hide
namespace Go.Proofs.YtpackpocnonpiaaDoor
open Go.ChangeShapes Go.WideShapes Go.ChangeAt Go.RowKit
set_option linter.unusedVariables false

/-- a tier's width -/
def wid (k : Nat) : Int := ([1, 5, 20] : List Int).getD k 0

/-- how long a tier is kept -/
def kep (k : Nat) : Int := ([40, 100, 400] : List Int).getD k 0

/-- a table of three numbers lies in a variable -/
def Tab3 (g : Nat) (f : Nat → Int) (w : World) : Prop := ∀ i, i < 3 → w.cell? ⟨g, i, none⟩ = some (.int .i64 (f i))

theorem Tab3.below {g : Nat} {f : Nat → Int} {w w' : World} (h : Tab3 g f w) (hb : Below w.heap.size w w') (hz : g < w.heap.size) : Tab3 g f w' := fun i hi => (hb.cell (p := ⟨g, i, none⟩) hz).trans (h i hi)

theorem three {k : Nat} (h : k < 3) : k = 0 ∨ k = 1 ∨ k = 2 := by omega

theorem inB_tier {k : Nat} (h : k < 3) : inB (k : Int) 0 2 = true := inB_iff.2 ⟨by omega, by omega⟩

theorem inB_no {n lo hi : Int} (h : ¬ (lo ≤ n ∧ n ≤ hi)) : inB n lo hi = false := by
  cases e : inB n lo hi
  · rfl
  · exact absurd (inB_iff.1 e) h

/-- where a time's window begins -/
def alg (t : Int) (k : Nat) : Int := t - t % wid k

theorem wid_pos {k : Nat} (hk : k < 3) : 1 ≤ wid k ∧ wid k ≤ 20 := by
  rcases three hk with rfl | rfl | rfl <;> decide

theorem alg_ok {t : Int} {k : Nat} (hk : k < 3) (h0 : 0 ≤ t) (h1 : t ≤ 100000) : t.tmod (wid k) = t % wid k ∧ 0 ≤ t % wid k ∧ t % wid k < wid k ∧ t % wid k ≤ t := by
  have hw := wid_pos hk
  refine ⟨Int.tmod_eq_emod_of_nonneg h0, Int.emod_nonneg _ (by omega), Int.emod_lt_of_pos _ (by omega), ?_⟩
  have h2 := Int.emod_add_mul_ediv t (wid k)
  have h3 : 0 ≤ wid k * (t / wid k) := Int.mul_nonneg (by omega) (Int.ediv_nonneg h0 (by omega))
  omega

/-- a tier, and where it lies -/
theorem tier_cases (n : Int) : (∃ k : Nat, k < 3 ∧ n = (k : Int)) ∨ ¬ (0 ≤ n ∧ n ≤ 2) := by
  by_cases h : 0 ≤ n ∧ n ≤ 2
  · exact Or.inl ⟨n.toNat, by omega, by omega⟩
  · exact Or.inr h

end Go.Proofs.YtpackpocnonpiaaDoor
