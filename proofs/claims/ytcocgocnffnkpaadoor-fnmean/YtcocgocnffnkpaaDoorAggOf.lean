/-
  Contracts of AggOf of both packages: the aggregate of samples, and the code. Conditions: none beside a length's own bound.
-/
import Derived.Test.YtcocgocnffnkpaaDoorSamImpl
import Derived.Test.YtcocgocnffnkpaaDoorMergeAgg
import Derived.Test.YtcocgocnffnkpaaDoorAggSt
namespace Go.Proofs.YtcocgocnffnkpaaDoor
open Go.ChangeShapes Go.WideShapes Go.ChangeAt Go.RowKit
set_option linter.unusedVariables false

/-- the aggregate of one value -/
def one (s : GSam) : GAgg := ⟨1, s.v, s.v, s.v, s.v, s.v⟩

/-- the aggregate of samples -/
def gOf (xs : List GSam) : GAgg := (xs.map one).foldl gMerge zAgg

/-- it, and the code -/
def AggOfR (xs : List GSam) (r : GAgg) (c : Int) : Prop := (4096 < xs.length ∧ r = zAgg ∧ c = 2) ∨ (xs.length ≤ 4096 ∧ ¬ SamP xs ∧ r = zAgg ∧ c = 1) ∨ (SamP xs ∧ r = gOf xs ∧ c = 0)

theorem AggOfR.one {xs : List GSam} {r r' : GAgg} {c c' : Int} (h : AggOfR xs r c) (h' : AggOfR xs r' c') : r = r' ∧ c = c' := by
  by_cases hl : 4096 < xs.length
  · have e : r = zAgg ∧ c = 2 := by
      rcases h with h | h | h
      · exact h.2
      · exact absurd hl (by omega)
      · have := h.1.1; omega
    have e' : r' = zAgg ∧ c' = 2 := by
      rcases h' with h | h | h
      · exact h.2
      · exact absurd hl (by omega)
      · have := h.1.1; omega
    exact ⟨e.1.trans e'.1.symm, e.2.trans e'.2.symm⟩
  · by_cases hp : SamP xs
    · have e : r = gOf xs ∧ c = 0 := by
        rcases h with h | h | h
        · exact absurd h.1 hl
        · exact absurd hp h.2.1
        · exact h.2
      have e' : r' = gOf xs ∧ c' = 0 := by
        rcases h' with h | h | h
        · exact absurd h.1 hl
        · exact absurd hp h.2.1
        · exact h.2
      exact ⟨e.1.trans e'.1.symm, e.2.trans e'.2.symm⟩
    · have e : r = zAgg ∧ c = 1 := by
        rcases h with h | h | h
        · exact absurd h.1 hl
        · exact h.2.2
        · exact absurd h.1 hp
      have e' : r' = zAgg ∧ c' = 1 := by
        rcases h' with h | h | h
        · exact absurd h.1 hl
        · exact h.2.2
        · exact absurd h.1 hp
      exact ⟨e.1.trans e'.1.symm, e.2.trans e'.2.symm⟩

theorem AggP.of_one {s : GSam} (h : samB s = true) : AggP (one s) := by
  rw [samB_iff] at h
  exact Or.inr ⟨by simp [one], by simp [one], by simp only [one]; omega, by simp only [one]; omega, by simp only [one]; omega, by simp only [one]; omega, by simp [one], by simp [one], by simp [one], by simp [one], by simp [one], by simp [one]⟩

theorem mergeAll_ones : ∀ (l : List GAgg) (acc : GAgg), (∀ x ∈ l, x.cnt = 1) → acc.cnt + l.length ≤ 100000 → mergeAll acc l = (l.foldl gMerge acc, 0)
  | [], acc, _, _ => rfl
  | x :: l, acc, h1, h2 => by
    have hx := h1 x (by simp)
    simp only [List.length_cons] at h2
    have hc : (gMerge acc x).cnt = acc.cnt + 1 := by rw [gMerge_cnt, hx]
    unfold mergeAll
    rw [if_neg (by omega), List.foldl_cons]
    exact mergeAll_ones l _ (fun y hy => h1 y (by simp [hy])) (by omega)

theorem mergeAll_of {xs : List GSam} (h : xs.length ≤ 4096) : mergeAll zAgg (xs.map one) = (gOf xs, 0) :=
  mergeAll_ones _ _ (fun x hx => by obtain ⟨s, _, rfl⟩ := List.mem_map.1 hx; rfl) (by simp [zAgg]; omega)

theorem infoAgg : (Tryd.prog.info? 24).map (fun i => (i.zero, i.size, i.bytes)) = some (some (.agg #[.int .i64 0, .int .i64 0, .int .i64 0, .int .i64 0, .int .i64 0, .int .i64 0]), 6, 48) := by kernel_rfl

def zeroAggs (n : Nat) : Obj := .cells (madeCells #[.int .i64 0, .int .i64 0, .int .i64 0, .int .i64 0, .int .i64 0, .int .i64 0] (n * 6)) 24

theorem zeroAggs_sl (n : Nat) (w : World) : AggsAt (w.alloc (zeroAggs n)) (w.heap.size + 1) (some ⟨w.heap.size, 0, none⟩) (List.replicate n zAgg) :=
  made_sl GAgg.vals zAgg 6 n 24 w _ rfl rfl

end Go.Proofs.YtcocgocnffnkpaaDoor
