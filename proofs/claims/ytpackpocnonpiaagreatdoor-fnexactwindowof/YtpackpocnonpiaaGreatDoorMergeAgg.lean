/-
  Contracts of MergeAgg of both packages: the aggregate of both, and the code. No conditions.
-/
import Derived.Test.YtpackpocnonpiaaGreatDoorMergeLoop
namespace Go.Proofs.YtpackpocnonpiaaGreatDoor
open Go.ChangeShapes Go.WideShapes Go.ChangeAt Go.RowKit
set_option linter.unusedVariables false

/-- both together, and the code -/
def MergeR (a b r : GAgg) (c : Int) : Prop := (¬ (AggP a ∧ AggP b) ∧ r = zAgg ∧ c = 1) ∨ (AggP a ∧ AggP b ∧ 100000 < a.cnt + b.cnt ∧ r = zAgg ∧ c = 6) ∨ (AggP a ∧ AggP b ∧ a.cnt + b.cnt ≤ 100000 ∧ r = gMerge a b ∧ c = 0)

theorem MergeR.one {a b r r' : GAgg} {c c' : Int} (h : MergeR a b r c) (h' : MergeR a b r' c') : r = r' ∧ c = c' := by
  by_cases hp : AggP a ∧ AggP b
  · by_cases hc : 100000 < a.cnt + b.cnt
    · have e : r = zAgg ∧ c = 6 := by
        rcases h with h | h | h
        · exact absurd hp h.1
        · exact h.2.2.2
        · exact absurd hc (by omega)
      have e' : r' = zAgg ∧ c' = 6 := by
        rcases h' with h | h | h
        · exact absurd hp h.1
        · exact h.2.2.2
        · exact absurd hc (by omega)
      exact ⟨e.1.trans e'.1.symm, e.2.trans e'.2.symm⟩
    · have e : r = gMerge a b ∧ c = 0 := by
        rcases h with h | h | h
        · exact absurd hp h.1
        · exact absurd h.2.2.1 hc
        · exact h.2.2.2
      have e' : r' = gMerge a b ∧ c' = 0 := by
        rcases h' with h | h | h
        · exact absurd hp h.1
        · exact absurd h.2.2.1 hc
        · exact h.2.2.2
      exact ⟨e.1.trans e'.1.symm, e.2.trans e'.2.symm⟩
  · have e : r = zAgg ∧ c = 1 := by
      rcases h with h | h | h
      · exact h.2
      · exact absurd ⟨h.1, h.2.1⟩ hp
      · exact absurd ⟨h.1, h.2.1⟩ hp
    have e' : r' = zAgg ∧ c' = 1 := by
      rcases h' with h | h | h
      · exact h.2
      · exact absurd ⟨h.1, h.2.1⟩ hp
      · exact absurd ⟨h.1, h.2.1⟩ hp
    exact ⟨e.1.trans e'.1.symm, e.2.trans e'.2.symm⟩

theorem gMerge_z (a : GAgg) : gMerge zAgg a = a := by simp [gMerge, zAgg]

theorem gMerge_cnt {a b : GAgg} : (gMerge a b).cnt = a.cnt + b.cnt := by
  unfold gMerge
  split
  · omega
  · split
    · omega
    · rfl

theorem mergeAll_two {a b : GAgg} (ha : AggP a) (hb : AggP b) : MergeR a b (mergeAll zAgg [a, b]).1 (mergeAll zAgg [a, b]).2 := by
  have s := ha.small
  have e : mergeAll zAgg [a, b] = if 100000 < a.cnt + b.cnt then (zAgg, 6) else (gMerge a b, 0) := by
    unfold mergeAll
    rw [gMerge_z, if_neg (by omega)]
    unfold mergeAll
    rw [gMerge_cnt]
    rfl
  rw [e]
  by_cases h : 100000 < a.cnt + b.cnt
  · rw [if_pos h]; exact Or.inr (Or.inl ⟨ha, hb, h, rfl, rfl⟩)
  · rw [if_neg h]; exact Or.inr (Or.inr ⟨ha, hb, by omega, rfl, rfl⟩)

theorem two_aggs (w : World) (a b : GAgg) (e : TypeId) : AggsAt (w.alloc (.cells #[.int .i64 a.cnt, .int .i64 a.sum, .int .i64 a.mn, .int .i64 a.mx, .int .i64 a.fst, .int .i64 a.lst, .int .i64 b.cnt, .int .i64 b.sum, .int .i64 b.mn, .int .i64 b.mx, .int .i64 b.fst, .int .i64 b.lst] e)) (w.heap.size + 1) (some ⟨w.heap.size, 0, none⟩) [a, b] := by
  intro _
  refine ⟨w.heap.size, 0, rfl, by omega, fun k hk j v hv => ?_⟩
  rw [World.cell?_alloc_new]
  match k, hk with
  | 0, _ =>
    match j with
    | 0 | 1 | 2 | 3 | 4 | 5 => simpa [GAgg.vals] using hv
    | j + 6 => simp [GAgg.vals] at hv
  | 1, _ =>
    match j with
    | 0 | 1 | 2 | 3 | 4 | 5 => simpa [GAgg.vals] using hv
    | j + 6 => simp [GAgg.vals] at hv

end Go.Proofs.YtpackpocnonpiaaGreatDoor
