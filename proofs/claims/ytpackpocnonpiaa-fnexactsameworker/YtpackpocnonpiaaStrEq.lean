/-
  Two records, two aggregates, held against each other: the answer of the comparison of structs. No conditions.
-/
import Derived.Test.YtpackpocnonpiaaRecs
import Derived.Test.YtpackpocnonpiaaAggLaw
import Derived.Laws.StructEq
import Derived.ChangeKeysEq
namespace Go.Proofs.Ytpackpocnonpiaa
open Go.ChangeShapes Go.WideShapes Go.ChangeAt Go.RowKit Go.Deep Go.Joins
set_option linter.unusedVariables false
set_option linter.unusedSimpArgs false

/-- which of two records' fields is the first to differ -/
theorem rec_cases (o p : GRec) : (o = p) ∨ (o ≠ p ∧ (o.kind == p.kind) = false) ∨ (o ≠ p ∧ (o.kind == p.kind) = true ∧ (o.tok == p.tok) = false) ∨ (o ≠ p ∧ (o.kind == p.kind) = true ∧ (o.tok == p.tok) = true ∧ (o.tier == p.tier) = false) ∨
    (o ≠ p ∧ (o.kind == p.kind) = true ∧ (o.tok == p.tok) = true ∧ (o.tier == p.tier) = true ∧ (o.beg == p.beg) = false) ∨ (o ≠ p ∧ (o.kind == p.kind) = true ∧ (o.tok == p.tok) = true ∧ (o.tier == p.tier) = true ∧ (o.beg == p.beg) = true ∧ (o.fin == p.fin) = false) ∨
    (o ≠ p ∧ (o.kind == p.kind) = true ∧ (o.tok == p.tok) = true ∧ (o.tier == p.tier) = true ∧ (o.beg == p.beg) = true ∧ (o.fin == p.fin) = true ∧ (o.key.toList == p.key.toList) = false) := by
  by_cases h0 : o.kind = p.kind
  rotate_left
  · exact .inr (.inl ⟨fun e => h0 (by rw [e]), by simpa using h0⟩)
  by_cases h1 : o.tok = p.tok
  rotate_left
  · exact .inr (.inr (.inl ⟨fun e => h1 (by rw [e]), by simpa using h0, by simpa using h1⟩))
  by_cases h2 : o.tier = p.tier
  rotate_left
  · exact .inr (.inr (.inr (.inl ⟨fun e => h2 (by rw [e]), by simpa using h0, by simpa using h1, by simpa using h2⟩)))
  by_cases h3 : o.beg = p.beg
  rotate_left
  · exact .inr (.inr (.inr (.inr (.inl ⟨fun e => h3 (by rw [e]), by simpa using h0, by simpa using h1, by simpa using h2, by simpa using h3⟩))))
  by_cases h4 : o.fin = p.fin
  rotate_left
  · exact .inr (.inr (.inr (.inr (.inr (.inl ⟨fun e => h4 (by rw [e]), by simpa using h0, by simpa using h1, by simpa using h2, by simpa using h3, by simpa using h4⟩)))))
  by_cases h5 : o.key = p.key
  rotate_left
  · exact .inr (.inr (.inr (.inr (.inr (.inr ⟨fun e => h5 (by rw [e]), by simpa using h0, by simpa using h1, by simpa using h2, by simpa using h3, by simpa using h4, ne_list h5⟩)))))
  exact .inl (by cases o; cases p; simp at h0 h1 h2 h3 h4 h5; simp [h0, h1, h2, h3, h4, h5])

theorem agg_cases (o p : GAgg) : (o = p) ∨ (o ≠ p ∧ (o.cnt == p.cnt) = false) ∨ (o ≠ p ∧ (o.cnt == p.cnt) = true ∧ (o.sum == p.sum) = false) ∨ (o ≠ p ∧ (o.cnt == p.cnt) = true ∧ (o.sum == p.sum) = true ∧ (o.mn == p.mn) = false) ∨
    (o ≠ p ∧ (o.cnt == p.cnt) = true ∧ (o.sum == p.sum) = true ∧ (o.mn == p.mn) = true ∧ (o.mx == p.mx) = false) ∨ (o ≠ p ∧ (o.cnt == p.cnt) = true ∧ (o.sum == p.sum) = true ∧ (o.mn == p.mn) = true ∧ (o.mx == p.mx) = true ∧ (o.fst == p.fst) = false) ∨
    (o ≠ p ∧ (o.cnt == p.cnt) = true ∧ (o.sum == p.sum) = true ∧ (o.mn == p.mn) = true ∧ (o.mx == p.mx) = true ∧ (o.fst == p.fst) = true ∧ (o.lst == p.lst) = false) := by
  by_cases h0 : o.cnt = p.cnt
  rotate_left
  · exact .inr (.inl ⟨fun e => h0 (by rw [e]), by simpa using h0⟩)
  by_cases h1 : o.sum = p.sum
  rotate_left
  · exact .inr (.inr (.inl ⟨fun e => h1 (by rw [e]), by simpa using h0, by simpa using h1⟩))
  by_cases h2 : o.mn = p.mn
  rotate_left
  · exact .inr (.inr (.inr (.inl ⟨fun e => h2 (by rw [e]), by simpa using h0, by simpa using h1, by simpa using h2⟩)))
  by_cases h3 : o.mx = p.mx
  rotate_left
  · exact .inr (.inr (.inr (.inr (.inl ⟨fun e => h3 (by rw [e]), by simpa using h0, by simpa using h1, by simpa using h2, by simpa using h3⟩))))
  by_cases h4 : o.fst = p.fst
  rotate_left
  · exact .inr (.inr (.inr (.inr (.inr (.inl ⟨fun e => h4 (by rw [e]), by simpa using h0, by simpa using h1, by simpa using h2, by simpa using h3, by simpa using h4⟩)))))
  by_cases h5 : o.lst = p.lst
  rotate_left
  · exact .inr (.inr (.inr (.inr (.inr (.inr ⟨fun e => h5 (by rw [e]), by simpa using h0, by simpa using h1, by simpa using h2, by simpa using h3, by simpa using h4, by simpa using h5⟩)))))
  exact .inl (by cases o; cases p; simp at h0 h1 h2 h3 h4 h5; simp [h0, h1, h2, h3, h4, h5])

theorem eqRecV (a b : GRec) (r : Bool) (hr : decide (a = b) = r) (w : World) : (Op.equalIn 10000 23 (.agg #[.int .i64 a.kind, .int .i64 a.tok, .int .i64 a.tier, .int .i64 a.beg, .int .i64 a.fin, .string a.key]) (.agg #[.int .i64 b.kind, .int .i64 b.tok, .int .i64 b.tier, .int .i64 b.beg, .int .i64 b.fin, .string b.key])).run Try.prog w = .ok r w := by
  subst hr
  rcases rec_cases a b with rfl | ⟨hn, g0⟩ | ⟨hn, g0, g1⟩ | ⟨hn, g0, g1, g2⟩ | ⟨hn, g0, g1, g2, g3⟩ | ⟨hn, g0, g1, g2, g3, g4⟩ | ⟨hn, g0, g1, g2, g3, g4, g5⟩ <;> simp [go_sem, *]

theorem eqAggV (a b : GAgg) (r : Bool) (hr : decide (a = b) = r) (w : World) : (Op.equalIn 10000 26 (.agg #[.int .i64 a.cnt, .int .i64 a.sum, .int .i64 a.mn, .int .i64 a.mx, .int .i64 a.fst, .int .i64 a.lst]) (.agg #[.int .i64 b.cnt, .int .i64 b.sum, .int .i64 b.mn, .int .i64 b.mx, .int .i64 b.fst, .int .i64 b.lst])).run Try.prog w = .ok r w := by
  subst hr
  rcases agg_cases a b with rfl | ⟨hn, g0⟩ | ⟨hn, g0, g1⟩ | ⟨hn, g0, g1, g2⟩ | ⟨hn, g0, g1, g2, g3⟩ | ⟨hn, g0, g1, g2, g3, g4⟩ | ⟨hn, g0, g1, g2, g3, g4, g5⟩ <;> simp [go_sem, *]

end Go.Proofs.Ytpackpocnonpiaa
