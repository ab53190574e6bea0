/-
  Contracts of MeanOf of both packages: the quotient rounded down, the rest and the code. Conditions: the six numbers fit an int.
-/
import Derived.Test.YtpackpocnonpiaaGreatDoorAggLaw
namespace Go.Proofs.YtpackpocnonpiaaGreatDoor
open Go.ChangeShapes Go.WideShapes Go.ChangeAt Go.RowKit
set_option linter.unusedVariables false

theorem aggOK_yes (a : GAgg) (h : AggP a) (w : World) : Calls Tryz.prog 204 #[.agg #[.int .i64 a.cnt, .int .i64 a.sum, .int .i64 a.mn, .int .i64 a.mx, .int .i64 a.fst, .int .i64 a.lst]] w fun e w' => e = .returned (.bool true) ∧ Below w.heap.size w w' :=
  (aggOK_any a w).mono fun e w' ⟨b, hb, he, hB⟩ => ⟨by rw [he, hb.2 h], hB⟩

theorem aggOK_no (a : GAgg) (h : ¬ AggP a) (w : World) : Calls Tryz.prog 204 #[.agg #[.int .i64 a.cnt, .int .i64 a.sum, .int .i64 a.mn, .int .i64 a.mx, .int .i64 a.fst, .int .i64 a.lst]] w fun e w' => e = .returned (.bool false) ∧ Below w.heap.size w w' :=
  (aggOK_any a w).mono fun e w' ⟨b, hb, he, hB⟩ => ⟨by rw [he]; cases b; rfl; exact absurd (hb.1 rfl) h, hB⟩

theorem specAggOK_yes (a : GAgg) (h : AggP a) (w : World) : Calls Tryz.prog 194 #[.agg #[.int .i64 a.cnt, .int .i64 a.sum, .int .i64 a.mn, .int .i64 a.mx, .int .i64 a.fst, .int .i64 a.lst]] w fun e w' => e = .returned (.bool true) ∧ Below w.heap.size w w' :=
  (specAggOK_any a w).mono fun e w' ⟨b, hb, he, hB⟩ => ⟨by rw [he, hb.2 h], hB⟩

theorem specAggOK_no (a : GAgg) (h : ¬ AggP a) (w : World) : Calls Tryz.prog 194 #[.agg #[.int .i64 a.cnt, .int .i64 a.sum, .int .i64 a.mn, .int .i64 a.mx, .int .i64 a.fst, .int .i64 a.lst]] w fun e w' => e = .returned (.bool false) ∧ Below w.heap.size w w' :=
  (specAggOK_any a w).mono fun e w' ⟨b, hb, he, hB⟩ => ⟨by rw [he]; cases b; rfl; exact absurd (hb.1 rfl) h, hB⟩

/-- a mean, its rest and the code -/
def MeanR (a : GAgg) (q r c : Int) : Prop := (¬ AggP a ∧ q = 0 ∧ r = 0 ∧ c = 1) ∨ (AggP a ∧ a.cnt = 0 ∧ q = 0 ∧ r = 0 ∧ c = 5) ∨ (AggP a ∧ 1 ≤ a.cnt ∧ a.sum = q * a.cnt + r ∧ 0 ≤ r ∧ r < a.cnt ∧ c = 0)

theorem one' {a : GAgg} {q r c q' r' c' : Int} (h : AggP a ∧ 1 ≤ a.cnt ∧ a.sum = q * a.cnt + r ∧ 0 ≤ r ∧ r < a.cnt ∧ c = 0) (h' : AggP a ∧ 1 ≤ a.cnt ∧ a.sum = q' * a.cnt + r' ∧ 0 ≤ r' ∧ r' < a.cnt ∧ c' = 0) : q = q' ∧ r = r' ∧ c = c' := by
  obtain ⟨_, h1, h2, h3, h4, h5⟩ := h
  obtain ⟨_, _, g2, g3, g4, g5⟩ := h'
  have e1 : a.sum / a.cnt = q := by rw [h2, Int.add_comm, Int.add_mul_ediv_right _ _ (by omega), Int.ediv_eq_zero_of_lt h3 h4]; omega
  have e2 : a.sum / a.cnt = q' := by rw [g2, Int.add_comm, Int.add_mul_ediv_right _ _ (by omega), Int.ediv_eq_zero_of_lt g3 g4]; omega
  have : q = q' := e1.symm.trans e2
  subst this
  omega

theorem MeanR.one {a : GAgg} {q r c q' r' c' : Int} (h : MeanR a q r c) (h' : MeanR a q' r' c') : q = q' ∧ r = r' ∧ c = c' := by
  by_cases hz : 1 ≤ a.cnt ∧ AggP a
  · have h : AggP a ∧ 1 ≤ a.cnt ∧ a.sum = q * a.cnt + r ∧ 0 ≤ r ∧ r < a.cnt ∧ c = 0 := by
      rcases h with h | h | h
      · exact absurd hz.2 h.1
      · omega
      · exact h
    have h' : AggP a ∧ 1 ≤ a.cnt ∧ a.sum = q' * a.cnt + r' ∧ 0 ≤ r' ∧ r' < a.cnt ∧ c' = 0 := by
      rcases h' with h | h | h
      · exact absurd hz.2 h.1
      · omega
      · exact h
    exact one' h h'
  · by_cases hp : AggP a
    · have e : a.cnt = 0 ∧ q = 0 ∧ r = 0 ∧ c = 5 := by
        rcases h with h | h | h
        · exact absurd hp h.1
        · exact h.2
        · exact absurd ⟨h.2.1, hp⟩ hz
      have e' : a.cnt = 0 ∧ q' = 0 ∧ r' = 0 ∧ c' = 5 := by
        rcases h' with h | h | h
        · exact absurd hp h.1
        · exact h.2
        · exact absurd ⟨h.2.1, hp⟩ hz
      omega
    · have e : q = 0 ∧ r = 0 ∧ c = 1 := by
        rcases h with h | h | h
        · exact h.2
        · exact absurd h.1 hp
        · exact absurd h.1 hp
      have e' : q' = 0 ∧ r' = 0 ∧ c' = 1 := by
        rcases h' with h | h | h
        · exact h.2
        · exact absurd h.1 hp
        · exact absurd h.1 hp
      omega

/-- an aggregate that is right has small numbers -/
theorem AggP.small {a : GAgg} (h : AggP a) : 0 ≤ a.cnt ∧ a.cnt ≤ 100000 ∧ -100000000000 ≤ a.sum ∧ a.sum ≤ 100000000000 := by
  rcases h with h | ⟨h1, h2, h3, h4, h5, h6, _, _, _, _, h7, h8⟩
  · rw [h]; simp [zAgg]
  · have := mul_in h1 h2 h3 h4
    have := mul_in h1 h2 h5 h6
    omega

theorem rest_facts {s c : Int} (hc : 1 ≤ c) (hc2 : c ≤ 100000) : -100000 ≤ s.tmod c ∧ s.tmod c ≤ 100000 ∧ (0 ≤ s.tmod c → s.tmod c = s % c) ∧ (s.tmod c < 0 → s.tmod c + c = s % c) ∧ 0 ≤ s % c ∧ s % c < c ∧ (s.tmod c + c).tmod c = s % c := by
  have h1 := Int.emod_nonneg s (b := c) (by omega)
  have h2 := Int.emod_lt_of_pos s (b := c) (by omega)
  have h3 : (s.tmod c) % c = s % c := by rw [Int.tmod_def, Int.sub_emod, Int.mul_comm]; simp
  have h4 : -c < s.tmod c := by have := Int.lt_tmod_of_pos s (b := c) (by omega); omega
  have h5 : s.tmod c < c := Int.tmod_lt_of_pos s (by omega)
  refine ⟨by omega, by omega, fun h => ?_, fun h => ?_, h1, h2, ?_⟩
  · rw [← h3, Int.emod_eq_of_lt h h5]
  · rw [← h3, ← Int.add_emod_right, Int.emod_eq_of_lt (by omega) (by omega)]
  · rw [Int.tmod_eq_emod_of_nonneg (by omega), Int.add_emod_right, h3]

theorem quot_facts {s c : Int} (hc : 1 ≤ c) : s = (s - s % c).tdiv c * c + s % c ∧ (s - s % c).tdiv c = s / c := by
  have h := Int.mul_ediv_add_emod s c
  have e : s - s % c = s / c * c := by rw [Int.mul_comm]; omega
  have e2 : (s - s % c).tdiv c = s / c := by rw [e, Int.mul_tdiv_cancel _ (by omega)]
  refine ⟨?_, e2⟩
  rw [e2, Int.mul_comm]
  omega

theorem mean_of {a : GAgg} {x : Int} (h : AggP a) (h0 : ¬ a.cnt = 0) (hx : x = a.sum % a.cnt) : MeanR a (wrap64 ((wrap64 (a.sum - x)).tdiv a.cnt)) x 0 := by
  have hs := h.small
  obtain ⟨r1, r2, r3, r4, r5, r6, r7⟩ := rest_facts (s := a.sum) (c := a.cnt) (by omega) (by omega)
  obtain ⟨q1, q2⟩ := quot_facts (s := a.sum) (c := a.cnt) (by omega)
  have e1 : wrap64 (a.sum - x) = a.sum - x := by rw [hx]; unfold wrap64; omega
  have hd : -100000000000 ≤ a.sum / a.cnt ∧ a.sum / a.cnt ≤ 100000000000 := by
    constructor
    · exact Int.le_ediv_of_mul_le (by omega) (by omega)
    · exact Int.ediv_le_of_le_mul (by omega) (by omega)
  have e2 : wrap64 ((a.sum - x).tdiv a.cnt) = (a.sum - x).tdiv a.cnt := by rw [hx, q2]; unfold wrap64; omega
  rw [e1, e2, hx]
  exact Or.inr (Or.inr ⟨h, by omega, q1, r5, r6, rfl⟩)

theorem mean_neg {a : GAgg} (h : AggP a) (h0 : ¬ a.cnt = 0) (hn : a.sum.tmod a.cnt < 0) : wrap64 (a.sum.tmod a.cnt + a.cnt) = a.sum % a.cnt := by
  have hs := h.small
  obtain ⟨r1, r2, r3, r4, r5, r6, r7⟩ := rest_facts (s := a.sum) (c := a.cnt) (by omega) (by omega)
  rw [r4 hn]
  unfold wrap64; omega

theorem mean_pos {a : GAgg} (h : AggP a) (h0 : ¬ a.cnt = 0) (hn : 0 ≤ a.sum.tmod a.cnt) : a.sum.tmod a.cnt = a.sum % a.cnt := by
  have hs := h.small
  exact (rest_facts (s := a.sum) (c := a.cnt) (by omega) (by omega)).2.2.1 hn

theorem mean_spec {a : GAgg} (h : AggP a) (h0 : ¬ a.cnt = 0) : (wrap64 (a.sum.tmod a.cnt + a.cnt)).tmod a.cnt = a.sum % a.cnt := by
  have hs := h.small
  obtain ⟨r1, r2, r3, r4, r5, r6, r7⟩ := rest_facts (s := a.sum) (c := a.cnt) (by omega) (by omega)
  have : wrap64 (a.sum.tmod a.cnt + a.cnt) = a.sum.tmod a.cnt + a.cnt := by unfold wrap64; omega
  rw [this, r7]

end Go.Proofs.YtpackpocnonpiaaGreatDoor
