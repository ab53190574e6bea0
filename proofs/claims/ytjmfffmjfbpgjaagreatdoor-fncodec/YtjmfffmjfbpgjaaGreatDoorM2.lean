/-
  Several texts as one: contracts that the law leans on; each part says what it proves and its conditions.
-/
import Derived.Test.YtjmfffmjfbpgjaaGreatDoorAggLaw
import Derived.Laws.ComplexArith
import Derived.Deep.RegionHeld3
import Derived.Deep.RegionWith
import Derived.Test.YtjmfffmjfbpgjaaGreatDoorSetAgg

/- Contracts of MeanOf of both packages: the quotient rounded down, the rest and the code. Conditions: the six numbers fit an int. -/
namespace Go.Proofs.YtjmfffmjfbpgjaaGreatDoor
open Go.ChangeShapes Go.WideShapes Go.ChangeAt Go.RowKit
set_option linter.unusedVariables false

theorem aggOK_yes (a : GAgg) (h : AggP a) (w : World) : Calls Tryz.prog 70 #[.agg #[.int .i64 a.cnt, .int .i64 a.sum, .int .i64 a.mn, .int .i64 a.mx, .int .i64 a.fst, .int .i64 a.lst]] w fun e w' => e = .returned (.bool true) ∧ Below w.heap.size w w' :=
  (aggOK_any a w).mono fun e w' ⟨b, hb, he, hB⟩ => ⟨by rw [he, hb.2 h], hB⟩

theorem aggOK_no (a : GAgg) (h : ¬ AggP a) (w : World) : Calls Tryz.prog 70 #[.agg #[.int .i64 a.cnt, .int .i64 a.sum, .int .i64 a.mn, .int .i64 a.mx, .int .i64 a.fst, .int .i64 a.lst]] w fun e w' => e = .returned (.bool false) ∧ Below w.heap.size w w' :=
  (aggOK_any a w).mono fun e w' ⟨b, hb, he, hB⟩ => ⟨by rw [he]; cases b; rfl; exact absurd (hb.1 rfl) h, hB⟩

theorem specAggOK_yes (a : GAgg) (h : AggP a) (w : World) : Calls Tryz.prog 123 #[.agg #[.int .i64 a.cnt, .int .i64 a.sum, .int .i64 a.mn, .int .i64 a.mx, .int .i64 a.fst, .int .i64 a.lst]] w fun e w' => e = .returned (.bool true) ∧ Below w.heap.size w w' :=
  (specAggOK_any a w).mono fun e w' ⟨b, hb, he, hB⟩ => ⟨by rw [he, hb.2 h], hB⟩

theorem specAggOK_no (a : GAgg) (h : ¬ AggP a) (w : World) : Calls Tryz.prog 123 #[.agg #[.int .i64 a.cnt, .int .i64 a.sum, .int .i64 a.mn, .int .i64 a.mx, .int .i64 a.fst, .int .i64 a.lst]] w fun e w' => e = .returned (.bool false) ∧ Below w.heap.size w w' :=
  (specAggOK_any a w).mono fun e w' ⟨b, hb, he, hB⟩ => ⟨by rw [he]; cases b; rfl; exact absurd (hb.1 rfl) h, hB⟩

/-- a mean, its rest and the code -/
def MeanR (a : GAgg) (q r c : Int) : Prop := (¬ AggP a ∧ q = 0 ∧ r = 0 ∧ c = 1) ∨ (AggP a ∧ a.cnt = 0 ∧ q = 0 ∧ r = 0 ∧ c = 5) ∨ (AggP a ∧ 1 ≤ a.cnt ∧ a.sum = q * a.cnt + r ∧ 0 ≤ r ∧ r < a.cnt ∧ c = 0)

theorem one' {a : GAgg} {q r c q' r' c' : Int} (h : AggP a ∧ 1 ≤ a.cnt ∧ a.sum = q * a.cnt + r ∧ 0 ≤ r ∧ r < a.cnt ∧ c = 0) (h' : AggP a ∧ 1 ≤ a.cnt ∧ a.sum = q' * a.cnt + r' ∧ 0 ≤ r' ∧ r' < a.cnt ∧ c' = 0) : q = q' ∧ r = r' ∧ c = c' := by
  obtain ⟨_, h1, h2, h3, h4, h5⟩ := h
  obtain ⟨_, _, g2, g3, g4, g5⟩ := h'
  have e1 : a.sum / a.cnt = q := by rw [h2, Int.add_comm, Int.add_mul_ediv_right _ _ (by omega), Int.ediv_eq_zero_of_lt h3 h4]; omega
  have e2 : a.sum / a.cnt = q' := by rw [g2, Int.add_comm, Int.add_mul_ediv_right _ _ (by omega), Int.ediv_eq_zero_of_lt g3 g4]; omega
  have : q = q' := e1.symm.trans e2
  subst this
  omega

theorem MeanR.one {a : GAgg} {q r c q' r' c' : Int} (h : MeanR a q r c) (h' : MeanR a q' r' c') : q = q' ∧ r = r' ∧ c = c' := by
  by_cases hz : 1 ≤ a.cnt ∧ AggP a
  · have h : AggP a ∧ 1 ≤ a.cnt ∧ a.sum = q * a.cnt + r ∧ 0 ≤ r ∧ r < a.cnt ∧ c = 0 := by
      rcases h with h | h | h
      · exact absurd hz.2 h.1
      · omega
      · exact h
    have h' : AggP a ∧ 1 ≤ a.cnt ∧ a.sum = q' * a.cnt + r' ∧ 0 ≤ r' ∧ r' < a.cnt ∧ c' = 0 := by
      rcases h' with h | h | h
      · exact absurd hz.2 h.1
      · omega
      · exact h
    exact one' h h'
  · by_cases hp : AggP a
    · have e : a.cnt = 0 ∧ q = 0 ∧ r = 0 ∧ c = 5 := by
        rcases h with h | h | h
        · exact absurd hp h.1
        · exact h.2
        · exact absurd ⟨h.2.1, hp⟩ hz
      have e' : a.cnt = 0 ∧ q' = 0 ∧ r' = 0 ∧ c' = 5 := by
        rcases h' with h | h | h
        · exact absurd hp h.1
        · exact h.2
        · exact absurd ⟨h.2.1, hp⟩ hz
      omega
    · have e : q = 0 ∧ r = 0 ∧ c = 1 := by
        rcases h with h | h | h
        · exact h.2
        · exact absurd h.1 hp
        · exact absurd h.1 hp
      have e' : q' = 0 ∧ r' = 0 ∧ c' = 1 := by
        rcases h' with h | h | h
        · exact h.2
        · exact absurd h.1 hp
        · exact absurd h.1 hp
      omega

/-- an aggregate that is right has small numbers -/
theorem AggP.small {a : GAgg} (h : AggP a) : 0 ≤ a.cnt ∧ a.cnt ≤ 100000 ∧ -100000000000 ≤ a.sum ∧ a.sum ≤ 100000000000 := by
  rcases h with h | ⟨h1, h2, h3, h4, h5, h6, _, _, _, _, h7, h8⟩
  · rw [h]; simp [zAgg]
  · have := mul_in h1 h2 h3 h4
    have := mul_in h1 h2 h5 h6
    omega

theorem rest_facts {s c : Int} (hc : 1 ≤ c) (hc2 : c ≤ 100000) : -100000 ≤ s.tmod c ∧ s.tmod c ≤ 100000 ∧ (0 ≤ s.tmod c → s.tmod c = s % c) ∧ (s.tmod c < 0 → s.tmod c + c = s % c) ∧ 0 ≤ s % c ∧ s % c < c ∧ (s.tmod c + c).tmod c = s % c := by
  have h1 := Int.emod_nonneg s (b := c) (by omega)
  have h2 := Int.emod_lt_of_pos s (b := c) (by omega)
  have h3 : (s.tmod c) % c = s % c := by rw [Int.tmod_def, Int.sub_emod, Int.mul_comm]; simp
  have h4 : -c < s.tmod c := by have := Int.lt_tmod_of_pos s (b := c) (by omega); omega
  have h5 : s.tmod c < c := Int.tmod_lt_of_pos s (by omega)
  refine ⟨by omega, by omega, fun h => ?_, fun h => ?_, h1, h2, ?_⟩
  · rw [← h3, Int.emod_eq_of_lt h h5]
  · rw [← h3, ← Int.add_emod_right, Int.emod_eq_of_lt (by omega) (by omega)]
  · rw [Int.tmod_eq_emod_of_nonneg (by omega), Int.add_emod_right, h3]

theorem quot_facts {s c : Int} (hc : 1 ≤ c) : s = (s - s % c).tdiv c * c + s % c ∧ (s - s % c).tdiv c = s / c := by
  have h := Int.mul_ediv_add_emod s c
  have e : s - s % c = s / c * c := by rw [Int.mul_comm]; omega
  have e2 : (s - s % c).tdiv c = s / c := by rw [e, Int.mul_tdiv_cancel _ (by omega)]
  refine ⟨?_, e2⟩
  rw [e2, Int.mul_comm]
  omega

theorem mean_of {a : GAgg} {x : Int} (h : AggP a) (h0 : ¬ a.cnt = 0) (hx : x = a.sum % a.cnt) : MeanR a (wrap64 ((wrap64 (a.sum - x)).tdiv a.cnt)) x 0 := by
  have hs := h.small
  obtain ⟨r1, r2, r3, r4, r5, r6, r7⟩ := rest_facts (s := a.sum) (c := a.cnt) (by omega) (by omega)
  obtain ⟨q1, q2⟩ := quot_facts (s := a.sum) (c := a.cnt) (by omega)
  have e1 : wrap64 (a.sum - x) = a.sum - x := by rw [hx]; unfold wrap64; omega
  have hd : -100000000000 ≤ a.sum / a.cnt ∧ a.sum / a.cnt ≤ 100000000000 := by
    constructor
    · exact Int.le_ediv_of_mul_le (by omega) (by omega)
    · exact Int.ediv_le_of_le_mul (by omega) (by omega)
  have e2 : wrap64 ((a.sum - x).tdiv a.cnt) = (a.sum - x).tdiv a.cnt := by rw [hx, q2]; unfold wrap64; omega
  rw [e1, e2, hx]
  exact Or.inr (Or.inr ⟨h, by omega, q1, r5, r6, rfl⟩)

theorem mean_neg {a : GAgg} (h : AggP a) (h0 : ¬ a.cnt = 0) (hn : a.sum.tmod a.cnt < 0) : wrap64 (a.sum.tmod a.cnt + a.cnt) = a.sum % a.cnt := by
  have hs := h.small
  obtain ⟨r1, r2, r3, r4, r5, r6, r7⟩ := rest_facts (s := a.sum) (c := a.cnt) (by omega) (by omega)
  rw [r4 hn]
  unfold wrap64; omega

theorem mean_pos {a : GAgg} (h : AggP a) (h0 : ¬ a.cnt = 0) (hn : 0 ≤ a.sum.tmod a.cnt) : a.sum.tmod a.cnt = a.sum % a.cnt := by
  have hs := h.small
  exact (rest_facts (s := a.sum) (c := a.cnt) (by omega) (by omega)).2.2.1 hn

theorem mean_spec {a : GAgg} (h : AggP a) (h0 : ¬ a.cnt = 0) : (wrap64 (a.sum.tmod a.cnt + a.cnt)).tmod a.cnt = a.sum % a.cnt := by
  have hs := h.small
  obtain ⟨r1, r2, r3, r4, r5, r6, r7⟩ := rest_facts (s := a.sum) (c := a.cnt) (by omega) (by omega)
  have : wrap64 (a.sum.tmod a.cnt + a.cnt) = a.sum.tmod a.cnt + a.cnt := by unfold wrap64; omega
  rw [this, r7]

end Go.Proofs.YtjmfffmjfbpgjaaGreatDoor

/- Whole numbers below 2 to the 53 as float64: exact, and so is their sum; read back they are what they were. No Go text is walked here. -/
namespace Go.Proofs.YtjmfffmjfbpgjaaGreatDoor
open Ieee
set_option linter.unusedVariables false

theorem pow_pos2 (k : Nat) : 0 < 2 ^ k := Nat.pow_pos (by omega)

theorem log2_shift (m k : Nat) (hm : 0 < m) : (m * 2 ^ k).log2 = m.log2 + k := by
  have hp := pow_pos2 k
  have h0 : m * 2 ^ k ≠ 0 := by
    have := Nat.mul_pos hm hp
    omega
  have a : 2 ^ m.log2 ≤ m := (Nat.le_log2 (by omega)).1 (Nat.le_refl _)
  have b : m < 2 ^ (m.log2 + 1) := (Nat.log2_lt (by omega)).1 (by omega)
  apply Nat.le_antisymm
  · have : (m * 2 ^ k).log2 < m.log2 + k + 1 := by
      rw [Nat.log2_lt h0, show m.log2 + k + 1 = m.log2 + 1 + k from by omega, Nat.pow_add]
      exact Nat.mul_lt_mul_of_pos_right b hp
    omega
  · rw [Nat.le_log2 h0, Nat.pow_add]
    exact Nat.mul_le_mul_right _ a

theorem cut_exact (way : Toward) (s : Bool) (m k : Nat) (hm : 0 < m) : way.cut s (m * 2 ^ k) k = m := by
  have hp := pow_pos2 k
  have h1 : min k ((m * 2 ^ k).log2 + 2) = k := by rw [log2_shift m k hm]; omega
  unfold Toward.cut
  simp only [h1, Nat.one_shiftLeft, Nat.mul_div_cancel _ hp, Nat.mul_mod_left]
  cases way <;> simp

theorem near_gen (f : Format) (neg : Bool) (mag : Nat) (place last : Int) (kept : Nat) (h0 : mag ≠ 0) (hl : max (place + mag.log2 - f.fractionBits) f.leastPlace = last)
    (hk : Toward.even.cut neg (mag <<< (place - last).toNat) (last - place).toNat = kept) (hi : (last - f.leastPlace).toNat * f.binade + kept ≤ f.infRung) :
    f.nearest neg mag place = f.word neg ((last - f.leastPlace).toNat * f.binade + kept) := by
  unfold Format.nearest
  rw [if_neg h0]
  simp only [hl, hk]
  rw [Nat.min_eq_left hi]

theorem near_kept (neg : Bool) (m k L : Nat) (hL : L ≤ 52) (hm : 0 < m * 2 ^ (52 - L)) : Toward.even.cut neg ((m * 2 ^ k) <<< (-(k : Int) - ((L : Int) - 52)).toNat) ((L : Int) - 52 - -(k : Int)).toNat = m * 2 ^ (52 - L) := by
  by_cases hk : k ≤ 52 - L
  · have e1 : (-(k : Int) - ((L : Int) - 52)).toNat = 52 - L - k := by omega
    have e2 : ((L : Int) - 52 - -(k : Int)).toNat = 0 := by omega
    rw [e1, e2, Nat.shiftLeft_eq, Nat.mul_assoc, ← Nat.pow_add, show k + (52 - L - k) = 52 - L from by omega]
    have := cut_exact .even neg (m * 2 ^ (52 - L)) 0 hm
    rwa [Nat.pow_zero, Nat.mul_one] at this
  · have e1 : (-(k : Int) - ((L : Int) - 52)).toNat = 0 := by omega
    have e2 : ((L : Int) - 52 - -(k : Int)).toNat = k - (52 - L) := by omega
    rw [e1, e2, Nat.shiftLeft_zero]
    have := cut_exact .even neg (m * 2 ^ (52 - L)) (k - (52 - L)) hm
    rwa [Nat.mul_assoc, ← Nat.pow_add, show 52 - L + (k - (52 - L)) = k from by omega] at this

theorem near_bounds (m : Nat) (hm : 0 < m) (hlt : m < 2 ^ 53) : m.log2 ≤ 52 ∧ 2 ^ 52 ≤ m * 2 ^ (52 - m.log2) ∧ m * 2 ^ (52 - m.log2) < 2 ^ 53 := by
  have a : 2 ^ m.log2 ≤ m := (Nat.le_log2 (by omega)).1 (Nat.le_refl _)
  have b : m < 2 ^ (m.log2 + 1) := (Nat.log2_lt (by omega)).1 (by omega)
  have hL : m.log2 < 53 := (Nat.log2_lt (by omega)).2 hlt
  generalize m.log2 = L at *
  refine ⟨by omega, ?_, ?_⟩
  · have e : 2 ^ L * 2 ^ (52 - L) = 2 ^ 52 := by rw [← Nat.pow_add, show L + (52 - L) = 52 from by omega]
    rw [← e]; exact Nat.mul_le_mul_right _ a
  · have e : 2 ^ (L + 1) * 2 ^ (52 - L) = 2 ^ 53 := by rw [← Nat.pow_add, show L + 1 + (52 - L) = 53 from by omega]
    rw [← e]; exact Nat.mul_lt_mul_of_pos_right b (pow_pos2 _)

theorem near_eq (neg : Bool) (m k : Nat) (hm : 0 < m) (hlt : m < 9007199254740992) :
    double.nearest neg (m * 2 ^ k) (-(k : Int)) = double.word neg ((m.log2 + 1022) * 4503599627370496 + m * 2 ^ (52 - m.log2)) ∧ m.log2 ≤ 52 ∧ 4503599627370496 ≤ m * 2 ^ (52 - m.log2) ∧ m * 2 ^ (52 - m.log2) < 9007199254740992 := by
  obtain ⟨hL, lo, hi⟩ := near_bounds m hm hlt
  have lo' : 4503599627370496 ≤ m * 2 ^ (52 - m.log2) := lo
  have hi' : m * 2 ^ (52 - m.log2) < 9007199254740992 := hi
  refine ⟨?_, hL, lo', hi'⟩
  have h0 : m * 2 ^ k ≠ 0 := by
    have := Nat.mul_pos hm (pow_pos2 k)
    omega
  have hl := log2_shift m k hm
  have e3 : ((m.log2 : Int) - 52 - double.leastPlace).toNat * double.binade = (m.log2 + 1022) * 4503599627370496 := by
    have : ((m.log2 : Int) - 52 - -1074).toNat = m.log2 + 1022 := by omega
    exact congrArg (· * 4503599627370496) this
  have g := near_gen double neg (m * 2 ^ k) (-(k : Int)) ((m.log2 : Int) - 52) (m * 2 ^ (52 - m.log2)) h0 (by
    rw [hl]
    show max (-(k : Int) + ((m.log2 + k : Nat) : Int) - ((52 : Nat) : Int)) (-1074) = _
    omega) (near_kept neg m k m.log2 hL (by omega)) (by
    rw [e3]
    show _ ≤ 2047 * 4503599627370496
    omega)
  rw [g, e3]

theorem read_word (neg : Bool) (L K : Nat) (hL : L ≤ 52) (lo : 4503599627370496 ≤ K) (hi : K < 9007199254740992) :
    double.read (double.word neg ((L + 1022) * 4503599627370496 + K)) = .number neg K ((L : Int) - 52) := by
  have sw : double.signWeight = 9223372036854775808 := rfl
  have lp : double.leastPlace = -1074 := rfl
  have bn : double.binade = 4503599627370496 := rfl
  have inf : double.infRung = 2047 * 4503599627370496 := rfl
  have hr : (double.word neg ((L + 1022) * 4503599627370496 + K)) % 9223372036854775808 = (L + 1022) * 4503599627370496 + K := by
    unfold Format.word
    rw [sw]
    cases neg <;> simp <;> omega
  have hs : ((double.word neg ((L + 1022) * 4503599627370496 + K)) / 9223372036854775808 % 2 == 1) = neg := by
    unfold Format.word
    rw [sw]
    cases neg
    · simp; omega
    · simp; omega
  unfold Format.read
  simp only [sw, bn, inf, lp, hr, hs]
  rw [if_neg (by omega), if_pos (by omega)]
  have e1 : 4503599627370496 + ((L + 1022) * 4503599627370496 + K) % 4503599627370496 = K := by omega
  have e2 : (-1074 + ((((L + 1022) * 4503599627370496 + K) / 4503599627370496 - 1 : Nat) : Int)) = (L : Int) - 52 := by omega
  rw [e1, e2]

/-- what a whole number's float stands for: so many parts of a power of two -/
theorem read_near (n : Int) (h : n.natAbs < 9007199254740992) : ∃ k : Nat, double.read (FloatKind.f64.nearest n) = .number (decide (n < 0)) (n.natAbs * 2 ^ k) (-(k : Int)) := by
  by_cases h0 : n = 0
  · subst h0
    exact ⟨1074, by decide +kernel⟩
  · obtain ⟨e, hL, lo, hi⟩ := near_eq (decide (n < 0)) n.natAbs 0 (by omega) h
    refine ⟨52 - n.natAbs.log2, ?_⟩
    have e1 : FloatKind.f64.nearest n = double.nearest (decide (n < 0)) (n.natAbs * 2 ^ 0) (-((0 : Nat) : Int)) := by
      rw [Nat.pow_zero, Nat.mul_one]
      rfl
    rw [e1, e, read_word _ _ _ hL lo hi]
    congr 1
    omega

theorem signed_of (a : Int) (k up : Nat) : signed (decide (a < 0)) (a.natAbs * 2 ^ k) up = a * ((2 ^ (k + up) : Nat) : Int) := by
  unfold signed
  rw [Nat.shiftLeft_eq, Nat.mul_assoc, ← Nat.pow_add]
  generalize 2 ^ (k + up) = q
  by_cases h : a < 0
  · obtain ⟨m, rfl⟩ : ∃ m : Nat, a = -(m : Int) := ⟨a.natAbs, by omega⟩
    rw [if_pos (by simpa using h)]
    simp [Int.neg_mul]
  · obtain ⟨m, rfl⟩ : ∃ m : Nat, a = (m : Int) := ⟨a.natAbs, by omega⟩
    rw [if_neg (by simp)]
    simp

theorem near_add (a b : Int) (ha : a.natAbs < 9007199254740992) (hb : b.natAbs < 9007199254740992) (hab : (a + b).natAbs < 9007199254740992) :
    double.add (FloatKind.f64.nearest a) (FloatKind.f64.nearest b) = some (FloatKind.f64.nearest (a + b)) := by
  obtain ⟨k, ek⟩ := read_near a ha
  obtain ⟨l, el⟩ := read_near b hb
  unfold Format.add
  rw [ek, el]
  obtain ⟨q, hq⟩ : ∃ q : Nat, q = max k l := ⟨_, rfl⟩
  have hbase : min (-(k : Int)) (-(l : Int)) = -(q : Int) := by omega
  have h1 : k + (-(k : Int) - -(q : Int)).toNat = q := by omega
  have h2 : l + (-(l : Int) - -(q : Int)).toNat = q := by omega
  have hp := pow_pos2 q
  simp only [Datum.sum, hbase, signed_of, h1, h2, Option.map_some, ← Int.add_mul]
  congr 1
  have en : ((a + b) * ((2 ^ q : Nat) : Int)).natAbs = (a + b).natAbs * 2 ^ q := by rw [Int.natAbs_mul, Int.natAbs_natCast]
  rw [en]
  by_cases h0 : a + b = 0
  · have hs : (decide (a < 0) && decide (b < 0)) = false := by
      by_cases h : a < 0
      · have : ¬ b < 0 := by omega
        simp [this]
      · simp [h]
    simp [h0, hs, Format.write, Format.nearest]
    rfl
  · have hne : ¬ ((a + b) * ((2 ^ q : Nat) : Int) = 0) := by
      intro h
      rcases Int.mul_eq_zero.1 h with h | h <;> omega
    rw [if_neg hne]
    have hlt : decide ((a + b) * ((2 ^ q : Nat) : Int) < 0) = decide (a + b < 0) := by
      rw [decide_eq_decide]
      have hp' : (0 : Int) < ((2 ^ q : Nat) : Int) := by omega
      constructor
      · intro h
        by_cases hc : a + b < 0
        · exact hc
        · exact absurd (Int.mul_nonneg (a := a + b) (b := ((2 ^ q : Nat) : Int)) (by omega) (by omega)) (by omega)
      · intro h
        exact Int.mul_neg_of_neg_of_pos h hp'
    rw [hlt]
    show double.nearest _ _ _ = double.nearest _ _ _
    rw [(near_eq _ _ q (by omega) hab).1]
    have := (near_eq (decide (a + b < 0)) (a + b).natAbs 0 (by omega) hab).1
    rw [Nat.pow_zero, Nat.mul_one] at this
    exact this.symm

theorem near_int (n : Int) (h : n.natAbs < 9007199254740992) : floatToIntVal .f64 (FloatKind.f64.nearest n) .i64 = some n := by
  obtain ⟨k, ek⟩ := read_near n h
  have hp := pow_pos2 k
  have hc : Toward.zero.cut (decide (n < 0)) (n.natAbs * 2 ^ k) k = n.natAbs := by
    by_cases h0 : n.natAbs = 0
    · rw [h0]; simp [Toward.cut]
    · exact cut_exact _ _ _ _ (by omega)
  have hi : (FloatKind.f64.decode (FloatKind.f64.nearest n)).toInt .zero = some n := by
    show (double.read _).toInt .zero = some n
    rw [ek]
    unfold Datum.toInt Datum.integral
    have e1 : (-(k : Int)).toNat = 0 := by omega
    have e2 : (- -(k : Int)).toNat = k := by omega
    simp only [e1, e2, Nat.shiftLeft_zero, hc]
    have := signed_of n 0 0
    simp at this
    rw [this]
  unfold floatToIntVal
  rw [hi]
  have l1 : IntKind.i64.min = -9223372036854775808 := rfl
  have l2 : IntKind.i64.max = 9223372036854775807 := rfl
  simp only [l1, l2]
  rw [if_pos (by omega)]

end Go.Proofs.YtjmfffmjfbpgjaaGreatDoor

/- Contracts of what puts two aggregates together, in both packages: counts and sums are added (as floats, which are exact there), the rest by its rule. Conditions: counts and sums are far below 2 to the 53. -/
namespace Go.Proofs.YtjmfffmjfbpgjaaGreatDoor
open Go.ChangeShapes Go.WideShapes Go.ChangeAt Go.RowKit
set_option linter.unusedVariables false

/-- both together, the second being later -/
def gMerge (a b : GAgg) : GAgg := if a.cnt = 0 then b else if b.cnt = 0 then a else ⟨a.cnt + b.cnt, a.sum + b.sum, min a.mn b.mn, max a.mx b.mx, a.fst, b.lst⟩

/-- its numbers are small enough for floats -/
def GAgg.small (a : GAgg) : Prop := -1000000000000000 ≤ a.cnt ∧ a.cnt ≤ 1000000000000000 ∧ -1000000000000000 ≤ a.sum ∧ a.sum ≤ 1000000000000000

theorem add_float (a b c d : Int) (ha : a.natAbs < 9007199254740992) (hb : b.natAbs < 9007199254740992) (hab : (a + b).natAbs < 9007199254740992) (hc : c.natAbs < 9007199254740992) (hd : d.natAbs < 9007199254740992) (hcd : (c + d).natAbs < 9007199254740992) (t : TypeId) (W : World) :
    (binOp .add t (.complex .f64 (floatOfInt .f64 a) (floatOfInt .f64 c)) (.complex .f64 (floatOfInt .f64 b) (floatOfInt .f64 d))).run Tryz.prog W = .ok (.complex .f64 (floatOfInt .f64 (a + b)) (floatOfInt .f64 (c + d))) W := by
  refine run_complex_sum W .add (Or.inl rfl) t .f64 _ _ _ _ _ _ ?_
  have e1 : floatBits .add .f64 (floatOfInt .f64 a) (floatOfInt .f64 b) = some (floatOfInt .f64 (a + b)) := near_add a b ha hb hab
  have e2 : floatBits .add .f64 (floatOfInt .f64 c) (floatOfInt .f64 d) = some (floatOfInt .f64 (c + d)) := near_add c d hc hd hcd
  unfold cSumBits
  rw [e1, e2]
  rfl

end Go.Proofs.YtjmfffmjfbpgjaaGreatDoor

/- Contracts of merge, MergeAgg and their models: aggregates put together in order. Conditions: those that are handed to merge are right. -/
namespace Go.Proofs.YtjmfffmjfbpgjaaGreatDoor
open Go.ChangeShapes Go.WideShapes Go.ChangeAt Go.RowKit
set_option linter.unusedVariables false

theorem l02Merge_any (a b : GAgg) (ha : a.small) (hb : b.small) (w : World) : Calls Tryz.prog 213 #[.agg #[.int .i64 a.cnt, .int .i64 a.sum, .int .i64 a.mn, .int .i64 a.mx, .int .i64 a.fst, .int .i64 a.lst], .agg #[.int .i64 b.cnt, .int .i64 b.sum, .int .i64 b.mn, .int .i64 b.mx, .int .i64 b.fst, .int .i64 b.lst]] w fun e w' => e = .returned (gMerge a b).val ∧ Below w.heap.size w w' := by
  obtain ⟨a1, a2, a3, a4⟩ := ha
  obtain ⟨b1, b2, b3, b4⟩ := hb
  by_cases h0 : a.cnt = 0
  · have d0 : (a.cnt == 0) = true := by simpa using h0
    have e : gMerge a b = b := by simp [gMerge, h0]
    have E := Lib.hid e; clear e h0 a1 a2 a3 a4 b1 b2 b3 b4
    go_enter Tryz.func213, Tryz.ntmps213
    go_wp2
    refine bodyPost_ret (v := b.val) (by simp [results, Tryz.results213, go_sem, GAgg.val]) rfl ⟨by rw [E.out], ?_⟩
    exact bal (bal (bal (Below.refl _ _) _) _) _
  · have d0 : (a.cnt == 0) = false := by simpa using h0
    by_cases k0 : b.cnt = 0
    · have d1 : (b.cnt == 0) = true := by simpa using k0
      have e : gMerge a b = a := by simp [gMerge, h0, k0]
      have E := Lib.hid e; clear e h0 k0 a1 a2 a3 a4 b1 b2 b3 b4
      go_enter Tryz.func213, Tryz.ntmps213
      go_wp2
      refine bodyPost_ret (v := a.val) (by simp [results, Tryz.results213, go_sem, GAgg.val]) rfl ⟨by rw [E.out], ?_⟩
      exact bal (bal (bal (Below.refl _ _) _) _) _
    · have d1 : (b.cnt == 0) = false := by simpa using k0
      have e : gMerge a b = ⟨a.cnt + b.cnt, a.sum + b.sum, min a.mn b.mn, max a.mx b.mx, a.fst, b.lst⟩ := by simp [gMerge, h0, k0]
      have E := Lib.hid e; clear e
      have w1 : wrap64 (a.cnt + b.cnt) = a.cnt + b.cnt := by unfold wrap64; omega
      have w2 : wrap64 (a.sum + b.sum) = a.sum + b.sum := by unfold wrap64; omega
      clear h0 k0 a1 a2 a3 a4 b1 b2 b3 b4
      go_enter Tryz.func213, Tryz.ntmps213
      go_wp2
      all_goals (
        first | (have m1 : min a.mn b.mn = b.mn := by omega) | (have m1 : min a.mn b.mn = a.mn := by omega)
        first | (have m2 : max a.mx b.mx = b.mx := by omega) | (have m2 : max a.mx b.mx = a.mx := by omega)
        refine bodyPost_ret (v := .agg #[.int .i64 (a.cnt + b.cnt), .int .i64 (a.sum + b.sum), .int .i64 (min a.mn b.mn), .int .i64 (max a.mx b.mx), .int .i64 a.fst, .int .i64 b.lst]) (by rw [m1, m2]; simp [results, Tryz.results213, go_sem, *]) rfl ⟨by rw [E.out]; rfl, ?_⟩
        exact bal (bal (bal (Below.refl _ _) _) _) _)

/-- all together, one after the other; too many are told -/
def mergeAll : GAgg → List GAgg → GAgg × Int
  | acc, [] => (acc, 0)
  | acc, x :: xs => if 100000 < (gMerge acc x).cnt then (zAgg, 6) else mergeAll (gMerge acc x) xs

theorem AggP.tiny {a : GAgg} (h : AggP a) : a.small := by
  have := h.small
  unfold GAgg.small
  omega

theorem mul_le_min {c m n : Int} (hc : 1 ≤ c) : c * min m n ≤ c * m ∧ c * min m n ≤ c * n := ⟨Int.mul_le_mul_of_nonneg_left (by omega) (by omega), Int.mul_le_mul_of_nonneg_left (by omega) (by omega)⟩

theorem mul_le_max {c m n : Int} (hc : 1 ≤ c) : c * m ≤ c * max m n ∧ c * n ≤ c * max m n := ⟨Int.mul_le_mul_of_nonneg_left (by omega) (by omega), Int.mul_le_mul_of_nonneg_left (by omega) (by omega)⟩

theorem AggP.merge {a b : GAgg} (ha : AggP a) (hb : AggP b) (hc : (gMerge a b).cnt ≤ 100000) : AggP (gMerge a b) := by
  by_cases h0 : a.cnt = 0
  · have e : gMerge a b = b := by simp [gMerge, h0]
    rw [e]; exact hb
  by_cases k0 : b.cnt = 0
  · have e : gMerge a b = a := by simp [gMerge, h0, k0]
    rw [e]; exact ha
  have e : gMerge a b = ⟨a.cnt + b.cnt, a.sum + b.sum, min a.mn b.mn, max a.mx b.mx, a.fst, b.lst⟩ := by simp [gMerge, h0, k0]
  rw [e] at hc ⊢
  rcases ha with ha | ⟨a1, a2, a3, a4, a5, a6, a7, a8, a9, a10, a11, a12⟩
  · rw [ha] at h0; exact absurd rfl h0
  rcases hb with hb | ⟨b1, b2, b3, b4, b5, b6, b7, b8, b9, b10, b11, b12⟩
  · rw [hb] at k0; exact absurd rfl k0
  dsimp only at hc
  have l1 := (mul_le_min (c := a.cnt) (m := a.mn) (n := b.mn) a1).1
  have l2 := (mul_le_min (c := b.cnt) (m := a.mn) (n := b.mn) b1).2
  have l3 := (mul_le_max (c := a.cnt) (m := a.mx) (n := b.mx) a1).1
  have l4 := (mul_le_max (c := b.cnt) (m := a.mx) (n := b.mx) b1).2
  refine Or.inr ⟨by show 1 ≤ a.cnt + b.cnt; omega, hc, by show _ ≤ min a.mn b.mn; omega, by show min a.mn b.mn ≤ _; omega, by show _ ≤ max a.mx b.mx; omega, by show max a.mx b.mx ≤ _; omega, by show min a.mn b.mn ≤ a.fst; omega, by show a.fst ≤ max a.mx b.mx; omega, by show min a.mn b.mn ≤ b.lst; omega, by show b.lst ≤ max a.mx b.mx; omega, ?_, ?_⟩
  · show (a.cnt + b.cnt) * min a.mn b.mn ≤ a.sum + b.sum
    rw [Int.add_mul]; omega
  · show a.sum + b.sum ≤ (a.cnt + b.cnt) * max a.mx b.mx
    rw [Int.add_mul]; omega

/-- a slice of aggregates -/
def AggsAt (w : World) (B : Nat) (A : Option Addr) (xs : List GAgg) : Prop := Sl GAgg.vals 6 w B A xs

theorem AggsAt.agg {w : World} {B : Nat} {A : Option Addr} {xs : List GAgg} (h : AggsAt w B A xs) {k : Nat} (hk : k < xs.length) :
    ∃ b off, A = some ⟨b, off, none⟩ ∧ b < B ∧ w.cell? ⟨b, off + k * 6, none⟩ = some (.int .i64 xs[k].cnt) ∧ w.cell? ⟨b, off + k * 6 + 1, none⟩ = some (.int .i64 xs[k].sum) ∧ w.cell? ⟨b, off + k * 6 + 2, none⟩ = some (.int .i64 xs[k].mn) ∧ w.cell? ⟨b, off + k * 6 + 3, none⟩ = some (.int .i64 xs[k].mx) ∧ w.cell? ⟨b, off + k * 6 + 4, none⟩ = some (.int .i64 xs[k].fst) ∧ w.cell? ⟨b, off + k * 6 + 5, none⟩ = some (.int .i64 xs[k].lst) := by
  obtain ⟨b, off, e, hb, hc⟩ := Sl.at_ h hk
  exact ⟨b, off, e, hb, hc 0 _ rfl, hc 1 _ rfl, hc 2 _ rfl, hc 3 _ rfl, hc 4 _ rfl, hc 5 _ rfl⟩

end Go.Proofs.YtjmfffmjfbpgjaaGreatDoor

/- Contract of merge: aggregates put together in order. Conditions: those that are handed to it are right. -/
namespace Go.Proofs.YtjmfffmjfbpgjaaGreatDoor
open Go.ChangeShapes Go.WideShapes Go.ChangeAt Go.RowKit
set_option linter.unusedVariables false

theorem aggP_z : AggP zAgg := Or.inl rfl

theorem l02Merge_m (a b : GAgg) (ha : a.small) (hb : b.small) (w : World) : Calls Tryz.prog 213 #[.agg #[.int .i64 a.cnt, .int .i64 a.sum, .int .i64 a.mn, .int .i64 a.mx, .int .i64 a.fst, .int .i64 a.lst], .agg #[.int .i64 b.cnt, .int .i64 b.sum, .int .i64 b.mn, .int .i64 b.mx, .int .i64 b.fst, .int .i64 b.lst]] w fun e w' => ∃ m, e = .returned (.agg #[.int .i64 m.cnt, .int .i64 m.sum, .int .i64 m.mn, .int .i64 m.mx, .int .i64 m.fst, .int .i64 m.lst]) ∧ m = gMerge a b ∧ Below w.heap.size w w' :=
  (l02Merge_any a b ha hb w).mono fun e w' ⟨he, hB⟩ => ⟨gMerge a b, he, rfl, hB⟩

end Go.Proofs.YtjmfffmjfbpgjaaGreatDoor

/- Contracts of MergeAgg of both packages: the aggregate of both, and the code. No conditions. -/
namespace Go.Proofs.YtjmfffmjfbpgjaaGreatDoor
open Go.ChangeShapes Go.WideShapes Go.ChangeAt Go.RowKit
set_option linter.unusedVariables false

/-- both together, and the code -/
def MergeR (a b r : GAgg) (c : Int) : Prop := (¬ (AggP a ∧ AggP b) ∧ r = zAgg ∧ c = 1) ∨ (AggP a ∧ AggP b ∧ 100000 < a.cnt + b.cnt ∧ r = zAgg ∧ c = 6) ∨ (AggP a ∧ AggP b ∧ a.cnt + b.cnt ≤ 100000 ∧ r = gMerge a b ∧ c = 0)

theorem MergeR.one {a b r r' : GAgg} {c c' : Int} (h : MergeR a b r c) (h' : MergeR a b r' c') : r = r' ∧ c = c' := by
  by_cases hp : AggP a ∧ AggP b
  · by_cases hc : 100000 < a.cnt + b.cnt
    · have e : r = zAgg ∧ c = 6 := by
        rcases h with h | h | h
        · exact absurd hp h.1
        · exact h.2.2.2
        · exact absurd hc (by omega)
      have e' : r' = zAgg ∧ c' = 6 := by
        rcases h' with h | h | h
        · exact absurd hp h.1
        · exact h.2.2.2
        · exact absurd hc (by omega)
      exact ⟨e.1.trans e'.1.symm, e.2.trans e'.2.symm⟩
    · have e : r = gMerge a b ∧ c = 0 := by
        rcases h with h | h | h
        · exact absurd hp h.1
        · exact absurd h.2.2.1 hc
        · exact h.2.2.2
      have e' : r' = gMerge a b ∧ c' = 0 := by
        rcases h' with h | h | h
        · exact absurd hp h.1
        · exact absurd h.2.2.1 hc
        · exact h.2.2.2
      exact ⟨e.1.trans e'.1.symm, e.2.trans e'.2.symm⟩
  · have e : r = zAgg ∧ c = 1 := by
      rcases h with h | h | h
      · exact h.2
      · exact absurd ⟨h.1, h.2.1⟩ hp
      · exact absurd ⟨h.1, h.2.1⟩ hp
    have e' : r' = zAgg ∧ c' = 1 := by
      rcases h' with h | h | h
      · exact h.2
      · exact absurd ⟨h.1, h.2.1⟩ hp
      · exact absurd ⟨h.1, h.2.1⟩ hp
    exact ⟨e.1.trans e'.1.symm, e.2.trans e'.2.symm⟩

theorem gMerge_z (a : GAgg) : gMerge zAgg a = a := by simp [gMerge, zAgg]

theorem gMerge_cnt {a b : GAgg} : (gMerge a b).cnt = a.cnt + b.cnt := by
  unfold gMerge
  split
  · omega
  · split
    · omega
    · rfl

theorem mergeAll_two {a b : GAgg} (ha : AggP a) (hb : AggP b) : MergeR a b (mergeAll zAgg [a, b]).1 (mergeAll zAgg [a, b]).2 := by
  have s := ha.small
  have e : mergeAll zAgg [a, b] = if 100000 < a.cnt + b.cnt then (zAgg, 6) else (gMerge a b, 0) := by
    unfold mergeAll
    rw [gMerge_z, if_neg (by omega)]
    unfold mergeAll
    rw [gMerge_cnt]
    rfl
  rw [e]
  by_cases h : 100000 < a.cnt + b.cnt
  · rw [if_pos h]; exact Or.inr (Or.inl ⟨ha, hb, h, rfl, rfl⟩)
  · rw [if_neg h]; exact Or.inr (Or.inr ⟨ha, hb, by omega, rfl, rfl⟩)

theorem two_aggs (w : World) (a b : GAgg) (e : TypeId) : AggsAt (w.alloc (.cells #[.int .i64 a.cnt, .int .i64 a.sum, .int .i64 a.mn, .int .i64 a.mx, .int .i64 a.fst, .int .i64 a.lst, .int .i64 b.cnt, .int .i64 b.sum, .int .i64 b.mn, .int .i64 b.mx, .int .i64 b.fst, .int .i64 b.lst] e)) (w.heap.size + 1) (some ⟨w.heap.size, 0, none⟩) [a, b] := by
  intro _
  refine ⟨w.heap.size, 0, rfl, by omega, fun k hk j v hv => ?_⟩
  rw [World.cell?_alloc_new]
  match k, hk with
  | 0, _ =>
    match j with
    | 0 | 1 | 2 | 3 | 4 | 5 => simpa [GAgg.vals] using hv
    | j + 6 => simp [GAgg.vals] at hv
  | 1, _ =>
    match j with
    | 0 | 1 | 2 | 3 | 4 | 5 => simpa [GAgg.vals] using hv
    | j + 6 => simp [GAgg.vals] at hv

end Go.Proofs.YtjmfffmjfbpgjaaGreatDoor
