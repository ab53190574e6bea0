/-
  Whole numbers below 2 to the 53 as float64: exact, and so is their sum; read back they are what they were. No Go text is walked here.
-/
import Derived.Laws.ComplexArith
namespace Go.Proofs.YtpackpocnonpiaaGreatDoor
open Ieee
set_option linter.unusedVariables false

theorem pow_pos2 (k : Nat) : 0 < 2 ^ k := Nat.pow_pos (by omega)

theorem log2_shift (m k : Nat) (hm : 0 < m) : (m * 2 ^ k).log2 = m.log2 + k := by
  have hp := pow_pos2 k
  have h0 : m * 2 ^ k ≠ 0 := by
    have := Nat.mul_pos hm hp
    omega
  have a : 2 ^ m.log2 ≤ m := (Nat.le_log2 (by omega)).1 (Nat.le_refl _)
  have b : m < 2 ^ (m.log2 + 1) := (Nat.log2_lt (by omega)).1 (by omega)
  apply Nat.le_antisymm
  · have : (m * 2 ^ k).log2 < m.log2 + k + 1 := by
      rw [Nat.log2_lt h0, show m.log2 + k + 1 = m.log2 + 1 + k from by omega, Nat.pow_add]
      exact Nat.mul_lt_mul_of_pos_right b hp
    omega
  · rw [Nat.le_log2 h0, Nat.pow_add]
    exact Nat.mul_le_mul_right _ a

theorem cut_exact (way : Toward) (s : Bool) (m k : Nat) (hm : 0 < m) : way.cut s (m * 2 ^ k) k = m := by
  have hp := pow_pos2 k
  have h1 : min k ((m * 2 ^ k).log2 + 2) = k := by rw [log2_shift m k hm]; omega
  unfold Toward.cut
  simp only [h1, Nat.one_shiftLeft, Nat.mul_div_cancel _ hp, Nat.mul_mod_left]
  cases way <;> simp

theorem near_gen (f : Format) (neg : Bool) (mag : Nat) (place last : Int) (kept : Nat) (h0 : mag ≠ 0) (hl : max (place + mag.log2 - f.fractionBits) f.leastPlace = last)
    (hk : Toward.even.cut neg (mag <<< (place - last).toNat) (last - place).toNat = kept) (hi : (last - f.leastPlace).toNat * f.binade + kept ≤ f.infRung) :
    f.nearest neg mag place = f.word neg ((last - f.leastPlace).toNat * f.binade + kept) := by
  unfold Format.nearest
  rw [if_neg h0]
  simp only [hl, hk]
  rw [Nat.min_eq_left hi]

theorem near_kept (neg : Bool) (m k L : Nat) (hL : L ≤ 52) (hm : 0 < m * 2 ^ (52 - L)) : Toward.even.cut neg ((m * 2 ^ k) <<< (-(k : Int) - ((L : Int) - 52)).toNat) ((L : Int) - 52 - -(k : Int)).toNat = m * 2 ^ (52 - L) := by
  by_cases hk : k ≤ 52 - L
  · have e1 : (-(k : Int) - ((L : Int) - 52)).toNat = 52 - L - k := by omega
    have e2 : ((L : Int) - 52 - -(k : Int)).toNat = 0 := by omega
    rw [e1, e2, Nat.shiftLeft_eq, Nat.mul_assoc, ← Nat.pow_add, show k + (52 - L - k) = 52 - L from by omega]
    have := cut_exact .even neg (m * 2 ^ (52 - L)) 0 hm
    rwa [Nat.pow_zero, Nat.mul_one] at this
  · have e1 : (-(k : Int) - ((L : Int) - 52)).toNat = 0 := by omega
    have e2 : ((L : Int) - 52 - -(k : Int)).toNat = k - (52 - L) := by omega
    rw [e1, e2, Nat.shiftLeft_zero]
    have := cut_exact .even neg (m * 2 ^ (52 - L)) (k - (52 - L)) hm
    rwa [Nat.mul_assoc, ← Nat.pow_add, show 52 - L + (k - (52 - L)) = k from by omega] at this

theorem near_bounds (m : Nat) (hm : 0 < m) (hlt : m < 2 ^ 53) : m.log2 ≤ 52 ∧ 2 ^ 52 ≤ m * 2 ^ (52 - m.log2) ∧ m * 2 ^ (52 - m.log2) < 2 ^ 53 := by
  have a : 2 ^ m.log2 ≤ m := (Nat.le_log2 (by omega)).1 (Nat.le_refl _)
  have b : m < 2 ^ (m.log2 + 1) := (Nat.log2_lt (by omega)).1 (by omega)
  have hL : m.log2 < 53 := (Nat.log2_lt (by omega)).2 hlt
  generalize m.log2 = L at *
  refine ⟨by omega, ?_, ?_⟩
  · have e : 2 ^ L * 2 ^ (52 - L) = 2 ^ 52 := by rw [← Nat.pow_add, show L + (52 - L) = 52 from by omega]
    rw [← e]; exact Nat.mul_le_mul_right _ a
  · have e : 2 ^ (L + 1) * 2 ^ (52 - L) = 2 ^ 53 := by rw [← Nat.pow_add, show L + 1 + (52 - L) = 53 from by omega]
    rw [← e]; exact Nat.mul_lt_mul_of_pos_right b (pow_pos2 _)

theorem near_eq (neg : Bool) (m k : Nat) (hm : 0 < m) (hlt : m < 9007199254740992) :
    double.nearest neg (m * 2 ^ k) (-(k : Int)) = double.word neg ((m.log2 + 1022) * 4503599627370496 + m * 2 ^ (52 - m.log2)) ∧ m.log2 ≤ 52 ∧ 4503599627370496 ≤ m * 2 ^ (52 - m.log2) ∧ m * 2 ^ (52 - m.log2) < 9007199254740992 := by
  obtain ⟨hL, lo, hi⟩ := near_bounds m hm hlt
  have lo' : 4503599627370496 ≤ m * 2 ^ (52 - m.log2) := lo
  have hi' : m * 2 ^ (52 - m.log2) < 9007199254740992 := hi
  refine ⟨?_, hL, lo', hi'⟩
  have h0 : m * 2 ^ k ≠ 0 := by
    have := Nat.mul_pos hm (pow_pos2 k)
    omega
  have hl := log2_shift m k hm
  have e3 : ((m.log2 : Int) - 52 - double.leastPlace).toNat * double.binade = (m.log2 + 1022) * 4503599627370496 := by
    have : ((m.log2 : Int) - 52 - -1074).toNat = m.log2 + 1022 := by omega
    exact congrArg (· * 4503599627370496) this
  have g := near_gen double neg (m * 2 ^ k) (-(k : Int)) ((m.log2 : Int) - 52) (m * 2 ^ (52 - m.log2)) h0 (by
    rw [hl]
    show max (-(k : Int) + ((m.log2 + k : Nat) : Int) - ((52 : Nat) : Int)) (-1074) = _
    omega) (near_kept neg m k m.log2 hL (by omega)) (by
    rw [e3]
    show _ ≤ 2047 * 4503599627370496
    omega)
  rw [g, e3]

theorem read_word (neg : Bool) (L K : Nat) (hL : L ≤ 52) (lo : 4503599627370496 ≤ K) (hi : K < 9007199254740992) :
    double.read (double.word neg ((L + 1022) * 4503599627370496 + K)) = .number neg K ((L : Int) - 52) := by
  have sw : double.signWeight = 9223372036854775808 := rfl
  have lp : double.leastPlace = -1074 := rfl
  have bn : double.binade = 4503599627370496 := rfl
  have inf : double.infRung = 2047 * 4503599627370496 := rfl
  have hr : (double.word neg ((L + 1022) * 4503599627370496 + K)) % 9223372036854775808 = (L + 1022) * 4503599627370496 + K := by
    unfold Format.word
    rw [sw]
    cases neg <;> simp <;> omega
  have hs : ((double.word neg ((L + 1022) * 4503599627370496 + K)) / 9223372036854775808 % 2 == 1) = neg := by
    unfold Format.word
    rw [sw]
    cases neg
    · simp; omega
    · simp; omega
  unfold Format.read
  simp only [sw, bn, inf, lp, hr, hs]
  rw [if_neg (by omega), if_pos (by omega)]
  have e1 : 4503599627370496 + ((L + 1022) * 4503599627370496 + K) % 4503599627370496 = K := by omega
  have e2 : (-1074 + ((((L + 1022) * 4503599627370496 + K) / 4503599627370496 - 1 : Nat) : Int)) = (L : Int) - 52 := by omega
  rw [e1, e2]

/-- what a whole number's float stands for: so many parts of a power of two -/
theorem read_near (n : Int) (h : n.natAbs < 9007199254740992) : ∃ k : Nat, double.read (FloatKind.f64.nearest n) = .number (decide (n < 0)) (n.natAbs * 2 ^ k) (-(k : Int)) := by
  by_cases h0 : n = 0
  · subst h0
    exact ⟨1074, by decide +kernel⟩
  · obtain ⟨e, hL, lo, hi⟩ := near_eq (decide (n < 0)) n.natAbs 0 (by omega) h
    refine ⟨52 - n.natAbs.log2, ?_⟩
    have e1 : FloatKind.f64.nearest n = double.nearest (decide (n < 0)) (n.natAbs * 2 ^ 0) (-((0 : Nat) : Int)) := by
      rw [Nat.pow_zero, Nat.mul_one]
      rfl
    rw [e1, e, read_word _ _ _ hL lo hi]
    congr 1
    omega

theorem signed_of (a : Int) (k up : Nat) : signed (decide (a < 0)) (a.natAbs * 2 ^ k) up = a * ((2 ^ (k + up) : Nat) : Int) := by
  unfold signed
  rw [Nat.shiftLeft_eq, Nat.mul_assoc, ← Nat.pow_add]
  generalize 2 ^ (k + up) = q
  by_cases h : a < 0
  · obtain ⟨m, rfl⟩ : ∃ m : Nat, a = -(m : Int) := ⟨a.natAbs, by omega⟩
    rw [if_pos (by simpa using h)]
    simp [Int.neg_mul]
  · obtain ⟨m, rfl⟩ : ∃ m : Nat, a = (m : Int) := ⟨a.natAbs, by omega⟩
    rw [if_neg (by simp)]
    simp

theorem near_add (a b : Int) (ha : a.natAbs < 9007199254740992) (hb : b.natAbs < 9007199254740992) (hab : (a + b).natAbs < 9007199254740992) :
    double.add (FloatKind.f64.nearest a) (FloatKind.f64.nearest b) = some (FloatKind.f64.nearest (a + b)) := by
  obtain ⟨k, ek⟩ := read_near a ha
  obtain ⟨l, el⟩ := read_near b hb
  unfold Format.add
  rw [ek, el]
  obtain ⟨q, hq⟩ : ∃ q : Nat, q = max k l := ⟨_, rfl⟩
  have hbase : min (-(k : Int)) (-(l : Int)) = -(q : Int) := by omega
  have h1 : k + (-(k : Int) - -(q : Int)).toNat = q := by omega
  have h2 : l + (-(l : Int) - -(q : Int)).toNat = q := by omega
  have hp := pow_pos2 q
  simp only [Datum.sum, hbase, signed_of, h1, h2, Option.map_some, ← Int.add_mul]
  congr 1
  have en : ((a + b) * ((2 ^ q : Nat) : Int)).natAbs = (a + b).natAbs * 2 ^ q := by rw [Int.natAbs_mul, Int.natAbs_natCast]
  rw [en]
  by_cases h0 : a + b = 0
  · have hs : (decide (a < 0) && decide (b < 0)) = false := by
      by_cases h : a < 0
      · have : ¬ b < 0 := by omega
        simp [this]
      · simp [h]
    simp [h0, hs, Format.write, Format.nearest]
    rfl
  · have hne : ¬ ((a + b) * ((2 ^ q : Nat) : Int) = 0) := by
      intro h
      rcases Int.mul_eq_zero.1 h with h | h <;> omega
    rw [if_neg hne]
    have hlt : decide ((a + b) * ((2 ^ q : Nat) : Int) < 0) = decide (a + b < 0) := by
      rw [decide_eq_decide]
      have hp' : (0 : Int) < ((2 ^ q : Nat) : Int) := by omega
      constructor
      · intro h
        by_cases hc : a + b < 0
        · exact hc
        · exact absurd (Int.mul_nonneg (a := a + b) (b := ((2 ^ q : Nat) : Int)) (by omega) (by omega)) (by omega)
      · intro h
        exact Int.mul_neg_of_neg_of_pos h hp'
    rw [hlt]
    show double.nearest _ _ _ = double.nearest _ _ _
    rw [(near_eq _ _ q (by omega) hab).1]
    have := (near_eq (decide (a + b < 0)) (a + b).natAbs 0 (by omega) hab).1
    rw [Nat.pow_zero, Nat.mul_one] at this
    exact this.symm

theorem near_int (n : Int) (h : n.natAbs < 9007199254740992) : floatToIntVal .f64 (FloatKind.f64.nearest n) .i64 = some n := by
  obtain ⟨k, ek⟩ := read_near n h
  have hp := pow_pos2 k
  have hc : Toward.zero.cut (decide (n < 0)) (n.natAbs * 2 ^ k) k = n.natAbs := by
    by_cases h0 : n.natAbs = 0
    · rw [h0]; simp [Toward.cut]
    · exact cut_exact _ _ _ _ (by omega)
  have hi : (FloatKind.f64.decode (FloatKind.f64.nearest n)).toInt .zero = some n := by
    show (double.read _).toInt .zero = some n
    rw [ek]
    unfold Datum.toInt Datum.integral
    have e1 : (-(k : Int)).toNat = 0 := by omega
    have e2 : (- -(k : Int)).toNat = k := by omega
    simp only [e1, e2, Nat.shiftLeft_zero, hc]
    have := signed_of n 0 0
    simp at this
    rw [this]
  unfold floatToIntVal
  rw [hi]
  have l1 : IntKind.i64.min = -9223372036854775808 := rfl
  have l2 : IntKind.i64.max = 9223372036854775807 := rfl
  simp only [l1, l2]
  rw [if_pos (by omega)]

end Go.Proofs.YtpackpocnonpiaaGreatDoor
