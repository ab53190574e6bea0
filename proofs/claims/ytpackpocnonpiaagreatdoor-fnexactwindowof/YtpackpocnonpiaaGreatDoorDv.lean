/-
  Decimal digits and what they make; the text of a number is read back by the library's Atoi. No Go text is walked here.
-/
import Derived.Test.YtpackpocnonpiaaGreatDoorDigitsInt
import Derived.Lib.AtoiAll
import Derived.Lib.Strings
namespace Go.Proofs.YtpackpocnonpiaaGreatDoor
open Go.RowKit
set_option linter.unusedVariables false

/-- what digits make, behind what was made -/
def dvalF (acc : Nat) (l : List UInt8) : Nat := l.foldl (fun n b => n * 10 + (b.toNat - 48)) acc

def dval (l : List UInt8) : Nat := dvalF 0 l

def isDig (b : UInt8) : Prop := 48 ≤ b.toNat ∧ b.toNat ≤ 57

theorem dval_snoc (l : List UInt8) (b : UInt8) : dval (l ++ [b]) = 10 * dval l + (b.toNat - 48) := by
  unfold dval dvalF
  rw [List.foldl_append]
  simp only [List.foldl_cons, List.foldl_nil]
  omega

theorem dval_lt : ∀ (l : List UInt8) (acc : Nat), (∀ b ∈ l, isDig b) → dvalF acc l < (acc + 1) * 10 ^ l.length
  | [], acc, _ => by simp [dvalF]
  | b :: l, acc, h => by
    have hb := h b (by simp)
    unfold isDig at hb
    have ih := dval_lt l (acc * 10 + (b.toNat - 48)) (fun x hx => h x (by simp [hx]))
    have e : dvalF acc (b :: l) = dvalF (acc * 10 + (b.toNat - 48)) l := rfl
    rw [e, List.length_cons, Nat.pow_succ]
    refine Nat.lt_of_lt_of_le ih ?_
    rw [Nat.mul_comm (10 ^ l.length) 10, ← Nat.mul_assoc]
    exact Nat.mul_le_mul_right _ (by omega)

theorem dvalF_le : ∀ (l : List UInt8) (acc : Nat), acc ≤ dvalF acc l
  | [], acc => Nat.le_refl _
  | b :: l, acc => by
    have := dvalF_le l (acc * 10 + (b.toNat - 48))
    have e : dvalF acc (b :: l) = dvalF (acc * 10 + (b.toNat - 48)) l := rfl
    omega

theorem ofNat_dig {n : Nat} (h : n < 10) : (UInt8.ofNat (48 + n)).toNat = 48 + n := by
  rw [UInt8.toNat_ofNat']
  omega

theorem dec_facts (u : Nat) : (∀ b ∈ Lib.decDigits u, isDig b) ∧ dval (Lib.decDigits u) = u ∧ (∃ b r, Lib.decDigits u = b :: r ∧ (0 < u → b.toNat ≠ 48)) := by
  induction u using Nat.strongRecOn with
  | ind u ih =>
    by_cases h : u < 10
    · rw [Lib.decDigits_one h]
      refine ⟨?_, ?_, _, [], rfl, ?_⟩
      · intro b hb
        rw [List.mem_singleton] at hb
        subst hb
        unfold isDig
        rw [ofNat_dig h]
        omega
      · show 0 * 10 + ((UInt8.ofNat (48 + u)).toNat - 48) = u
        rw [ofNat_dig h]
        omega
      · intro h0
        rw [ofNat_dig h]
        omega
    · obtain ⟨h1, h2, b, r, h3, h4⟩ := ih (u / 10) (by omega)
      have e : Lib.decDigits u = Lib.decDigits (u / 10) ++ [UInt8.ofNat (48 + u % 10)] := by rw [Lib.decDigits.eq_1 u, dif_neg h]
      rw [e]
      refine ⟨?_, ?_, b, r ++ [UInt8.ofNat (48 + u % 10)], by rw [h3]; rfl, fun _ => h4 (by omega)⟩
      · intro x hx
        rcases List.mem_append.1 hx with hx | hx
        · exact h1 x hx
        · rw [List.mem_singleton] at hx
          subst hx
          unfold isDig
          rw [ofNat_dig (by omega)]
          omega
      · rw [dval_snoc, h2, ofNat_dig (by omega)]
        omega

theorem num_list (m : Int) : (numT m).data.toList = Lib.itoa m := by simp [numT]

theorem itoa_pos {m : Int} (h : 0 ≤ m) : Lib.itoa m = Lib.decDigits m.toNat := by unfold Lib.itoa; rw [if_neg (by omega)]

theorem itoa_neg {m : Int} (h : m < 0) : Lib.itoa m = 45 :: Lib.decDigits m.natAbs := by unfold Lib.itoa; rw [if_pos h]

theorem parse_ok : ∀ (l : List UInt8) (acc : Nat), (∀ b ∈ l, isDig b) → dvalF acc l ≤ 9223372036854775808 → Lib.parseUint10 acc l = .ok (dvalF acc l)
  | [], acc, _, _ => rfl
  | b :: l, acc, h, hv => by
    have hb := h b (by simp)
    unfold isDig at hb
    have e : dvalF acc (b :: l) = dvalF (acc * 10 + (b.toNat - 48)) l := rfl
    have hl := dvalF_le l (acc * 10 + (b.toNat - 48))
    rw [e] at hv ⊢
    rw [Lib.parseUint10, if_pos hb, if_neg (by omega), if_neg (by omega)]
    exact parse_ok l _ (fun x hx => h x (by simp [hx])) hv

theorem atoi_num {m : Int} (h1 : -9223372036854775808 ≤ m) (h2 : m ≤ 9223372036854775807) : Lib.atoiAll (numT m).data.toList = .ok m := by
  rw [num_list]
  by_cases h : 0 ≤ m
  · obtain ⟨f1, f2, b, r, f3, f4⟩ := dec_facts m.toNat
    rw [itoa_pos h]
    have hp : Lib.parseUint10 0 (Lib.decDigits m.toNat) = .ok m.toNat := by
      have := parse_ok (Lib.decDigits m.toNat) 0 f1 (by rw [show dvalF 0 (Lib.decDigits m.toNat) = m.toNat from f2]; omega)
      rwa [show dvalF 0 (Lib.decDigits m.toNat) = m.toNat from f2] at this
    have hb := f1 b (by rw [f3]; simp)
    unfold isDig at hb
    have hpm : Lib.parseMag (b :: r) = .ok m.toNat := by
      unfold Lib.parseMag
      rw [if_neg (by simp), ← f3, hp]
    rw [f3]
    simp only [Lib.atoiAll]
    rw [if_neg (by omega), hpm]
    simp only
    rw [if_neg (by omega), if_neg (by omega), if_neg (by omega), Int.toNat_of_nonneg h]
  · obtain ⟨f1, f2, b, r, f3, f4⟩ := dec_facts m.natAbs
    rw [itoa_neg (by omega)]
    have hp : Lib.parseUint10 0 (Lib.decDigits m.natAbs) = .ok m.natAbs := by
      have := parse_ok (Lib.decDigits m.natAbs) 0 f1 (by rw [show dvalF 0 (Lib.decDigits m.natAbs) = m.natAbs from f2]; omega)
      rwa [show dvalF 0 (Lib.decDigits m.natAbs) = m.natAbs from f2] at this
    have hpm : Lib.parseMag (Lib.decDigits m.natAbs) = .ok m.natAbs := by
      unfold Lib.parseMag
      rw [if_neg (by rw [f3]; simp), hp]
    have e45 : (45 : UInt8).toNat = 45 := rfl
    simp only [Lib.atoiAll, e45]
    rw [if_pos (Or.inr trivial), hpm]
    simp only [not_true_eq_false, false_and, if_false, true_and, if_true]
    rw [if_neg (by omega), show -(m.natAbs : Int) = m by omega]

theorem atoi_fit {l : List UInt8} {v : Int} (h : Lib.atoiAll l = .ok v) : -9223372036854775808 ≤ v ∧ v ≤ 9223372036854775807 := by
  unfold Lib.atoiAll at h
  split at h
  · cases h
  · simp only at h
    split at h
    · cases h
    · cases h
    · split at h
      · cases h
      · split at h
        · cases h
        · injection h with h
          rename_i h1 h2
          subst h
          split <;> omega

theorem num_inj {m n : Int} (h1 : -9223372036854775808 ≤ m) (h2 : m ≤ 9223372036854775807) (k1 : -9223372036854775808 ≤ n) (k2 : n ≤ 9223372036854775807) (h : numT m = numT n) : m = n := by
  have a := atoi_num h1 h2
  have b := atoi_num k1 k2
  rw [h, b] at a
  injection a with a
  exact a.symm

/-- a number of at most 18 digits -/
def Small (m : Int) : Prop := -1000000000000000000 < m ∧ m < 1000000000000000000

/-- what is read of a number's text -/
def NumRd (t : ByteArray) (n : Int) (b : Bool) : Prop := (b = true ∧ t = numT n ∧ -9223372036854775808 ≤ n ∧ n ≤ 9223372036854775807) ∨ (b = false ∧ ∀ m, Small m → t ≠ numT m)

theorem trim_len {m : Int} (h : Small m) : (Lib.trimPrefix (numT m).data.toList [45]).length ≤ 18 := by
  unfold Small at h
  rw [num_list]
  by_cases h0 : 0 ≤ m
  · obtain ⟨f1, f2, b, r, f3, f4⟩ := dec_facts m.toNat
    have hl := dec_len 17 m.toNat (by omega)
    have hb := f1 b (by rw [f3]; simp)
    unfold isDig at hb
    rw [itoa_pos h0]
    unfold Lib.trimPrefix Lib.hasPrefix
    rw [f3] at hl ⊢
    rw [if_neg]
    · exact hl
    · simp [List.isPrefixOf]
      intro e
      subst e
      exact absurd hb.1 (by decide)
  · have hl := dec_len 17 m.natAbs (by omega)
    rw [itoa_neg (by omega)]
    unfold Lib.trimPrefix Lib.hasPrefix
    rw [if_pos (by simp [List.isPrefixOf])]
    simpa using hl

theorem num_nocomma (m : Int) (c : UInt8) (hc : c.toNat < 45 ∨ 57 < c.toNat ∨ c.toNat = 46 ∨ c.toNat = 47) : c ∉ (numT m).data.toList := by
  rw [num_list]
  intro h
  by_cases h0 : 0 ≤ m
  · rw [itoa_pos h0] at h
    have := (dec_facts m.toNat).1 c h
    unfold isDig at this
    omega
  · rw [itoa_neg (by omega)] at h
    simp at h
    rcases h with rfl | h
    · rcases hc with hc | hc | hc | hc <;> exact absurd hc (by decide)
    · have := (dec_facts m.natAbs).1 c h
      unfold isDig at this
      omega

end Go.Proofs.YtpackpocnonpiaaGreatDoor
