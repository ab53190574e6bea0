/-
  Contract of the laws' own choice 'at': one of 0 to n - 1, whatever the bytes. Conditions: small numbers.
-/
import Derived.Test.YtnglfambcophpaaDoorSrc
namespace Go.Proofs.YtnglfambcophpaaDoor
open Go.ChangeShapes Go.WideShapes Go.ChangeAt Go.RowKit
set_option linter.unusedVariables false

set_option maxRecDepth 100000 in
theorem at_any (A : Option Addr) (bs : List Int) (c : Nat) (i n : Int) (B : Nat) (w : World) (h : BytesAt w B A bs) (hx : ∀ x ∈ bs, 0 ≤ x ∧ x ≤ 255) (hl : bs.length ≤ 1048576) (hi : 0 ≤ i) (hi2 : i ≤ 1000) (hn : 1 ≤ n) (hn2 : n ≤ 1000000) :
    Calls Tryd.prog 8 #[.slice A bs.length c, .int .i64 i, .int .i64 n] w fun e w' => ∃ r : Int, e = .returned (.int .i64 r) ∧ 0 ≤ r ∧ r < n ∧ Below w.heap.size w w' := by
  by_cases h1 : n ≤ 1
  · have d1 : decide (n ≤ 1) = true := by simpa using h1
    go_enter Tryd.func8, Tryd.ntmps8
    go_wp2
    go_ret
    exact ⟨0, rfl, by omega, by omega, Below.refl _ _⟩
  · have d1 : decide (n ≤ 1) = false := by simpa using h1
    have d3 : (n == 0) = false := by simp; omega
    by_cases h2 : bs.length = 0
    · have d2 : ((bs.length : Int) == 0) = true := by rw [h2]; rfl
      clear h hx h2
      go_enter Tryd.func8, Tryd.ntmps8
      go_wp2
      go_ret
      refine ⟨_, rfl, ?_, ?_, Below.refl _ _⟩
      · exact Int.emod_nonneg _ (by omega)
      · exact Int.emod_lt_of_pos _ (by omega)
    · have d2 : ((bs.length : Int) == 0) = false := by simp only [beq_eq_false_iff_ne, ne_eq]; omega
      obtain ⟨k1, hk1, hk1l⟩ : ∃ k : Nat, i % (bs.length : Int) = (k : Int) ∧ k < bs.length := ⟨(i % (bs.length : Int)).toNat, by have := Int.emod_nonneg i (b := (bs.length : Int)) (by omega); omega, by have := Int.emod_lt_of_pos i (b := (bs.length : Int)) (by omega); have := Int.emod_nonneg i (b := (bs.length : Int)) (by omega); omega⟩
      obtain ⟨k2, hk2, hk2l⟩ : ∃ k : Nat, (i + 1) % (bs.length : Int) = (k : Int) ∧ k < bs.length := ⟨((i + 1) % (bs.length : Int)).toNat, by have := Int.emod_nonneg (i + 1) (b := (bs.length : Int)) (by omega); omega, by have := Int.emod_lt_of_pos (i + 1) (b := (bs.length : Int)) (by omega); have := Int.emod_nonneg (i + 1) (b := (bs.length : Int)) (by omega); omega⟩
      obtain ⟨b1, o1, rfl, hb1, p0⟩ := h.byte hk1l
      obtain ⟨b2, o2, e, hb2, q0⟩ := h.byte hk2l
      injection e with e
      injection e with e1 e2
      subst e1 e2
      have x1 := hx bs[k1] (List.getElem_mem hk1l)
      have x2 := hx bs[k2] (List.getElem_mem hk2l)
      have t1 : i.tmod (bs.length : Int) = (k1 : Int) := by rw [Int.tmod_eq_emod_of_nonneg hi]; exact hk1
      have t2 : (i + 1).tmod (bs.length : Int) = (k2 : Int) := by rw [Int.tmod_eq_emod_of_nonneg (by omega)]; exact hk2
      have qd : 0 ≤ i.tdiv (bs.length : Int) ∧ i.tdiv (bs.length : Int) ≤ 1000 := by
        rw [Int.tdiv_eq_ediv_of_nonneg hi]
        exact ⟨Int.ediv_nonneg hi (by omega), Int.le_trans (Int.ediv_le_self _ hi) hi2⟩
      have i1 : (0 : Int) ≤ (k1 : Int) := by omega
      have i2 : (k1 : Int) < (bs.length : Int) := by omega
      have i3 : (0 : Int) ≤ (k2 : Int) := by omega
      have i4 : (k2 : Int) < (bs.length : Int) := by omega
      have w1 : IntKind.i64.wrap (i + 1) = i + 1 := by rw [IntKind.wrap_i64]; omega
      have w1' : wrap64 (i + 1) = i + 1 := by unfold wrap64; omega
      clear h hx h2
      go_enter Tryd.func8, Tryd.ntmps8
      go_wp2_with fail
      go_quiet (fail)
      go_wp2
      go_ret
      exact ⟨(bs[k1] * 31 + bs[k2] + i.tdiv (bs.length : Int)) % n, rfl, Int.emod_nonneg _ (by omega), Int.emod_lt_of_pos _ (by omega), bdrewN (Below.refl _ _) _⟩

end Go.Proofs.YtnglfambcophpaaDoor
