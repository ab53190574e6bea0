/-
  Several texts as one: contracts that the law leans on; each part says what it proves and its conditions.
-/
import Derived.Test.YtpfanmcjlfdaiaaGreatDoorRBytes
import Derived.Test.YtpfanmcjlfdaiaaGreatDoorRN1
import Derived.Laws.BytesString
import Derived.Lib.ItoaNum
import Derived.Outline
import Derived.Deep.RegionWith

/- Contract of the model's l00Digits: a number's decimal digits, a minus ahead of one below 0. Conditions: the number fits an int. -/
namespace Go.Proofs.YtpfanmcjlfdaiaaGreatDoorR
open Go.ChangeShapes Go.WideShapes Go.ChangeAt Go.RowKit
set_option linter.unusedVariables false

/-- a number's text -/
def numT (n : Int) : ByteArray := ⟨(Lib.itoa n).toArray⟩

theorem conv_one (n : Int) (W : World) : (convert 146 9 (.slice (some ⟨W.heap.size, 0, none⟩) 1 1)).run Tryz.prog (W.alloc (.cells #[.int .u8 n] 5)) = .ok (.string ⟨#[UInt8.ofNat n.toNat]⟩) (W.alloc (.cells #[.int .u8 n] 5)) := by
  rw [run_convert_bytes_string _ _ _ 5 _ _ _ Tryz.underlying146 Tryz.underlying5 Tryz.underlying9]
  have hl := run_loadCells_list (P := Tryz.prog) (W.alloc (.cells #[.int .u8 n] 5)) ⟨W.heap.size, 0, none⟩ [.int .u8 n] (fun j v hj => by
    match j with
    | 0 => simp at hj; subst hj; simp [Addr.add]
    | j + 1 => simp at hj)
  rw [run_bytesToString _ _ 1 1 [n] hl]
  rfl

theorem numT_small {u : Nat} (h : u < 10) : numT (u : Int) = ⟨#[UInt8.ofNat (48 + u)]⟩ := by
  unfold numT Lib.itoa
  rw [if_neg (by omega), Int.toNat_natCast, Lib.decDigits_one h]

theorem numT_big {u : Nat} (h : ¬ u < 10) : numT (u : Int) = numT ((u / 10 : Nat) : Int) ++ ⟨#[UInt8.ofNat (48 + u % 10)]⟩ := by
  unfold numT Lib.itoa
  rw [if_neg (by omega), if_neg (by omega), Int.toNat_natCast, Int.toNat_natCast, Lib.decDigits.eq_1 u, dif_neg h]
  apply ByteArray.ext
  simp [ByteArray.data_append]

theorem numT_neg {u : Nat} (h : 0 < u) : numT (-(u : Int)) = ⟨#[45]⟩ ++ numT (u : Int) := by
  unfold numT Lib.itoa
  rw [if_pos (by omega), if_neg (by omega), Int.natAbs_neg, Int.natAbs_natCast, Int.toNat_natCast]
  apply ByteArray.ext
  simp [ByteArray.data_append]

theorem conv_at (b : Nat) (n : Int) (W : World) (h : W.cell? ⟨b, 0, none⟩ = some (.int .u8 n)) : (convert 146 9 (.slice (some ⟨b, 0, none⟩) 1 1)).run Tryz.prog W = .ok (.string ⟨#[UInt8.ofNat n.toNat]⟩) W := by
  rw [run_convert_bytes_string _ _ _ 5 _ _ _ Tryz.underlying146 Tryz.underlying5 Tryz.underlying9]
  have hl := run_loadCells_list (P := Tryz.prog) W ⟨b, 0, none⟩ [.int .u8 n] (fun j v hj => by
    match j with
    | 0 => simp at hj; subst hj; simpa [Addr.add] using h
    | j + 1 => simp at hj)
  rw [run_bytesToString _ _ 1 1 [n] hl]
  rfl

theorem dec_len : ∀ (k u : Nat), u < 10 ^ (k + 1) → (Lib.decDigits u).length ≤ k + 1
  | 0, u, h => by rw [Lib.decDigits_one (by simpa using h)]; simp
  | k + 1, u, h => by
    by_cases h1 : u < 10
    · rw [Lib.decDigits_one h1]; simp
    · rw [Lib.decDigits.eq_1, dif_neg h1, List.length_append]
      have := dec_len k (u / 10) (by rw [Nat.div_lt_iff_lt_mul (by omega)]; rw [Nat.pow_succ] at h; exact h)
      simp
      omega

theorem numT_size {u : Nat} (h : u ≤ 9223372036854775807) : (numT (u : Int)).size ≤ 20 := by
  unfold numT Lib.itoa
  rw [if_neg (by omega), Int.toNat_natCast]
  have := dec_len 19 u (by omega)
  simpa [ByteArray.size] using this

set_option maxRecDepth 100000 in
theorem digits_nat (k : Nat) : ∀ (u : Nat) (w : World), u ≤ k → u ≤ 9223372036854775807 → Calls Tryz.prog 126 #[.int .i64 (u : Int)] w fun e w' => e = .returned (.string (numT (u : Int))) ∧ Below w.heap.size w w' := by
  induction k with
  | zero =>
    intro u w hk h2
    obtain rfl : u = 0 := by omega
    have e := Lib.hid (numT_small (u := 0) (by omega))
    have hcv := conv_one
    go_enter Tryz.func126, Tryz.ntmps126
    go_wp2_with fail
    go_ret
    exact ⟨by rw [e.out]; rfl, bal (Below.refl _ _) _⟩
  | succ k ih =>
    intro u w hk h2
    have d0 : ((u : Int) == -9223372036854775808) = false := by simp only [beq_eq_false_iff_ne, ne_eq]; omega
    have d1 : decide ((u : Int) < 0) = false := by simp
    by_cases h : u < 10
    · have d2 : decide ((u : Int) < 10) = true := by simp; omega
      have e := Lib.hid (numT_small h)
      have hcv := conv_one
      clear ih
      go_enter Tryz.func126, Tryz.ntmps126
      go_wp2_with fail
      go_ret
      exact ⟨by rw [e.out]; rfl, bal (Below.refl _ _) _⟩
    · have d2 : decide ((u : Int) < 10) = false := by simp; omega
      have e := Lib.hid (numT_big h)
      have hcv := conv_one
      have ih' : ∀ w, Calls Tryz.prog 126 #[.int .i64 ((u : Int) / 10)] w fun e w' => e = .returned (.string (numT ((u / 10 : Nat) : Int))) ∧ Below w.heap.size w w' := fun w => by
        have := ih (u / 10) w (by omega) (by omega)
        rwa [Int.natCast_ediv] at this
      have IH := Lib.hid ih'; clear ih ih'
      have e2 := Lib.hid (show numT (u : Int) = numT ((u / 10 : Nat) : Int) ++ ⟨#[UInt8.ofNat (48 + (u : Int) % 10).toNat]⟩ by rw [show (48 + (u : Int) % 10).toNat = 48 + u % 10 by omega]; exact e.out)
      have tm : (u : Int).tmod 10 = (u : Int) % 10 := Int.tmod_eq_emod_of_nonneg (by omega)
      have wm : IntKind.i64.wrap (48 + (u : Int) % 10) = 48 + (u : Int) % 10 := by rw [IntKind.wrap_i64]; omega
      have wu : IntKind.u8.wrap (48 + (u : Int) % 10) = 48 + (u : Int) % 10 := by rw [IntKind.wrap_u8]; omega
      have wq : IntKind.i64.wrap ((u : Int) / 10) = (u : Int) / 10 := by rw [IntKind.wrap_i64]; omega
      have hsz : (numT ((u / 10 : Nat) : Int)).size ≤ 20 := numT_size (by omega)
      generalize numT ((u / 10 : Nat) : Int) = T at *
      have HC := Lib.hid (show ∀ w1, Below ((w.alloc (.cells #[.int .u8 (48 + (u : Int) % 10)] 5)).drew).heap.size ((w.alloc (.cells #[.int .u8 (48 + (u : Int) % 10)] 5)).drew) w1 → w1.cell? ⟨w.heap.size, 0, none⟩ = some (.int .u8 (48 + (u : Int) % 10)) from fun w1 hb => (hb.cell (p := ⟨w.heap.size, 0, none⟩) (show w.heap.size < (w.alloc (.cells #[.int .u8 (48 + (u : Int) % 10)] 5)).heap.size by simp)).trans (show (w.alloc (.cells #[.int .u8 (48 + (u : Int) % 10)] 5)).cell? ⟨w.heap.size, 0, none⟩ = _ by simp))
      have hcv0 := conv_at w.heap.size (48 + (u : Int) % 10) (w.alloc (.cells #[.int .u8 (48 + (u : Int) % 10)] 5)).drew (show (w.alloc (.cells #[.int .u8 (48 + (u : Int) % 10)] 5)).cell? ⟨w.heap.size, 0, none⟩ = _ by simp)
      go_enter Tryz.func126, Tryz.ntmps126
      go_wp2_with fail
      go_region_with (go_at_call 126; refine (IH.out _).mono ?_; rintro e w1 ⟨rfl, hb1⟩; (first | (with_reducible (have hcv2 := conv_at _ _ _ (HC.out _ hb1))) | skip))
      all_goals go_wp2_with fail
      all_goals go_ret
      all_goals refine ⟨by rw [e.out]; simp [go_sem], ?_⟩
      all_goals first | exact (((Below.refl w.heap.size w).drew.trans hb1).alloc hb1.size _) | exact (bal (Below.refl _ w) _).drew.trans (hb1.mono (by simp)) | (clear e IH HC hcv0 hcv; trace_state; skip)

end Go.Proofs.YtpfanmcjlfdaiaaGreatDoorR

/- Contract of the model's l00Digits over all ints. Conditions: the number fits an int. -/
namespace Go.Proofs.YtpfanmcjlfdaiaaGreatDoorR
open Go.ChangeShapes Go.WideShapes Go.ChangeAt Go.RowKit
set_option linter.unusedVariables false

theorem numT_min : numT (-9223372036854775808) = ⟨#[45, 57, 50, 50, 51, 51, 55, 50, 48, 51, 54, 56, 53, 52, 55, 55, 53, 56, 48, 56]⟩ := by
  unfold numT Lib.itoa
  rw [if_pos (by omega), show (-9223372036854775808 : Int).natAbs = 9223372036854775808 from rfl]
  rw [Lib.decDigits.eq_1, dif_neg (by omega), Lib.decDigits.eq_1, dif_neg (by omega), Lib.decDigits.eq_1, dif_neg (by omega), Lib.decDigits.eq_1, dif_neg (by omega), Lib.decDigits.eq_1, dif_neg (by omega), Lib.decDigits.eq_1, dif_neg (by omega), Lib.decDigits.eq_1, dif_neg (by omega), Lib.decDigits.eq_1, dif_neg (by omega), Lib.decDigits.eq_1, dif_neg (by omega), Lib.decDigits.eq_1, dif_neg (by omega), Lib.decDigits.eq_1, dif_neg (by omega), Lib.decDigits.eq_1, dif_neg (by omega), Lib.decDigits.eq_1, dif_neg (by omega), Lib.decDigits.eq_1, dif_neg (by omega), Lib.decDigits.eq_1, dif_neg (by omega), Lib.decDigits.eq_1, dif_neg (by omega), Lib.decDigits.eq_1, dif_neg (by omega), Lib.decDigits.eq_1, dif_neg (by omega), Lib.decDigits_one (by omega)]
  rfl

set_option maxRecDepth 100000 in
theorem digits_int (n : Int) (w : World) (h1 : -9223372036854775808 ≤ n) (h2 : n ≤ 9223372036854775807) : Calls Tryz.prog 126 #[.int .i64 n] w fun e w' => e = .returned (.string (numT n)) ∧ Below w.heap.size w w' := by
  by_cases hn : 0 ≤ n
  · obtain ⟨u, rfl⟩ := Int.eq_ofNat_of_zero_le hn
    exact digits_nat u u w (Nat.le_refl _) (by omega)
  by_cases hm : n = -9223372036854775808
  · subst hm
    have e := Lib.hid numT_min
    go_enter Tryz.func126, Tryz.ntmps126
    go_wp2_with fail
    go_ret
    exact ⟨by rw [e.out]; rfl, Below.refl _ _⟩
  · obtain ⟨u, hu⟩ := Int.eq_ofNat_of_zero_le (show 0 ≤ -n by omega)
    obtain rfl : n = -(u : Int) := by omega
    have d0 : (-(u : Int) == -9223372036854775808) = false := by simp only [beq_eq_false_iff_ne, ne_eq]; omega
    have d1 : decide (-(u : Int) < 0) = true := by simp; omega
    have wn : IntKind.i64.wrap (u : Int) = (u : Int) := by rw [IntKind.wrap_i64]; omega
    have nn : - -(u : Int) = (u : Int) := by omega
    have e := Lib.hid (numT_neg (u := u) (by omega))
    have IH := Lib.hid (fun w => digits_nat u u w (Nat.le_refl _) (by omega))
    have hsz : (numT (u : Int)).size ≤ 20 := numT_size (by omega)
    have hsz2 : ¬ 9223372036854775807 < 1 + (numT (u : Int)).size := by omega
    generalize numT (u : Int) = T at *
    go_enter Tryz.func126, Tryz.ntmps126
    go_wp2_with fail
    refine (IH.out _).mono ?_
    rintro e w1 ⟨rfl, hb1⟩
    go_wp2_with fail
    go_ret
    exact ⟨by rw [e.out]; rfl, hb1⟩

end Go.Proofs.YtpfanmcjlfdaiaaGreatDoorR
