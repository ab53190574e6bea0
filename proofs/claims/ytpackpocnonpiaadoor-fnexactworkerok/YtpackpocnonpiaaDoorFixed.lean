/-
  Contract of the model's l03Fixed over six bytes, and of l01Bit. No conditions.
-/
import Derived.Test.YtpackpocnonpiaaDoorWideK
import Derived.Test.YtpackpocnonpiaaDoorBytes
namespace Go.Proofs.YtpackpocnonpiaaDoor
open Go.ChangeShapes Go.WideShapes Go.ChangeAt Go.RowKit
set_option linter.unusedVariables false
set_option linter.unusedSimpArgs false

theorem l01Bit_any (b : Bool) (w : World) : Calls Tryd.prog 13 #[.bool b] w fun e w' => e = .returned (.int .i64 (if b then 1 else 0)) ∧ w = w' := by
  cases b
  · go_enter Tryd.func13, Tryd.ntmps13
    go_wp2
    go_ret
    exact ⟨rfl, rfl⟩
  · go_enter Tryd.func13, Tryd.ntmps13
    go_wp2
    go_ret
    exact ⟨rfl, rfl⟩

theorem byte_dig (n : Nat) (h : n < 10) : (UInt8.ofNat (48 + n)).toNat = 48 + n := by
  rw [UInt8.toNat_ofNat']
  omega

theorem sixT_at {m i : Nat} (h : i < 6) : ((sixT m)[i]'(by rw [sixT_size]; exact h)).toNat = 48 + m / 10 ^ (5 - i) % 10 := by
  match i, h with
  | 0, _ => exact byte_dig _ (by omega)
  | 1, _ => exact byte_dig _ (by omega)
  | 2, _ => exact byte_dig _ (by omega)
  | 3, _ => exact byte_dig _ (by omega)
  | 4, _ => exact byte_dig _ (by omega)
  | 5, _ => exact (byte_dig _ (by omega)).trans (by simp)

theorem next_six {m i : Nat} (h : i < 6) : 10 * (m / 10 ^ (6 - i)) + m / 10 ^ (5 - i) % 10 = m / 10 ^ (5 - i) := by
  match i, h with
  | 0, _ => show 10 * (m / 1000000) + m / 100000 % 10 = m / 100000; omega
  | 1, _ => show 10 * (m / 100000) + m / 10000 % 10 = m / 10000; omega
  | 2, _ => show 10 * (m / 10000) + m / 1000 % 10 = m / 1000; omega
  | 3, _ => show 10 * (m / 1000) + m / 100 % 10 = m / 100; omega
  | 4, _ => show 10 * (m / 100) + m / 10 % 10 = m / 10; omega
  | 5, _ => show 10 * (m / 10) + m / 1 % 10 = m / 1; omega

/-- what l03Fixed answers to six bytes -/
def FixOf (t : ByteArray) (v : Int) (b : Bool) : Prop := (b = false → v = 0) ∧ 0 ≤ v ∧ v ≤ 999999 ∧ ∀ m : Nat, m ≤ 999999 → t = sixT m → b = true ∧ v = m

def FixRes (t : ByteArray) (w : World) (e : Ending) (w' : World) : Prop := ∃ v b, e = .returned (.tuple #[.int .i64 v, .bool b]) ∧ FixOf t v b ∧ w = w'

set_option maxRecDepth 100000 in
theorem fixed_any (t : ByteArray) (h6 : t.size = 6) (w : World) : Calls Tryd.prog 36 #[.string t] w (FixRes t w) := by
  go_enter Tryd.func36, Tryd.ntmps36
  go_wp2_with fail
  go_loopw [4, 5] (fun n i wr => ∃ (k v : Nat), k ≤ 6 ∧ i = .int .i64 k ∧ n = .int .i64 v ∧ Hid (v < 10 ^ k) ∧ Hid (∀ m : Nat, m ≤ 999999 → t = sixT m → v = m / 10 ^ (6 - k)) ∧ wr = w) (fun _ i _ => 6 - (intOf i).toNat)
  case atStart => exact ⟨0, 0, by omega, rfl, rfl, Lib.hid (by omega), Lib.hid (fun m hm _ => by show 0 = m / 1000000; omega), rfl⟩
  case round =>
    obtain ⟨k, v, hk, rfl, rfl, Hv, Hm, rfl⟩ := hrel
    by_cases hlt : k < 6
    · have hks : k < t.size := by omega
      have hv6 : v < 100000 := Nat.lt_of_lt_of_le Hv.out (Nat.le_trans (Nat.pow_le_pow_right (by omega) (show k ≤ 5 by omega)) (by omega))
      have hb := t[k].toNat_lt
      cases hd : digB (t[k].toNat : Int)
      · have Hf := Lib.hid (show FixOf t 0 false from ⟨fun _ => rfl, by omega, by omega, fun m hm e => by
          subst e
          have := sixT_at (m := m) hlt
          simp [digB] at hd
          omega⟩)
        have hc : (k : Int) < (t.size : Int) := by omega
        go_wp2_with (go_at_call 45; refine (specDigit_any _ _).mono ?_; rintro e w' ⟨rfl, rfl⟩)
        exact bodyPost_ret (v := .tuple #[.int .i64 0, .bool false]) (by simp [results, Tryd.results36, go_sem]) rfl ⟨0, false, rfl, Hf.out, rfl⟩
      · have hdd : 48 ≤ t[k].toNat ∧ t[k].toNat ≤ 57 := by simp [digB] at hd; omega
        have w1 : IntKind.u8.wrap ((t[k].toNat : Int) - 48) = (t[k].toNat : Int) - 48 := by rw [IntKind.wrap_u8]; omega
        have w2 : IntKind.i64.wrap ((t[k].toNat : Int) - 48) = (t[k].toNat : Int) - 48 := by rw [IntKind.wrap_i64]; omega
        have w3 : IntKind.i64.wrap (10 * (v : Int)) = 10 * (v : Int) := by rw [IntKind.wrap_i64]; omega
        have w4 : IntKind.i64.wrap (10 * (v : Int) + ((t[k].toNat : Int) - 48)) = 10 * (v : Int) + ((t[k].toNat : Int) - 48) := by rw [IntKind.wrap_i64]; omega
        have Hv2 := Lib.hid (show 10 * v + (t[k].toNat - 48) < 10 ^ (k + 1) by have := Hv.out; rw [Nat.pow_succ]; omega)
        have Hm2 := Lib.hid (show ∀ m : Nat, m ≤ 999999 → t = sixT m → 10 * v + (t[k].toNat - 48) = m / 10 ^ (6 - (k + 1)) from fun m hm e => by
          have h1 := Hm.out m hm e
          subst e
          have h2 := sixT_at (m := m) hlt
          have h3 := next_six (m := m) hlt
          rw [show 6 - (k + 1) = 5 - k by omega, ← h3, ← h1]
          omega)
        have hc : (k : Int) < (t.size : Int) := by omega
        have ec : (10 * (v : Int) + ((t[k].toNat : Int) - 48)) = ((10 * v + (t[k].toNat - 48) : Nat) : Int) := by omega
        have Ec := Lib.hid ec; clear ec hb
        go_wp2_with (go_at_call 45; refine (specDigit_any _ _).mono ?_; rintro e w' ⟨rfl, rfl⟩)
        exact ⟨⟨k + 1, 10 * v + (t[k].toNat - 48), by omega, by go_num, by rw [← Ec.out], Hv2, Hm2, trivial⟩, by simp [intOf]; omega⟩
    · obtain rfl : k = 6 := by omega
      have Hf := Lib.hid (show FixOf t v true from ⟨fun h => (by cases h), by omega, by have := Hv.out; omega, fun m hm e => ⟨rfl, by have := Hm.out m hm e; simp at this; omega⟩⟩)
      have hc : ¬ (6 : Int) < (t.size : Int) := by omega
      go_wp2
      exact bodyPost_ret (v := .tuple #[.int .i64 v, .bool true]) (by simp [results, Tryd.results36, go_sem]) rfl ⟨v, true, rfl, Hf.out, rfl⟩

end Go.Proofs.YtpackpocnonpiaaDoor
