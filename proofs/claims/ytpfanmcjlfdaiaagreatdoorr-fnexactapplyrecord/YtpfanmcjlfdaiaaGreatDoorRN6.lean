/-
  Several texts as one: contracts that the law leans on; each part says what it proves and its conditions.
-/
import Derived.Test.YtpfanmcjlfdaiaaGreatDoorRSix
import Derived.Test.YtpfanmcjlfdaiaaGreatDoorRN2
import Derived.Test.YtpfanmcjlfdaiaaGreatDoorRBytes

/- Contracts of the model's l03Wide, l03KeyOK, l03Key and DataKey. No conditions. -/
namespace Go.Proofs.YtpfanmcjlfdaiaaGreatDoorR
open Go.ChangeShapes Go.WideShapes Go.ChangeAt Go.RowKit
set_option linter.unusedVariables false
set_option linter.unusedSimpArgs false

set_option maxRecDepth 100000 in
theorem wide_any (n : Nat) (h : n ≤ 999999) (w : World) : Calls Tryz.prog 109 #[.int .i64 n, .int .i64 6] w fun e w' => e = .returned (.string (sixT n)) ∧ Below w.heap.size w w' := by
  have h6 := numT_six h
  have HW := Lib.hid (fun k => wide_six (k := k) h)
  have z0 : zT 0 ++ numT (n : Int) = numT (n : Int) := by apply ByteArray.ext; simp [ByteArray.data_append, zT]
  have Z0 := Lib.hid z0; clear z0
  go_enter Tryz.func109, Tryz.ntmps109
  go_wp2_with fail
  refine (digits_int (n : Int) w (by omega) (by omega)).mono ?_
  rintro e w1 ⟨rfl, hb1⟩
  go_wp2_with fail
  go_loopw [5] (fun t wr => ∃ k : Nat, k + (numT (n : Int)).size ≤ 6 ∧ t = .string (zT k ++ numT (n : Int)) ∧ wr = w1) (fun t _ => match t with | .string s => 6 - s.size | _ => 0)
  case atStart => exact ⟨0, by omega, by rw [Z0.out], rfl⟩
  case round =>
    obtain ⟨k, hk, rfl, rfl⟩ := hrel
    have hz : (zT k ++ numT (n : Int)).size = k + (numT (n : Int)).size := by rw [ByteArray.size_append, zT_size]
    have SC := Lib.hid (zT_succ k (numT (n : Int)))
    have hz2 : (zT (k + 1) ++ numT (n : Int)).size = k + 1 + (numT (n : Int)).size := by rw [ByteArray.size_append, zT_size]
    have HK := Lib.hid (HW.out k)
    generalize zT k ++ numT (n : Int) = X at *
    by_cases hlt : X.size < 6
    · have hd : decide ((X.size : Int) < 6) = true := by simp; omega
      have hz3 : ¬ 9223372036854775807 < 1 + X.size := by omega
      go_wp2_with fail
      refine ⟨⟨k + 1, by omega, by rw [SC.out], trivial⟩, ?_⟩
      rw [SC.out]
      show 6 - (zT (k + 1) ++ numT (n : Int)).size < 6 - X.size
      omega
    · have hd : decide ((X.size : Int) < 6) = false := by simp; omega
      have hx : X = sixT n := HK.out (by omega)
      subst hx
      go_wp2
      go_ret
      exact ⟨rfl, hb1⟩

/-- a tier and two numbers of at most six digits -/
def KeyNP (t n m : Int) : Prop := 0 ≤ t ∧ t ≤ 2 ∧ 0 ≤ n ∧ n ≤ 999999 ∧ 0 ≤ m ∧ m ≤ 999999

theorem keyP_iff (t n m : Int) : KeyNP t n m ↔ inB t 0 2 = true ∧ inB n 0 999999 = true ∧ inB m 0 999999 = true := by
  simp only [KeyNP, inB_iff]
  constructor
  · intro ⟨a, b, c, d, e, f⟩; exact ⟨⟨a, b⟩, ⟨c, d⟩, ⟨e, f⟩⟩
  · intro ⟨⟨a, b⟩, ⟨c, d⟩, ⟨e, f⟩⟩; exact ⟨a, b, c, d, e, f⟩

theorem l03KeyOK_any (t n m : Int) (w : World) : Calls Tryz.prog 87 #[.int .i64 t, .int .i64 n, .int .i64 m] w fun e w' => ∃ b : Bool, (b = true ↔ KeyNP t n m) ∧ e = .returned (.bool b) ∧ w = w' := by
  have hk := keyP_iff t n m
  cases h1 : inB t 0 2 <;> cases h2 : inB n 0 999999 <;> cases h3 : inB m 0 999999 <;> rw [h1, h2, h3] at hk
  all_goals
    have HK := Lib.hid hk; clear hk
    go_enter Tryz.func87, Tryz.ntmps87
    go_wp2_with (go_at_call 54; refine (inL_any _ _ _ _).mono ?_; rintro e w' ⟨rfl, rfl⟩)
    go_ret
    refine ⟨_, ?_, rfl, rfl⟩
    rw [HK.out]
    simp [h1, h2, h3]

/-- what stands ahead of a tier's keys, with the slash -/
def pathT (t : Nat) : ByteArray := match t with
  | 0 => ⟨#[114, 97, 119, 47]⟩
  | 1 => ⟨#[116, 49, 47]⟩
  | _ => ⟨#[116, 50, 47]⟩

/-- a data key -/
def keyT (t n m : Nat) : ByteArray := pathT t ++ sixT n ++ ⟨#[45]⟩ ++ sixT m

theorem six_new (W w1 : World) (k : Nat) (x a b c : ByteArray) (ty : TypeId) (hk : #[Value.string a, Value.string b, Value.string c][k]? = some (.string x)) (hb : Below (W.alloc (.cells #[.string a, .string b, .string c] ty)).heap.size (W.alloc (.cells #[.string a, .string b, .string c] ty)) w1) : w1.cell? ⟨W.heap.size, k, none⟩ = some (.string x) :=
  (hb.cell (p := ⟨W.heap.size, k, none⟩) (by simp)).trans (by rw [World.cell?_alloc_new]; exact hk)

theorem six_lt (W w1 : World) (o : Obj) (hb : Below (W.alloc o).heap.size (W.alloc o) w1) : W.heap.size < w1.heap.size := by
  have := hb.size
  simp at this
  omega

theorem six_newD (W w1 : World) (k : Nat) (x a b c : ByteArray) (ty : TypeId) (hk : #[Value.string a, Value.string b, Value.string c][k]? = some (.string x)) (hb : Below (W.alloc (.cells #[.string a, .string b, .string c] ty)).drew.heap.size (W.alloc (.cells #[.string a, .string b, .string c] ty)).drew w1) : w1.cell? ⟨W.heap.size, k, none⟩ = some (.string x) :=
  six_new W w1 k x a b c ty hk ((Below.refl _ _).drew.trans hb)

theorem six_ltD (W w1 : World) (o : Obj) (hb : Below (W.alloc o).drew.heap.size (W.alloc o).drew w1) : W.heap.size < w1.heap.size := six_lt W w1 o ((Below.refl _ _).drew.trans hb)

theorem six_bD (w w1 : World) (o : Obj) (hb : Below (w.alloc o).drew.heap.size (w.alloc o).drew w1) : Below w.heap.size w w1 := bnext (bal (Below.refl _ _) o) ((Below.refl _ _).drew.trans hb)

end Go.Proofs.YtpfanmcjlfdaiaaGreatDoorR

/- Contract of the model's l03Fixed over six bytes, and of l01Bit. No conditions. -/
namespace Go.Proofs.YtpfanmcjlfdaiaaGreatDoorR
open Go.ChangeShapes Go.WideShapes Go.ChangeAt Go.RowKit
set_option linter.unusedVariables false
set_option linter.unusedSimpArgs false

theorem l01Bit_any (b : Bool) (w : World) : Calls Tryz.prog 85 #[.bool b] w fun e w' => e = .returned (.int .i64 (if b then 1 else 0)) ∧ w = w' := by
  cases b
  · go_enter Tryz.func85, Tryz.ntmps85
    go_wp2
    go_ret
    exact ⟨rfl, rfl⟩
  · go_enter Tryz.func85, Tryz.ntmps85
    go_wp2
    go_ret
    exact ⟨rfl, rfl⟩

theorem byte_dig (n : Nat) (h : n < 10) : (UInt8.ofNat (48 + n)).toNat = 48 + n := by
  rw [UInt8.toNat_ofNat']
  omega

theorem sixT_at {m i : Nat} (h : i < 6) : ((sixT m)[i]'(by rw [sixT_size]; exact h)).toNat = 48 + m / 10 ^ (5 - i) % 10 := by
  match i, h with
  | 0, _ => exact byte_dig _ (by omega)
  | 1, _ => exact byte_dig _ (by omega)
  | 2, _ => exact byte_dig _ (by omega)
  | 3, _ => exact byte_dig _ (by omega)
  | 4, _ => exact byte_dig _ (by omega)
  | 5, _ => exact (byte_dig _ (by omega)).trans (by simp)

theorem next_six {m i : Nat} (h : i < 6) : 10 * (m / 10 ^ (6 - i)) + m / 10 ^ (5 - i) % 10 = m / 10 ^ (5 - i) := by
  match i, h with
  | 0, _ => show 10 * (m / 1000000) + m / 100000 % 10 = m / 100000; omega
  | 1, _ => show 10 * (m / 100000) + m / 10000 % 10 = m / 10000; omega
  | 2, _ => show 10 * (m / 10000) + m / 1000 % 10 = m / 1000; omega
  | 3, _ => show 10 * (m / 1000) + m / 100 % 10 = m / 100; omega
  | 4, _ => show 10 * (m / 100) + m / 10 % 10 = m / 10; omega
  | 5, _ => show 10 * (m / 10) + m / 1 % 10 = m / 1; omega

/-- what l03Fixed answers to six bytes -/
def FixOf (t : ByteArray) (v : Int) (b : Bool) : Prop := (b = false → v = 0) ∧ 0 ≤ v ∧ v ≤ 999999 ∧ ∀ m : Nat, m ≤ 999999 → t = sixT m → b = true ∧ v = m

def FixRes (t : ByteArray) (w : World) (e : Ending) (w' : World) : Prop := ∃ v b, e = .returned (.tuple #[.int .i64 v, .bool b]) ∧ FixOf t v b ∧ w = w'

set_option maxRecDepth 100000 in
theorem fixed_any (t : ByteArray) (h6 : t.size = 6) (w : World) : Calls Tryz.prog 86 #[.string t] w (FixRes t w) := by
  go_enter Tryz.func86, Tryz.ntmps86
  go_wp2_with fail
  go_loopw [4, 5] (fun n i wr => ∃ (k v : Nat), k ≤ 6 ∧ i = .int .i64 k ∧ n = .int .i64 v ∧ Hid (v < 10 ^ k) ∧ Hid (∀ m : Nat, m ≤ 999999 → t = sixT m → v = m / 10 ^ (6 - k)) ∧ wr = w) (fun _ i _ => 6 - (intOf i).toNat)
  case atStart => exact ⟨0, 0, by omega, rfl, rfl, Lib.hid (by omega), Lib.hid (fun m hm _ => by show 0 = m / 1000000; omega), rfl⟩
  case round =>
    obtain ⟨k, v, hk, rfl, rfl, Hv, Hm, rfl⟩ := hrel
    by_cases hlt : k < 6
    · have hks : k < t.size := by omega
      have hv6 : v < 100000 := Nat.lt_of_lt_of_le Hv.out (Nat.le_trans (Nat.pow_le_pow_right (by omega) (show k ≤ 5 by omega)) (by omega))
      have hb := t[k].toNat_lt
      cases hd : digB (t[k].toNat : Int)
      · have Hf := Lib.hid (show FixOf t 0 false from ⟨fun _ => rfl, by omega, by omega, fun m hm e => by
          subst e
          have := sixT_at (m := m) hlt
          simp [digB] at hd
          omega⟩)
        have hc : (k : Int) < (t.size : Int) := by omega
        go_wp2_with (go_at_call 107; refine (specDigit_any _ _).mono ?_; rintro e w' ⟨rfl, rfl⟩)
        exact bodyPost_ret (v := .tuple #[.int .i64 0, .bool false]) (by simp [results, Tryz.results86, go_sem]) rfl ⟨0, false, rfl, Hf.out, rfl⟩
      · have hdd : 48 ≤ t[k].toNat ∧ t[k].toNat ≤ 57 := by simp [digB] at hd; omega
        have w1 : IntKind.u8.wrap ((t[k].toNat : Int) - 48) = (t[k].toNat : Int) - 48 := by rw [IntKind.wrap_u8]; omega
        have w2 : IntKind.i64.wrap ((t[k].toNat : Int) - 48) = (t[k].toNat : Int) - 48 := by rw [IntKind.wrap_i64]; omega
        have w3 : IntKind.i64.wrap (10 * (v : Int)) = 10 * (v : Int) := by rw [IntKind.wrap_i64]; omega
        have w4 : IntKind.i64.wrap (10 * (v : Int) + ((t[k].toNat : Int) - 48)) = 10 * (v : Int) + ((t[k].toNat : Int) - 48) := by rw [IntKind.wrap_i64]; omega
        have Hv2 := Lib.hid (show 10 * v + (t[k].toNat - 48) < 10 ^ (k + 1) by have := Hv.out; rw [Nat.pow_succ]; omega)
        have Hm2 := Lib.hid (show ∀ m : Nat, m ≤ 999999 → t = sixT m → 10 * v + (t[k].toNat - 48) = m / 10 ^ (6 - (k + 1)) from fun m hm e => by
          have h1 := Hm.out m hm e
          subst e
          have h2 := sixT_at (m := m) hlt
          have h3 := next_six (m := m) hlt
          rw [show 6 - (k + 1) = 5 - k by omega, ← h3, ← h1]
          omega)
        have hc : (k : Int) < (t.size : Int) := by omega
        have ec : (10 * (v : Int) + ((t[k].toNat : Int) - 48)) = ((10 * v + (t[k].toNat - 48) : Nat) : Int) := by omega
        have Ec := Lib.hid ec; clear ec hb
        go_wp2_with (go_at_call 107; refine (specDigit_any _ _).mono ?_; rintro e w' ⟨rfl, rfl⟩)
        exact ⟨⟨k + 1, 10 * v + (t[k].toNat - 48), by omega, by go_num, by rw [← Ec.out], Hv2, Hm2, trivial⟩, by simp [intOf]; omega⟩
    · obtain rfl : k = 6 := by omega
      have Hf := Lib.hid (show FixOf t v true from ⟨fun h => (by cases h), by omega, by have := Hv.out; omega, fun m hm e => ⟨rfl, by have := Hm.out m hm e; simp at this; omega⟩⟩)
      have hc : ¬ (6 : Int) < (t.size : Int) := by omega
      go_wp2
      exact bodyPost_ret (v := .tuple #[.int .i64 v, .bool true]) (by simp [results, Tryz.results86, go_sem]) rfl ⟨v, true, rfl, Hf.out, rfl⟩

end Go.Proofs.YtpfanmcjlfdaiaaGreatDoorR
