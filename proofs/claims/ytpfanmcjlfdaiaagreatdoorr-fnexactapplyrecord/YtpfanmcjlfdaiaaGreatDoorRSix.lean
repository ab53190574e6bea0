/-
  Six digits: the text of a number from 0 to 999999 with noughts ahead; contracts of the program's keyedText and the model's l03Wide. Conditions: the library's table of powers of ten is as its text lays it (of the program's alone).
-/
import Derived.Test.YtpfanmcjlfdaiaaGreatDoorRTxtB
import Derived.BigQuiet
namespace Go.Proofs.YtpfanmcjlfdaiaaGreatDoorR
open Go.ChangeShapes Go.WideShapes Go.ChangeAt Go.RowKit
set_option linter.unusedVariables false

/-- six digits -/
def sixT (n : Nat) : ByteArray := ⟨#[UInt8.ofNat (48 + n / 100000 % 10), UInt8.ofNat (48 + n / 10000 % 10), UInt8.ofNat (48 + n / 1000 % 10), UInt8.ofNat (48 + n / 100 % 10), UInt8.ofNat (48 + n / 10 % 10), UInt8.ofNat (48 + n % 10)]⟩

theorem sixT_size (n : Nat) : (sixT n).size = 6 := rfl

def zT (k : Nat) : ByteArray := ⟨Array.replicate k 48⟩

theorem zT_succ (k : Nat) (x : ByteArray) : ⟨#[48]⟩ ++ (zT k ++ x) = zT (k + 1) ++ x := by
  apply ByteArray.ext
  simp [ByteArray.data_append, zT, ← Array.append_assoc]
  rw [show #[(48 : UInt8)] = Array.replicate 1 48 from rfl, Array.replicate_append_replicate, Nat.add_comm]

theorem zT_size (k : Nat) : (zT k).size = k := by simp [zT, ByteArray.size]

theorem wide_six {n k : Nat} (h : n ≤ 999999) (hs : (zT k ++ numT (n : Int)).size = 6) : zT k ++ numT (n : Int) = sixT n := by
  rw [ByteArray.size_append, zT_size] at hs
  unfold sixT
  by_cases h1 : n < 10
  · rw [numT_small h1] at hs ⊢
    obtain rfl : k = 5 := by simpa [ByteArray.size] using hs
    rw [show n / 100000 % 10 = 0 by omega, show n / 10000 % 10 = 0 by omega, show n / 1000 % 10 = 0 by omega, show n / 100 % 10 = 0 by omega, show n / 10 % 10 = 0 by omega, show n % 10 = n by omega]
    rfl
  by_cases h2 : n < 100
  · rw [numT_big h1, numT_small (by omega)] at hs ⊢
    obtain rfl : k = 4 := by simpa [ByteArray.size] using hs
    rw [show n / 100000 % 10 = 0 by omega, show n / 10000 % 10 = 0 by omega, show n / 1000 % 10 = 0 by omega, show n / 100 % 10 = 0 by omega, show n / 10 % 10 = n / 10 by omega]
    rfl
  by_cases h3 : n < 1000
  · rw [numT_big h1, numT_big (by omega), numT_small (by omega)] at hs ⊢
    obtain rfl : k = 3 := by simpa [ByteArray.size] using hs
    rw [show n / 100000 % 10 = 0 by omega, show n / 10000 % 10 = 0 by omega, show n / 1000 % 10 = 0 by omega, show n / 100 % 10 = n / 10 / 10 by omega]
    rfl
  by_cases h4 : n < 10000
  · rw [numT_big h1, numT_big (by omega), numT_big (by omega), numT_small (by omega)] at hs ⊢
    obtain rfl : k = 2 := by simpa [ByteArray.size] using hs
    rw [show n / 100000 % 10 = 0 by omega, show n / 10000 % 10 = 0 by omega, show n / 1000 % 10 = n / 10 / 10 / 10 by omega, show n / 100 % 10 = n / 10 / 10 % 10 by omega]
    rfl
  by_cases h5 : n < 100000
  · rw [numT_big h1, numT_big (by omega), numT_big (by omega), numT_big (by omega), numT_small (by omega)] at hs ⊢
    obtain rfl : k = 1 := by simpa [ByteArray.size] using hs
    rw [show n / 100000 % 10 = 0 by omega, show n / 10000 % 10 = n / 10 / 10 / 10 / 10 by omega, show n / 1000 % 10 = n / 10 / 10 / 10 % 10 by omega, show n / 100 % 10 = n / 10 / 10 % 10 by omega]
    rfl
  · rw [numT_big h1, numT_big (by omega), numT_big (by omega), numT_big (by omega), numT_big (by omega), numT_small (by omega)] at hs ⊢
    obtain rfl : k = 0 := by simpa [ByteArray.size] using hs
    rw [show n / 100000 % 10 = n / 10 / 10 / 10 / 10 / 10 by omega, show n / 10000 % 10 = n / 10 / 10 / 10 / 10 % 10 by omega, show n / 1000 % 10 = n / 10 / 10 / 10 % 10 by omega, show n / 100 % 10 = n / 10 / 10 % 10 by omega]
    rfl

theorem numT_six {n : Nat} (h : n ≤ 999999) : (numT (n : Int)).size ≤ 6 := by
  unfold numT Lib.itoa
  rw [if_neg (by omega), Int.toNat_natCast]
  have := dec_len 5 n (by omega)
  simpa [ByteArray.size] using this

end Go.Proofs.YtpfanmcjlfdaiaaGreatDoorR
