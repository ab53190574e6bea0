/-
  Contracts of CodeWord and CodeOf of both packages, over the table of words that the program's text lays.
-/
import Derived.Test.YtpgilbmajbpdkaaDoorCards
import Derived.Test.YtpgilbmajbpdkaaDoorTie
import Derived.WalkKit
import Derived.ProofKit
import Derived.OpenShut
import Derived.Deep.DeepHandedRow
import Derived.Lib.LaidTab
import Derived.Lib.Hide
import Derived.Outline
import Derived.ShutString
namespace Go.Proofs.YtpgilbmajbpdkaaDoor
open Go.ChangeShapes Go.WideShapes Go.ChangeAt Go.RowKit
set_option linter.unusedVariables false

/-- the words of the codes, as bytes -/
def wl : List (List UInt8) := [[111, 107], [98, 97, 100], [108, 111, 110, 103], [102, 111, 114, 109], [114, 97, 110, 103, 101], [110, 111, 110, 101], [109, 97, 110, 121], [102, 117, 108, 108], [115, 105, 122, 101], [116, 104, 101, 114, 101], [118, 101, 114, 115, 105, 111, 110], [102, 97, 117, 108, 116], [104, 101, 108, 100], [115, 116, 97, 108, 101], [108, 97, 116, 101], [98, 101, 108, 111, 119], [103, 97, 112], [100, 97, 109, 97, 103, 101, 100], [105, 100, 108, 101], [107, 101, 121]]
/-- the word of a code -/
def wd (k : Nat) : ByteArray := ⟨(wl.getD k []).toArray⟩

set_option maxRecDepth 100000 in
theorem specWord_in (k : Nat) (hk : k < 20) (w : World) : Calls Tryd.prog 5 #[.int .i64 k] w fun e w' => e = .returned (.string (wd k)) ∧ Below w.heap.size w w' := by
  have hd : decide ((k : Int) < 0) = false := by simp
  have hd2 : decide ((20 : Int) ≤ (k : Int)) = false := by simp; omega
  go_enter Tryd.func5, Tryd.ntmps5
  go_wp2
  go_ret
  refine ⟨?_, (Below.refl _ _).alloc (Nat.le_refl _) _⟩
  clear hd hd2
  have hc : k = 0 ∨ k = 1 ∨ k = 2 ∨ k = 3 ∨ k = 4 ∨ k = 5 ∨ k = 6 ∨ k = 7 ∨ k = 8 ∨ k = 9 ∨ k = 10 ∨ k = 11 ∨ k = 12 ∨ k = 13 ∨ k = 14 ∨ k = 15 ∨ k = 16 ∨ k = 17 ∨ k = 18 ∨ k = 19 := by omega
  rcases hc with rfl | rfl | rfl | rfl | rfl | rfl | rfl | rfl | rfl | rfl | rfl | rfl | rfl | rfl | rfl | rfl | rfl | rfl | rfl | rfl <;> rfl

theorem specWord_out (n : Int) (hn : n < 0 ∨ 20 ≤ n) (w : World) : Calls Tryd.prog 5 #[.int .i64 n] w fun e w' => e = .returned (.string ⟨#[]⟩) ∧ Below w.heap.size w w' := by
  by_cases h : n < 0
  · have hd : decide (n < 0) = true := by simpa using h
    go_enter Tryd.func5, Tryd.ntmps5
    go_wp2
    go_ret
    exact ⟨rfl, (Below.refl _ _).alloc (Nat.le_refl _) _⟩
  · have hd : decide (n < 0) = false := by simpa using h
    have hd2 : decide (20 ≤ n) = true := by simp; omega
    go_enter Tryd.func5, Tryd.ntmps5
    go_wp2
    go_ret
    exact ⟨rfl, (Below.refl _ _).alloc (Nat.le_refl _) _⟩

/-- the table of words lies in the program's variable -/
def Tbl (w : World) : Prop := ∀ i, i < 20 → w.cell? ⟨0, i, none⟩ = some (.string (wd i))

theorem word_in (k : Nat) (hk : k < 20) (w : World) (ht : Tbl w) : Calls Tryd.prog 6 #[.int .i64 k] w fun e w' => e = .returned (.string (wd k)) ∧ w = w' := by
  have hd : decide ((k : Int) < 0) = false := by simp
  have hd2 : decide ((20 : Int) ≤ (k : Int)) = false := by simp; omega
  have hc := ht k hk
  clear ht
  go_enter Tryd.func6, Tryd.ntmps6
  go_wp2
  go_ret
  exact ⟨rfl, rfl⟩

theorem word_out (n : Int) (hn : n < 0 ∨ 20 ≤ n) (w : World) : Calls Tryd.prog 6 #[.int .i64 n] w fun e w' => e = .returned (.string ⟨#[]⟩) ∧ w = w' := by
  by_cases h : n < 0
  · have hd : decide (n < 0) = true := by simpa using h
    go_enter Tryd.func6, Tryd.ntmps6
    go_wp2
    go_ret
    exact ⟨rfl, rfl⟩
  · have hd : decide (n < 0) = false := by simpa using h
    have hd2 : decide (20 ≤ n) = true := by simp; omega
    go_enter Tryd.func6, Tryd.ntmps6
    go_wp2
    go_ret
    exact ⟨rfl, rfl⟩

theorem lawWord (n : Int) (w : World) (ht : Tbl w) (h0 : 0 < w.heap.size) : Calls Tryd.prog 3 #[.int .i64 n] w fun e w' => e = .returned (.bool true) ∧ Below w.heap.size w w' := by
  have Ht := Lib.hid ht; clear ht
  by_cases h : n < 0 ∨ 20 ≤ n
  · have H := Lib.hid h; clear h
    go_enter Tryd.func3, Tryd.ntmps3
    go_wp2_with fail
    refine (specWord_out n H.out w).mono ?_
    rintro e w1 ⟨rfl, hb1⟩
    go_wp2_with fail
    refine (word_out n H.out w1).mono ?_
    rintro e w2 ⟨rfl, rfl⟩
    go_wp2
    go_ret
    exact ⟨rfl, hb1⟩
  · obtain ⟨k, rfl⟩ : ∃ k : Nat, n = (k : Int) := ⟨n.toNat, by omega⟩
    have hk : k < 20 := by omega
    clear h
    go_enter Tryd.func3, Tryd.ntmps3
    go_wp2_with fail
    refine (specWord_in k hk w).mono ?_
    rintro e w1 ⟨rfl, hb1⟩
    have ht1 : Tbl w1 := fun i hi => (hb1.cell h0).trans (Ht.out i hi)
    have Ht1 := Lib.hid ht1; clear ht1
    go_wp2_with fail
    refine (word_in k hk w1 Ht1.out).mono ?_
    rintro e w2 ⟨rfl, rfl⟩
    generalize wd k = x at *
    go_wp2
    go_ret
    exact ⟨rfl, hb1⟩
end Go.Proofs.YtpgilbmajbpdkaaDoor
