/-
  Slices of texts: words for them, and contracts of the laws' helpers on them (eq, mark, held); of prefixes; of lengths.
-/
import Derived.Test.YtkpaocejpjhkpaaGreatDoorHeld
import Derived.WalkLawsBesides
namespace Go.Proofs.YtkpaocejpjhkpaaGreatDoor
open Go.ChangeShapes Go.WideShapes Go.ChangeAt Go.RowKit
set_option linter.unusedVariables false

def sVals (s : ByteArray) : List Value := [.string s]

theorem sVals_length (s : ByteArray) : (sVals s).length = 1 := rfl

/-- a slice of texts -/
def StrsAt (w : World) (B : Nat) (A : Option Addr) (xs : List ByteArray) : Prop := Sl sVals 1 w B A xs

theorem StrsAt.at_ {w : World} {B : Nat} {A : Option Addr} {xs : List ByteArray} (h : StrsAt w B A xs) {k : Nat} (hk : k < xs.length) :
    ∃ b off, A = some ⟨b, off, none⟩ ∧ b < B ∧ w.cell? ⟨b, off + k, none⟩ = some (.string xs[k]) := by
  obtain ⟨b, off, e, hb, hc⟩ := Sl.at_ h hk
  have := hc 0 (.string xs[k]) rfl
  simp only [Nat.mul_one, Nat.add_zero] at this
  exact ⟨b, off, e, hb, this⟩

def smarks (k : Int) (n : Nat) : List ByteArray := (List.range n).map fun i : Nat => mtx (k + (i : Int))

theorem length_smarks (k : Int) (n : Nat) : (smarks k n).length = n := by simp [smarks]

theorem smarks_succ (k : Int) (n : Nat) : smarks k (n + 1) = smarks k n ++ [mtx (k + (n : Int))] := by simp [smarks, List.range_succ]

theorem smarks_at (k : Int) (n i : Nat) (h : i < (smarks k n).length) : (smarks k n)[i] = mtx (k + (i : Int)) := by simp [smarks]

/-- one text is the beginning of another -/
def pfx (s p : ByteArray) : Bool := decide (p.size ≤ s.size) && ((s.extract 0 p.size).toList == p.toList)

theorem litePrefix_any (s p : ByteArray) (w : World) (hs : s.size ≤ maxLen) (hp : p.size ≤ maxLen) : Calls Tryz.prog 141 #[.string s, .string p] w fun e w' => e = .returned (.bool (pfx s p)) ∧ w = w' := by
  unfold maxLen at hs hp
  by_cases h : p.size ≤ s.size
  · have e1 : pfx s p = ((s.extract 0 p.size).toList == p.toList) := by simp [pfx, h]
    have E1 := Lib.hid e1; clear e1
    go_enter Tryz.func141, Tryz.ntmps141
    go_wp2
    go_ret
    exact ⟨by rw [E1.out]; rfl, rfl⟩
  · have e1 : pfx s p = false := by simp [pfx, h]
    have E1 := Lib.hid e1; clear e1
    have d1 : decide ((p.size : Int) ≤ (s.size : Int)) = false := by simp; omega
    go_enter Tryz.func141, Tryz.ntmps141
    go_wp2
    go_ret
    exact ⟨by rw [E1.out]; rfl, rfl⟩

/-- some text is longer than a text may be -/
theorem anyTooLong_any (A : Option Addr) (c : Nat) (xs : List ByteArray) (B : Nat) (w : World) (h : StrsAt w B A xs) (hl : xs.length ≤ 4611686018427387904) (hf : ∀ s ∈ xs, s.size ≤ maxLen) :
    Calls Tryz.prog 77 #[.slice A xs.length c] w (IsB (∃ s ∈ xs, 65536 < s.size) w) := by
  unfold maxLen at hf
  have H := Lib.hid h; clear h
  have Hf := Lib.hid hf; clear hf
  go_enter Tryz.func77, Tryz.ntmps77
  go_wp2_with fail
  go_loop [7] (fun i => ∃ k : Nat, k ≤ xs.length ∧ i = .int .i64 k ∧ Hid (∀ s ∈ xs.take k, ¬ 65536 < s.size)) (fun i => xs.length - (intOf i).toNat)
  case atStart => exact ⟨0, by omega, rfl, Lib.hid (by simp)⟩
  case round =>
    obtain ⟨k, hk, rfl, Hn⟩ := hrel
    by_cases hlt : k < xs.length
    · obtain ⟨b, off, rfl, hb, p0⟩ := StrsAt.at_ H.out hlt
      have hs : xs[k].size ≤ 2 ^ 63 - 1 := Hf.out _ (List.getElem_mem hlt)
      by_cases hc : 65536 < xs[k].size
      · have hy : ∃ s ∈ xs, 65536 < s.size := ⟨xs[k], List.getElem_mem hlt, hc⟩
        have Hy := Lib.hid hy; clear hy
        have d : decide (65536 < (xs[k].size : Int)) = true := by simp; omega
        go_wp2
        go_ret
        exact IsB.yes Hy.out
      · have hn : ∀ s ∈ xs.take (k + 1), ¬ 65536 < s.size := by
          rw [List.take_succ_eq_append_getElem hlt]
          intro s hs'
          rcases List.mem_append.1 hs' with h1 | h1
          · exact Hn.out s h1
          · simp at h1; subst h1; exact hc
        have Hn2 := Lib.hid hn; clear hn
        have d : decide (65536 < (xs[k].size : Int)) = false := by simp; omega
        go_wp2
        go_round
        case rel => exact ⟨k + 1, by omega, by go_num, Hn2⟩
        case measure => simp [intOf]; omega
    · have hn : ¬ ∃ s ∈ xs, 65536 < s.size := by
        rintro ⟨s, hs, hc⟩
        have := Hn.out s (by rw [List.take_of_length_le (by omega)]; exact hs)
        exact this hc
      have Hno := Lib.hid hn; clear hn
      go_wp2
      go_ret
      exact IsB.no Hno.out

end Go.Proofs.YtkpaocejpjhkpaaGreatDoor
