/-
  Contracts of NameOK of both packages: each answers true just of a name, at every text; the world stays as it was. Conditions: none beside the form's own bound of a text's length.
-/
import Derived.Test.YtpgilbmajbpdkaaBytes
import Derived.Outline
import Derived.Lib.Hide
namespace Go.Proofs.Ytpgilbmajbpdkaa
open Go.ChangeShapes Go.WideShapes Go.ChangeAt Go.RowKit
set_option linter.unusedVariables false

/-- a bool is answered that says whether P; the world stays -/
def IsB (P : Prop) (w : World) (e : Ending) (w' : World) : Prop := ∃ b : Bool, (b = true ↔ P) ∧ e = .returned (.bool b) ∧ w = w'

theorem IsB.yes {P : Prop} {w : World} (h : P) : IsB P w (.returned (.bool true)) w := ⟨true, by simp [h], rfl, rfl⟩

theorem IsB.no {P : Prop} {w : World} (h : ¬ P) : IsB P w (.returned (.bool false)) w := ⟨false, by simp [h], rfl, rfl⟩

/-- letter or digit -/
def wordB (n : Int) : Bool := lettB n || digB n

def NameP (s : ByteArray) : Prop := 1 ≤ s.size ∧ s.size ≤ 40 ∧ (∀ h : 0 < s.size, lettB (s[0].toNat : Int) = true) ∧ ∀ k, (h : k < s.size) → 1 ≤ k → wordB (s[k].toNat : Int) = true

theorem lett_not_dig (n : Int) (h : lettB n = true) : digB n = false := by
  simp [lettB, digB] at *; omega

theorem word_any (s : ByteArray) (w : World) (hs : s.size ≤ maxLen) :
    Calls Try.prog 59 #[.string s] w (IsB (NameP s) w) := by
  unfold maxLen at hs
  by_cases h1 : 1 ≤ s.size
  · have d1 : decide ((s.size : Int) < 1) = false := by simp; omega
    by_cases h2 : s.size ≤ 40
    · have d2 : decide (40 < (s.size : Int)) = false := by simp; omega
      cases hl : lettB (s[0].toNat : Int)
      · have hno : ¬ NameP s := fun h => by have := h.2.2.1 (by omega); simp [hl] at this
        have Hno := Lib.hid hno; clear hno
        go_enter Try.func59, Try.ntmps59
        go_wp2_with (go_at_call 81; refine (specLetter_any _ _).mono ?_; rintro e w' ⟨rfl, rfl⟩)
        go_ret
        exact IsB.no Hno.out
      · have hf : ∀ h : 0 < s.size, lettB (s[0].toNat : Int) = true := fun _ => hl
        have Hf := Lib.hid hf; clear hf
        go_enter Try.func59, Try.ntmps59
        go_wp2_with (go_at_call 81; refine (specLetter_any _ _).mono ?_; rintro e w' ⟨rfl, rfl⟩)
        go_loop [3] (fun i => ∃ k : Nat, 1 ≤ k ∧ k ≤ s.size ∧ i = .int .i64 k ∧ Hid (∀ j, (h : j < s.size) → 1 ≤ j → j < k → wordB (s[j].toNat : Int) = true)) (fun i => s.size - (intOf i).toNat)
        case atStart => exact ⟨1, by omega, by omega, rfl, Lib.hid (fun j _ h1 h2 => by omega)⟩
        case round =>
          obtain ⟨k, hk1, hk, rfl, H⟩ := hrel
          by_cases hlt : k < s.size
          · cases hl2 : lettB (s[k].toNat : Int)
            · cases hd2 : digB (s[k].toNat : Int)
              · have hno : ¬ NameP s := fun h => by have := h.2.2.2 k hlt hk1; simp [wordB, hl2, hd2] at this
                have Hno := Lib.hid hno; clear hno
                go_wp2_with (first | (go_at_call 81; refine (specLetter_any _ _).mono ?_; rintro e w' ⟨rfl, rfl⟩) | (go_at_call 66; refine (specDigit_any _ _).mono ?_; rintro e w' ⟨rfl, rfl⟩))
                go_ret
                exact IsB.no Hno.out
              · have hn : ∀ j, (h : j < s.size) → 1 ≤ j → j < k + 1 → wordB (s[j].toNat : Int) = true := fun j h a b => by
                  by_cases e : j = k
                  · subst e; simp [wordB, hl2, hd2]
                  · exact H.out j h a (by omega)
                have Hn := Lib.hid hn; clear hn
                go_wp2_with (first | (go_at_call 81; refine (specLetter_any _ _).mono ?_; rintro e w' ⟨rfl, rfl⟩) | (go_at_call 66; refine (specDigit_any _ _).mono ?_; rintro e w' ⟨rfl, rfl⟩))
                go_round
                case rel => exact ⟨k + 1, by omega, by omega, by go_num, Hn⟩
                case measure => simp [intOf]; omega
            · have hn : ∀ j, (h : j < s.size) → 1 ≤ j → j < k + 1 → wordB (s[j].toNat : Int) = true := fun j h a b => by
                by_cases e : j = k
                · subst e; simp [wordB, hl2]
                · exact H.out j h a (by omega)
              have Hn := Lib.hid hn; clear hn
              go_wp2_with (first | (go_at_call 81; refine (specLetter_any _ _).mono ?_; rintro e w' ⟨rfl, rfl⟩) | (go_at_call 66; refine (specDigit_any _ _).mono ?_; rintro e w' ⟨rfl, rfl⟩))
              go_round
              case rel => exact ⟨k + 1, by omega, by omega, by go_num, Hn⟩
              case measure => simp [intOf]; omega
          · have hyes : NameP s := ⟨h1, h2, Hf.out, fun j h h1 => H.out j h h1 (by omega)⟩
            have Hy := Lib.hid hyes; clear hyes
            go_wp2
            go_ret
            exact IsB.yes Hy.out
    · have d2 : decide (40 < (s.size : Int)) = true := by simp; omega
      have hno : ¬ NameP s := fun h => by have := h.2.1; omega
      have Hno := Lib.hid hno; clear hno
      go_enter Try.func59, Try.ntmps59
      go_wp2
      go_ret
      exact IsB.no Hno.out
  · have d1 : decide ((s.size : Int) < 1) = true := by simp; omega
    have hno : ¬ NameP s := fun h => by have := h.1; omega
    have Hno := Lib.hid hno; clear hno
    go_enter Try.func59, Try.ntmps59
    go_wp2
    go_ret
    exact IsB.no Hno.out

theorem specName_any (s : ByteArray) (w : World) (hs : s.size ≤ maxLen) :
    Calls Try.prog 28 #[.string s] w (IsB (NameP s) w) := by
  go_enter Try.func28, Try.ntmps28
  go_wp2_with fail
  refine (word_any s w hs).mono ?_
  rintro e w' ⟨b, hb, rfl, rfl⟩
  have Hb := Lib.hid hb; clear hb
  go_wp2
  go_ret
  exact ⟨b, Hb.out, rfl, rfl⟩

theorem name_any (s : ByteArray) (w : World) (hs : s.size ≤ maxLen) :
    Calls Try.prog 29 #[.string s] w (IsB (NameP s) w) := by
  unfold maxLen at hs
  by_cases h1 : 1 ≤ s.size
  · have d1 : decide ((s.size : Int) < 1) = false := by simp; omega
    by_cases h2 : s.size ≤ 40
    · have d2 : decide (40 < (s.size : Int)) = false := by simp; omega
      cases hl : digB (s[0].toNat : Int)
      · have hf : ∀ h : 0 < s.size, digB (s[0].toNat : Int) = false := fun _ => hl
        have Hf := Lib.hid hf; clear hf
        go_enter Try.func29, Try.ntmps29
        go_wp2_with (go_at_call 53; refine (isDigit_any _ _).mono ?_; rintro e w' ⟨rfl, rfl⟩)
        go_loop [19] (fun i => ∃ k : Nat, k ≤ s.size ∧ i = .int .i64 k ∧ Hid (∀ j, (h : j < s.size) → j < k → wordB (s[j].toNat : Int) = true)) (fun i => s.size - (intOf i).toNat)
        case atStart => exact ⟨0, by omega, rfl, Lib.hid (fun j _ h2 => by omega)⟩
        case round =>
          obtain ⟨k, hk, rfl, H⟩ := hrel
          by_cases hlt : k < s.size
          · cases hl2 : lettB (s[k].toNat : Int)
            · cases hd2 : digB (s[k].toNat : Int)
              · have hno : ¬ NameP s := fun h => by
                  by_cases e : k = 0
                  · subst e; have := h.2.2.1 hlt; simp [hl2] at this
                  · have := h.2.2.2 k hlt (by omega); simp [wordB, hl2, hd2] at this
                have Hno := Lib.hid hno; clear hno
                go_wp2_with (first | (go_at_call 60; refine (isLetter_any _ _).mono ?_; rintro e w' ⟨rfl, rfl⟩) | (go_at_call 53; refine (isDigit_any _ _).mono ?_; rintro e w' ⟨rfl, rfl⟩))
                go_ret
                exact IsB.no Hno.out
              · have hn : ∀ j, (h : j < s.size) → j < k + 1 → wordB (s[j].toNat : Int) = true := fun j h b => by
                  by_cases e : j = k
                  · subst e; simp [wordB, hl2, hd2]
                  · exact H.out j h (by omega)
                have Hn := Lib.hid hn; clear hn
                go_wp2_with (first | (go_at_call 60; refine (isLetter_any _ _).mono ?_; rintro e w' ⟨rfl, rfl⟩) | (go_at_call 53; refine (isDigit_any _ _).mono ?_; rintro e w' ⟨rfl, rfl⟩))
                go_round
                case rel => exact ⟨k + 1, by omega, by go_num, Hn⟩
                case measure => simp [intOf]; omega
            · have hn : ∀ j, (h : j < s.size) → j < k + 1 → wordB (s[j].toNat : Int) = true := fun j h b => by
                by_cases e : j = k
                · subst e; simp [wordB, hl2]
                · exact H.out j h (by omega)
              have Hn := Lib.hid hn; clear hn
              go_wp2_with (first | (go_at_call 60; refine (isLetter_any _ _).mono ?_; rintro e w' ⟨rfl, rfl⟩) | (go_at_call 53; refine (isDigit_any _ _).mono ?_; rintro e w' ⟨rfl, rfl⟩))
              go_round
              case rel => exact ⟨k + 1, by omega, by go_num, Hn⟩
              case measure => simp [intOf]; omega
          · have hyes : NameP s := ⟨h1, h2, fun h => by
              have a := H.out 0 h (by omega)
              have b := Hf.out h
              simpa [wordB, b] using a, fun j h h1 => H.out j h (by omega)⟩
            have Hy := Lib.hid hyes; clear hyes
            go_wp2
            go_ret
            exact IsB.yes Hy.out
      · have hno : ¬ NameP s := fun h => by have := lett_not_dig _ (h.2.2.1 (by omega)); simp [hl] at this
        have Hno := Lib.hid hno; clear hno
        go_enter Try.func29, Try.ntmps29
        go_wp2_with (go_at_call 53; refine (isDigit_any _ _).mono ?_; rintro e w' ⟨rfl, rfl⟩)
        go_ret
        exact IsB.no Hno.out
    · have d2 : decide (40 < (s.size : Int)) = true := by simp; omega
      have hno : ¬ NameP s := fun h => by have := h.2.1; omega
      have Hno := Lib.hid hno; clear hno
      go_enter Try.func29, Try.ntmps29
      go_wp2
      go_ret
      exact IsB.no Hno.out
  · have d1 : decide ((s.size : Int) < 1) = true := by simp; omega
    have hno : ¬ NameP s := fun h => by have := h.1; omega
    have Hno := Lib.hid hno; clear hno
    go_enter Try.func29, Try.ntmps29
    go_wp2
    go_ret
    exact IsB.no Hno.out

end Go.Proofs.Ytpgilbmajbpdkaa
