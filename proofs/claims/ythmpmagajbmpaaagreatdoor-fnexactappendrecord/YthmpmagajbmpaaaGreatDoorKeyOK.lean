/-
  Contracts of KeyOK of both packages: each answers true just of a key, at every text; the world stays as it was. Conditions: none beside the form's own bound of a text's length.
-/
import Derived.Test.YthmpmagajbmpaaaGreatDoorNameOK
namespace Go.Proofs.YthmpmagajbmpaaaGreatDoor
open Go.ChangeShapes Go.WideShapes Go.ChangeAt Go.RowKit
set_option linter.unusedVariables false

/-- a byte of a key -/
def keyB (n : Int) : Bool := decide ((97 ≤ n ∧ n ≤ 122) ∨ (48 ≤ n ∧ n ≤ 57) ∨ n = 47 ∨ n = 45)

def KeyP (s : ByteArray) : Prop := 1 ≤ s.size ∧ s.size ≤ 30 ∧ ∀ k, (h : k < s.size) → keyB (s[k].toNat : Int) = true

theorem l01In_any (n a b : Int) (w : World) : Calls Tryz.prog 56 #[.int .i64 n, .int .i64 a, .int .i64 b] w fun e w' => e = .returned (.bool (decide (a ≤ n ∧ n ≤ b))) ∧ w = w' := by
  go_enter Tryz.func56, Tryz.ntmps56
  go_wp2
  all_goals go_ret
  all_goals refine ⟨?_, rfl⟩
  all_goals simp
  all_goals omega

theorem keyB_cases (n : Int) : (keyB n = true ∧ 97 ≤ n ∧ n ≤ 122 ∧ digB n = false) ∨ (keyB n = true ∧ digB n = true ∧ n < 97) ∨ (keyB n = true ∧ n = 47 ∧ digB n = false) ∨ (keyB n = true ∧ n = 45 ∧ digB n = false) ∨
    (keyB n = false ∧ digB n = false ∧ (n < 97 ∨ 122 < n) ∧ (n == 47) = false ∧ (n == 45) = false ∧ (n != 47) = true ∧ (n != 45) = true) := by
  simp [keyB, digB, bne]; omega

theorem key_any (s : ByteArray) (w : World) (hs : s.size ≤ maxLen) :
    Calls Tryz.prog 126 #[.string s] w (IsB (KeyP s) w) := by
  unfold maxLen at hs
  by_cases h1 : 1 ≤ s.size
  · have d1 : decide ((s.size : Int) < 1) = false := by simp; omega
    by_cases h2 : s.size ≤ 30
    · have d2 : decide (30 < (s.size : Int)) = false := by simp; omega
      go_enter Tryz.func126, Tryz.ntmps126
      go_wp2_with fail
      go_loop [15] (fun i => ∃ k : Nat, k ≤ s.size ∧ i = .int .i64 k ∧ Hid (∀ j, (h : j < s.size) → j < k → keyB (s[j].toNat : Int) = true)) (fun i => s.size - (intOf i).toNat)
      case atStart => exact ⟨0, by omega, rfl, Lib.hid (fun j _ h2 => by omega)⟩
      case round =>
        obtain ⟨k, hk, rfl, H⟩ := hrel
        by_cases hlt : k < s.size
        · have hn : keyB (s[k].toNat : Int) = true → ∀ j, (h : j < s.size) → j < k + 1 → keyB (s[j].toNat : Int) = true := fun hq j h b => by
            by_cases e : j = k
            · subst e; exact hq
            · exact H.out j h (by omega)
          have Hn := Lib.hid hn; clear hn
          have hno : keyB (s[k].toNat : Int) = false → ¬ KeyP s := fun hq h => by have := h.2.2 k hlt; simp [hq] at this
          have Hno := Lib.hid hno; clear hno
          rcases keyB_cases (s[k].toNat : Int) with ⟨q, a, b, c⟩ | ⟨q, a, b⟩ | ⟨q, a, b⟩ | ⟨q, a, b⟩ | ⟨q, a, b, c, d, e, f⟩
          all_goals have Q := Lib.hid q
          all_goals clear q
          · go_wp2_with (go_at_call 149; refine (isDigit_any _ _).mono ?_; rintro e w' ⟨rfl, rfl⟩)
            go_round
            case rel => exact ⟨k + 1, by omega, by go_num, Lib.hid (Hn.out Q.out)⟩
            case measure => simp [intOf]; omega
          · go_wp2_with (go_at_call 149; refine (isDigit_any _ _).mono ?_; rintro e w' ⟨rfl, rfl⟩)
            go_round
            case rel => exact ⟨k + 1, by omega, by go_num, Lib.hid (Hn.out Q.out)⟩
            case measure => simp [intOf]; omega
          · go_wp2_with (go_at_call 149; refine (isDigit_any _ _).mono ?_; rintro e w' ⟨rfl, rfl⟩)
            go_round
            case rel => exact ⟨k + 1, by omega, by go_num, Lib.hid (Hn.out Q.out)⟩
            case measure => simp [intOf]; omega
          · go_wp2_with (go_at_call 149; refine (isDigit_any _ _).mono ?_; rintro e w' ⟨rfl, rfl⟩)
            go_round
            case rel => exact ⟨k + 1, by omega, by go_num, Lib.hid (Hn.out Q.out)⟩
            case measure => simp [intOf]; omega
          · rcases b with b | b
            · go_wp2_with (go_at_call 149; refine (isDigit_any _ _).mono ?_; rintro e w' ⟨rfl, rfl⟩)
              go_ret
              exact IsB.no (Hno.out Q.out)
            · have b2 : decide ((s[k].toNat : Int) ≤ 122) = false := by simp; omega
              go_wp2_with (go_at_call 149; refine (isDigit_any _ _).mono ?_; rintro e w' ⟨rfl, rfl⟩)
              go_ret
              exact IsB.no (Hno.out Q.out)
        · have hyes : KeyP s := ⟨h1, h2, fun j h => H.out j h (by omega)⟩
          have Hy := Lib.hid hyes; clear hyes
          go_wp2
          go_ret
          exact IsB.yes Hy.out
    · have d2 : decide (30 < (s.size : Int)) = true := by simp; omega
      have hno : ¬ KeyP s := fun h => by have := h.2.1; omega
      have Hno := Lib.hid hno; clear hno
      go_enter Tryz.func126, Tryz.ntmps126
      go_wp2
      go_ret
      exact IsB.no Hno.out
  · have d1 : decide ((s.size : Int) < 1) = true := by simp; omega
    have hno : ¬ KeyP s := fun h => by have := h.1; omega
    have Hno := Lib.hid hno; clear hno
    go_enter Tryz.func126, Tryz.ntmps126
    go_wp2
    go_ret
    exact IsB.no Hno.out

theorem specKey_any (s : ByteArray) (w : World) (hs : s.size ≤ maxLen) :
    Calls Tryz.prog 82 #[.string s] w (IsB (KeyP s) w) := by
  unfold maxLen at hs
  by_cases h2 : s.size ≤ 65536
  · have d2 : decide (65536 < (s.size : Int)) = false := by simp; omega
    go_enter Tryz.func82, Tryz.ntmps82
    go_wp2_with fail
    go_loop [3] (fun i => ∃ k : Nat, k ≤ s.size ∧ i = .int .i64 k ∧ Hid (∀ j, (h : j < s.size) → j < k → keyB (s[j].toNat : Int) = true)) (fun i => s.size - (intOf i).toNat)
    case atStart => exact ⟨0, by omega, rfl, Lib.hid (fun j _ h2 => by omega)⟩
    case round =>
      obtain ⟨k, hk, rfl, H⟩ := hrel
      by_cases hlt : k < s.size
      · have hn : keyB (s[k].toNat : Int) = true → ∀ j, (h : j < s.size) → j < k + 1 → keyB (s[j].toNat : Int) = true := fun hq j h b => by
          by_cases e : j = k
          · subst e; exact hq
          · exact H.out j h (by omega)
        have Hn := Lib.hid hn; clear hn
        have hno : keyB (s[k].toNat : Int) = false → ¬ KeyP s := fun hq h => by have := h.2.2 k hlt; simp [hq] at this
        have Hno := Lib.hid hno; clear hno
        rcases keyB_cases (s[k].toNat : Int) with ⟨q, a, b, c⟩ | ⟨q, a, b⟩ | ⟨q, a, b⟩ | ⟨q, a, b⟩ | ⟨q, a, b, c, d, e, f⟩
        all_goals have Q := Lib.hid q
        all_goals clear q
        · go_wp2_with (go_at_call 122; refine (specDigit_any _ _).mono ?_; rintro e w' ⟨rfl, rfl⟩)
          go_round
          case rel => exact ⟨k + 1, by omega, by go_num, Lib.hid (Hn.out Q.out)⟩
          case measure => simp [intOf]; omega
        · go_wp2_with (go_at_call 122; refine (specDigit_any _ _).mono ?_; rintro e w' ⟨rfl, rfl⟩)
          go_round
          case rel => exact ⟨k + 1, by omega, by go_num, Lib.hid (Hn.out Q.out)⟩
          case measure => simp [intOf]; omega
        · go_wp2_with (go_at_call 122; refine (specDigit_any _ _).mono ?_; rintro e w' ⟨rfl, rfl⟩)
          go_round
          case rel => exact ⟨k + 1, by omega, by go_num, Lib.hid (Hn.out Q.out)⟩
          case measure => simp [intOf]; omega
        · go_wp2_with (go_at_call 122; refine (specDigit_any _ _).mono ?_; rintro e w' ⟨rfl, rfl⟩)
          go_round
          case rel => exact ⟨k + 1, by omega, by go_num, Lib.hid (Hn.out Q.out)⟩
          case measure => simp [intOf]; omega
        · rcases b with b | b
          all_goals
            go_wp2_with (go_at_call 122; refine (specDigit_any _ _).mono ?_; rintro e w' ⟨rfl, rfl⟩)
            go_ret
            exact IsB.no (Hno.out Q.out)
      · have hyes : (decide (1 ≤ (s.size : Int) ∧ (s.size : Int) ≤ 30) = true ↔ KeyP s) := by
          simp only [decide_eq_true_eq]
          exact ⟨fun ⟨a, b⟩ => ⟨by omega, by omega, fun j h => H.out j h (by omega)⟩, fun h => ⟨by have := h.1; omega, by have := h.2.1; omega⟩⟩
        have Hy := Lib.hid hyes; clear hyes
        go_wp2_with fail
        refine (l01In_any _ _ _ _).mono ?_
        rintro e w' ⟨rfl, rfl⟩
        generalize decide (1 ≤ (s.size : Int) ∧ (s.size : Int) ≤ 30) = bb at *
        go_wp2
        go_ret
        exact ⟨bb, Hy.out, rfl, rfl⟩
  · have d2 : decide (65536 < (s.size : Int)) = true := by simp; omega
    have hno : ¬ KeyP s := fun h => by have := h.2.1; omega
    have Hno := Lib.hid hno; clear hno
    go_enter Tryz.func82, Tryz.ntmps82
    go_wp2
    go_ret
    exact IsB.no Hno.out

end Go.Proofs.YthmpmagajbmpaaaGreatDoor
