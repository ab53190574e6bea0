/-
  Contracts of the model's l00Number and l02Number: just a number's text is read, at least those of 18 digits. Conditions: a text's length.
-/
import Derived.Test.YtjmfffmjfbpgjaaDoorDv
import Derived.Outline
namespace Go.Proofs.YtjmfffmjfbpgjaaDoor
open Go.ChangeShapes Go.WideShapes Go.ChangeAt Go.RowKit
set_option linter.unusedVariables false
set_option linter.unusedSimpArgs false

/-- what l00Number answers -/
def NumOf (t : ByteArray) (n : Int) (b : Bool) : Prop := Small n ∧ ∀ m, Small m → t = numT m → b = true ∧ n = m

def NumOfEnd (t : ByteArray) (w : World) (e : Ending) (w' : World) : Prop := ∃ n b, e = .returned (.tuple #[.int .i64 n, .bool b]) ∧ NumOf t n b ∧ w = w'

theorem numOf_no {t : ByteArray} (h : ∀ m, Small m → t ≠ numT m) : NumOf t 0 false := ⟨by unfold Small; omega, fun m hm e => absurd e (h m hm)⟩

/-- what a text that a number has looks like behind its sign s -/
def Behind (t X : ByteArray) (s : Int) : Prop := ∀ m, Small m → t = numT m → ∃ u : Nat, m = s * u ∧ X.data.toList = Lib.decDigits u ∧ (s = -1 → 0 < u) ∧ u < 1000000000000000000

theorem behind_neg {t : ByteArray} (h0 : 0 < t.size) (h : t[0] = 45) : Behind t (t.extract 1 t.size) (-1) := by
  intro m hm e
  have hl : t.data.toList = Lib.itoa m := by rw [e, num_list]
  have hh : t.data.toList[0]'(by rw [Array.length_toList]; exact h0) = 45 := h
  unfold Small at hm
  by_cases hp : 0 ≤ m
  · rw [itoa_pos hp] at hl
    have := (dec_facts m.toNat).1 45 (by rw [← hl, ← hh]; exact List.getElem_mem _)
    unfold isDig at this
    exact absurd this.1 (by decide)
  · rw [itoa_neg (by omega)] at hl
    refine ⟨m.natAbs, by omega, ?_, fun _ => by omega, by omega⟩
    have es : t.size = t.data.toList.length := by rw [Array.length_toList]; rfl
    rw [ByteArray.data_extract, Array.toList_extract, List.extract_eq_take_drop, es, hl]
    simp

theorem behind_pos {t : ByteArray} (h : ∀ h0 : 0 < t.size, t[0] ≠ 45) : Behind t t 1 := by
  intro m hm e
  have hl : t.data.toList = Lib.itoa m := by rw [e, num_list]
  unfold Small at hm
  by_cases hp : 0 ≤ m
  · rw [itoa_pos hp] at hl
    exact ⟨m.toNat, by omega, hl, fun h => by omega, by omega⟩
  · rw [itoa_neg (by omega)] at hl
    have es : t.size = t.data.toList.length := by rw [Array.length_toList]; rfl
    have h0 : 0 < t.size := by rw [es, hl]; simp
    refine absurd ?_ (h h0)
    show t.data.toList[0]'(by rw [Array.length_toList]; exact h0) = 45
    simp [hl]

theorem behind_len {t X : ByteArray} {s : Int} (h : Behind t X s) (hx : X.size = 0 ∨ 18 < X.size) : ∀ m, Small m → t ≠ numT m := by
  intro m hm e
  obtain ⟨u, _, h2, _, h4⟩ := h m hm e
  have es : X.size = X.data.toList.length := by rw [Array.length_toList]; rfl
  have hl := dec_len 17 u (by omega)
  obtain ⟨_, _, b, r, f3, _⟩ := dec_facts u
  rw [← h2] at hl f3
  rcases hx with hx | hx
  · rw [es, f3] at hx
    simp at hx
  · omega

theorem behind_zero {t X : ByteArray} {s : Int} (h : Behind t X s) (h0 : 0 < X.size) (hz : X[0] = 48) (hx : 1 < X.size ∨ s = -1) : ∀ m, Small m → t ≠ numT m := by
  intro m hm e
  obtain ⟨u, _, h2, h3, _⟩ := h m hm e
  have es : X.size = X.data.toList.length := by rw [Array.length_toList]; rfl
  have hh : X.data.toList[0]'(by rw [Array.length_toList]; exact h0) = 48 := hz
  obtain ⟨_, _, b, r, f3, f4⟩ := dec_facts u
  rw [← h2] at f3
  have hb : b = 48 := by simpa [f3] using hh
  by_cases hu : 0 < u
  · exact f4 hu (by rw [hb]; rfl)
  · obtain rfl : u = 0 := by omega
    rw [Lib.decDigits_one (by omega)] at h2
    rcases hx with hx | hx
    · rw [es, h2] at hx
      simp at hx
    · have := h3 hx
      omega

theorem behind_dig {t X : ByteArray} {s : Int} (h : Behind t X s) {k : Nat} (hk : k < X.size) (hd : ¬ isDig X[k]) : ∀ m, Small m → t ≠ numT m := by
  intro m hm e
  obtain ⟨u, _, h2, _, _⟩ := h m hm e
  apply hd
  apply (dec_facts u).1
  rw [← h2]
  exact List.getElem_mem (l := X.data.toList) (by rw [Array.length_toList]; exact hk)

theorem behind_end {t X : ByteArray} {s : Int} (h : Behind t X s) (hs : s = 1 ∨ s = -1) (hx : X.size ≤ 18) (hd : ∀ b ∈ X.data.toList, isDig b) : NumOf t (s * (dval X.data.toList : Int)) true := by
  have es : X.size = X.data.toList.length := by rw [Array.length_toList]; rfl
  have hl := dval_lt X.data.toList 0 hd
  have hp : 10 ^ X.data.toList.length ≤ 10 ^ 18 := Nat.pow_le_pow_right (by omega) (by omega)
  refine ⟨?_, fun m hm e => ⟨rfl, ?_⟩⟩
  · have : dval X.data.toList = dvalF 0 X.data.toList := rfl
    unfold Small
    rcases hs with rfl | rfl <;> omega
  · obtain ⟨u, h1, h2, _, _⟩ := h m hm e
    rw [h1, h2, (dec_facts u).2.1]

theorem small_fit' {m : Int} (h : Small m) : -9223372036854775808 ≤ m ∧ m ≤ 9223372036854775807 := by unfold Small at h; omega

/-- what l02Number answers -/
def Rd2End (t : ByteArray) (w : World) (e : Ending) (w' : World) : Prop := ∃ n b, e = .returned (.tuple #[.int .i64 n, .bool b]) ∧ NumRd t n b ∧ Below w.heap.size w w'

end Go.Proofs.YtjmfffmjfbpgjaaDoor
