/-
  Words for the program's scanner (its text, its place, its first fault, in a block of the call's own), and contracts of its methods fail, rest, atEnd, mark; of anyTooLong of one text. Conditions: none beside a text's length.
-/
import Derived.Test.YtkpaocejpjhkpaaGreatDoorMem
import Derived.Test.YtkpaocejpjhkpaaGreatDoorBytes
import Derived.Test.YtkpaocejpjhkpaaGreatDoorShelf
import Derived.Deep.QuietTactic
import Derived.BigQuiet
import Derived.Outline
namespace Go.Proofs.YtkpaocejpjhkpaaGreatDoor
open Go.ChangeShapes Go.WideShapes Go.ChangeAt Go.RowKit
set_option linter.unusedVariables false
set_option linter.unusedSimpArgs false

/-- a scanner lies in block g -/
structure Scan (w : World) (g : Nat) (t : ByteArray) (a : Nat) (x : Value) : Prop where
  c0 : w.cell? ⟨g, 0, none⟩ = some (.string t)
  c1 : w.cell? ⟨g, 1, none⟩ = some (.int .i64 a)
  c2 : w.cell? ⟨g, 2, none⟩ = some x
  fz : ∀ i, w.frozen? ⟨g, i, none⟩ = false
  lt : g < w.heap.size

theorem Scan.below {w w' : World} {g a : Nat} {t : ByteArray} {x : Value} (h : Scan w g t a x) (hb : Below w.heap.size w w') : Scan w' g t a x :=
  ⟨(hb.cell (p := ⟨g, 0, none⟩) h.lt).trans h.c0, (hb.cell (p := ⟨g, 1, none⟩) h.lt).trans h.c1, (hb.cell (p := ⟨g, 2, none⟩) h.lt).trans h.c2, fun i => (hb.frozen (p := ⟨g, i, none⟩) h.lt).trans (h.fz i), Nat.lt_of_lt_of_le h.lt hb.size⟩

theorem Scan.go {w : World} {g a : Nat} {t : ByteArray} {x : Value} (h : Scan w g t a x) (n : Nat) : Scan (w.setCell ⟨g, 1, none⟩ (.int .i64 n)) g t n x :=
  ⟨(cset_ne w g 1 0 _ (by decide)).trans h.c0, cset_eq w g 1 _ h.c1, (cset_ne w g 1 2 _ (by decide)).trans h.c2, fun i => (frozen_setCell _ _ _ _).trans (h.fz i), by rw [size_setCell]; exact h.lt⟩

theorem Scan.err {w : World} {g a : Nat} {t : ByteArray} {x : Value} (h : Scan w g t a x) (y : Value) : Scan (w.setCell ⟨g, 2, none⟩ y) g t a y :=
  ⟨(cset_ne w g 2 0 _ (by decide)).trans h.c0, (cset_ne w g 2 1 _ (by decide)).trans h.c1, cset_eq w g 2 _ h.c2, fun i => (frozen_setCell _ _ _ _).trans (h.fz i), by rw [size_setCell]; exact h.lt⟩

theorem Scan.new (w : World) (t : ByteArray) (T : TypeId) : Scan (w.alloc (.cells #[.string t, .int .i64 0, .nilIface] T)) w.heap.size t 0 .nilIface :=
  ⟨by simp, by simp, by simp, free_alloc w _ T 0 w.heap.size rfl, by simp⟩

theorem bset' {B : Nat} {a w : World} (h : Below B a w) {p : Addr} (hp : B ≤ p.block) (u : Value) : Below B a (w.setCell p u) := h.setCell hp u

theorem grown_refl (w : World) (row : Option Nat) : w.grownBy w row := ⟨rfl, rfl, rfl, Nat.le_refl _, fun _ _ _ => rfl⟩

theorem grown_below {B g : Nat} {w w' : World} (h : w.grownBy w' (some g)) (hg : g < w.heap.size) (hB : B ≤ g) : Below B w w' := below_of_grown h (by omega) (fun g' e => by injection e with e; omega)

theorem pre_iff {s p : List UInt8} : Lib.hasPrefix s p = true ↔ ∃ r, s = p ++ r := by
  unfold Lib.hasPrefix
  rw [List.isPrefixOf_iff_prefix]
  exact ⟨fun ⟨r, h⟩ => ⟨r, h.symm⟩, fun ⟨r, h⟩ => ⟨r, h.symm⟩⟩

/-- a text is in two parts, the first one read -/
def Parted (t : ByteArray) (a : Nat) (U R : List UInt8) : Prop := t.data.toList = U ++ R ∧ a = U.length

theorem Parted.le {t : ByteArray} {a : Nat} {U R : List UInt8} (h : Parted t a U R) : a ≤ t.size := by
  have : t.size = t.data.toList.length := by rw [Array.length_toList]; rfl
  rw [this, h.1, List.length_append, h.2]
  omega

theorem Parted.rest {t : ByteArray} {a : Nat} {U R : List UInt8} (h : Parted t a U R) : (t.extract a t.size).data.toList = R := by
  have e : t.size = t.data.toList.length := by rw [Array.length_toList]; rfl
  rw [ByteArray.data_extract, Array.toList_extract, List.extract_eq_take_drop, e, ← List.length_drop, List.take_length, h.1, h.2, List.drop_left]

theorem Parted.size {t : ByteArray} {a : Nat} {U R : List UInt8} (h : Parted t a U R) : t.size = a + R.length := by
  have : t.size = t.data.toList.length := by rw [Array.length_toList]; rfl
  rw [this, h.1, List.length_append, h.2]

theorem Parted.on {t : ByteArray} {a : Nat} {U p R : List UInt8} (h : Parted t a U (p ++ R)) : Parted t (a + p.length) (U ++ p) R := ⟨by rw [h.1, List.append_assoc], by rw [List.length_append, h.2]⟩

theorem Parted.at_ {t : ByteArray} {a : Nat} {U R : List UInt8} (h : Parted t a U R) (j : Nat) (hj : j < R.length) : ∃ hs : a + j < t.size, t[a + j] = R[j] := by
  have hs : a + j < t.size := by rw [h.size]; omega
  refine ⟨hs, ?_⟩
  show t.data.toList[a + j]'(by rw [Array.length_toList]; exact hs) = R[j]
  have e := h.2
  subst e
  rw [List.getElem_of_eq h.1, List.getElem_append_right (by omega)]
  congr 1
  omega

theorem tooLong_any (b : Nat) (s : ByteArray) (w : World) (h : w.cell? ⟨b, 0, none⟩ = some (.string s)) (hs : s.size ≤ 2 ^ 63 - 1) : Calls Tryz.prog 77 #[.slice (some ⟨b, 0, none⟩) 1 1] w fun e w' => e = .returned (.bool (decide (65536 < (s.size : Int)))) ∧ w = w' := by
  go_enter Tryz.func77, Tryz.ntmps77
  go_wp2_with fail
  go_loop [7] (fun i => ∃ k : Nat, k ≤ 1 ∧ i = .int .i64 k ∧ (k = 1 → ¬ 65536 < s.size)) (fun i => 1 - (intOf i).toNat)
  case atStart => exact ⟨0, by omega, rfl, fun h => by omega⟩
  case round =>
    obtain ⟨k, hk, rfl, hn⟩ := hrel
    rcases (show k = 0 ∨ k = 1 by omega) with rfl | rfl
    · cases d : decide (65536 < (s.size : Int))
      · have d2 : ¬ 65536 < s.size := by simp at d; omega
        go_wp2
        go_round
        case rel => exact ⟨1, by omega, by go_num, fun _ => d2⟩
        case measure => simp [intOf]
      · go_wp2
        go_ret
        exact ⟨rfl, rfl⟩
    · have d : decide (65536 < (s.size : Int)) = false := by have := hn rfl; simp; omega
      go_wp2
      go_ret
      exact ⟨rfl, rfl⟩

end Go.Proofs.YtkpaocejpjhkpaaGreatDoor
