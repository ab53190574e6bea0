/-
  Words for the program's scanner (its text, its place, its first fault, in a block of the call's own), and contracts of its methods fail, rest, atEnd, mark; of anyTooLong of one text. Conditions: none beside a text's length.
-/
import Derived.Test.YtpfanmcjlfdaiaaGreatDoorRN1
import Derived.Test.YtpfanmcjlfdaiaaGreatDoorRBytes
import Derived.Test.YtpfanmcjlfdaiaaGreatDoorRShelf
import Derived.Deep.QuietTactic
import Derived.BigQuiet
import Derived.Outline
namespace Go.Proofs.YtpfanmcjlfdaiaaGreatDoorR
open Go.ChangeShapes Go.WideShapes Go.ChangeAt Go.RowKit
set_option linter.unusedVariables false
set_option linter.unusedSimpArgs false

/-- a scanner lies in block g -/
structure Scan (w : World) (g : Nat) (t : ByteArray) (a : Nat) (x : Value) : Prop where
  c0 : w.cell? ⟨g, 0, none⟩ = some (.string t)
  c1 : w.cell? ⟨g, 1, none⟩ = some (.int .i64 a)
  c2 : w.cell? ⟨g, 2, none⟩ = some x
  fz : ∀ i, w.frozen? ⟨g, i, none⟩ = false
  lt : g < w.heap.size

theorem Scan.below {w w' : World} {g a : Nat} {t : ByteArray} {x : Value} (h : Scan w g t a x) (hb : Below w.heap.size w w') : Scan w' g t a x :=
  ⟨(hb.cell (p := ⟨g, 0, none⟩) h.lt).trans h.c0, (hb.cell (p := ⟨g, 1, none⟩) h.lt).trans h.c1, (hb.cell (p := ⟨g, 2, none⟩) h.lt).trans h.c2, fun i => (hb.frozen (p := ⟨g, i, none⟩) h.lt).trans (h.fz i), Nat.lt_of_lt_of_le h.lt hb.size⟩

theorem Scan.go {w : World} {g a : Nat} {t : ByteArray} {x : Value} (h : Scan w g t a x) (n : Nat) : Scan (w.setCell ⟨g, 1, none⟩ (.int .i64 n)) g t n x :=
  ⟨(cset_ne w g 1 0 _ (by decide)).trans h.c0, cset_eq w g 1 _ h.c1, (cset_ne w g 1 2 _ (by decide)).trans h.c2, fun i => (frozen_setCell _ _ _ _).trans (h.fz i), by rw [size_setCell]; exact h.lt⟩

theorem Scan.err {w : World} {g a : Nat} {t : ByteArray} {x : Value} (h : Scan w g t a x) (y : Value) : Scan (w.setCell ⟨g, 2, none⟩ y) g t a y :=
  ⟨(cset_ne w g 2 0 _ (by decide)).trans h.c0, (cset_ne w g 2 1 _ (by decide)).trans h.c1, cset_eq w g 2 _ h.c2, fun i => (frozen_setCell _ _ _ _).trans (h.fz i), by rw [size_setCell]; exact h.lt⟩

theorem Scan.new (w : World) (t : ByteArray) (T : TypeId) : Scan (w.alloc (.cells #[.string t, .int .i64 0, .nilIface] T)) w.heap.size t 0 .nilIface :=
  ⟨by simp, by simp, by simp, free_alloc w _ T 0 w.heap.size rfl, by simp⟩

/-- a fault -/
def Bad (x : Value) : Prop := ∃ s n, x = .iface 188 (.agg #[.string s, .int .i64 n])

/-- a fault or none -/
def ErrV (x : Value) : Prop := x = .nilIface ∨ Bad x

theorem ErrV.nil : ErrV .nilIface := Or.inl rfl

theorem Bad.errV {x : Value} (h : Bad x) : ErrV x := Or.inr h

theorem bset' {B : Nat} {a w : World} (h : Below B a w) {p : Addr} (hp : B ≤ p.block) (u : Value) : Below B a (w.setCell p u) := h.setCell hp u

theorem grown_refl (w : World) (row : Option Nat) : w.grownBy w row := ⟨rfl, rfl, rfl, Nat.le_refl _, fun _ _ _ => rfl⟩

theorem grown_below {B g : Nat} {w w' : World} (h : w.grownBy w' (some g)) (hg : g < w.heap.size) (hB : B ≤ g) : Below B w w' := below_of_grown h (by omega) (fun g' e => by injection e with e; omega)

theorem fail_g (g a : Nat) (t s : ByteArray) (x : Value) (w : World) (h : Scan w g t a x) (hx : ErrV x) : Calls Tryz.prog 137 #[.pointer (some ⟨g, 0, none⟩), .string s] w fun e w' => e = .returned (.tuple #[]) ∧ ∃ y, Bad y ∧ Scan w' g t a y ∧ w.grownBy w' (some g) := by
  obtain ⟨c0, c1, c2, fz, hlt⟩ := h
  have f2 := fz 2
  rcases hx with rfl | ⟨s', n', rfl⟩
  · have H := Lib.hid (Scan.err (⟨c0, c1, c2, fz, hlt⟩ : Scan w g t a .nilIface) (.iface 188 (.agg #[.string s, .int .i64 a])))
    have Hb := Lib.hid (grown_setCell (grown_refl w (some g)) ⟨g, 2, none⟩ (Or.inl rfl) (.iface 188 (.agg #[.string s, .int .i64 a])))
    clear fz
    go_enter Tryz.func137, Tryz.ntmps137
    go_wp2
    exact ⟨rfl, .tuple #[], by simp [results, Tryz.results137, go_sem], rfl, _, ⟨s, a, rfl⟩, H.out, Hb.out⟩
  · have H := Lib.hid (⟨c0, c1, c2, fz, hlt⟩ : Scan w g t a (.iface 188 (.agg #[.string s', .int .i64 n'])))
    clear fz
    go_enter Tryz.func137, Tryz.ntmps137
    go_wp2
    exact ⟨rfl, .tuple #[], by simp [results, Tryz.results137, go_sem], rfl, _, ⟨s', n', rfl⟩, H.out, grown_refl _ _⟩

theorem fail_any (B g a : Nat) (t s : ByteArray) (x : Value) (w : World) (h : Scan w g t a x) (hx : ErrV x) (hB : B ≤ g) : Calls Tryz.prog 137 #[.pointer (some ⟨g, 0, none⟩), .string s] w fun e w' => e = .returned (.tuple #[]) ∧ ∃ y, Bad y ∧ Scan w' g t a y ∧ Below B w w' :=
  (fail_g g a t s x w h hx).mono fun e w' ⟨he, y, h1, h2, h3⟩ => ⟨he, y, h1, h2, grown_below h3 h.lt hB⟩

theorem rest_any (g a : Nat) (t : ByteArray) (x : Value) (w : World) (h : Scan w g t a x) (ha : a ≤ t.size) (hs : t.size ≤ 1048576) : Calls Tryz.prog 149 #[.pointer (some ⟨g, 0, none⟩)] w fun e w' => e = .returned (.string (t.extract a t.size)) ∧ Below w.heap.size w w' := by
  obtain ⟨c0, c1, c2, fz, hlt⟩ := h
  clear fz c2
  have i0 : (0 : Int) ≤ (a : Int) := by omega
  have i1 : (a : Int) ≤ (t.size : Int) := by omega
  go_enter Tryz.func149, Tryz.ntmps149
  go_wp2_with fail
  go_quiet (fail)
  go_wp2
  go_ret
  exact ⟨rfl, bdrewN (Below.refl _ _) _⟩

theorem atEnd_any (g a : Nat) (t : ByteArray) (x : Value) (w : World) (h : Scan w g t a x) (hs : t.size ≤ 1048576) : Calls Tryz.prog 136 #[.pointer (some ⟨g, 0, none⟩)] w fun e w' => e = .returned (.bool ((a : Int) == (t.size : Int))) ∧ Below w.heap.size w w' := by
  obtain ⟨c0, c1, c2, fz, hlt⟩ := h
  clear fz c2
  go_enter Tryz.func136, Tryz.ntmps136
  go_wp2_with fail
  go_quiet (fail)
  go_wp2
  go_ret
  exact ⟨rfl, bdrewN (Below.refl _ _) _⟩

theorem pre_iff {s p : List UInt8} : Lib.hasPrefix s p = true ↔ ∃ r, s = p ++ r := by
  unfold Lib.hasPrefix
  rw [List.isPrefixOf_iff_prefix]
  exact ⟨fun ⟨r, h⟩ => ⟨r, h.symm⟩, fun ⟨r, h⟩ => ⟨r, h.symm⟩⟩

/-- a text is in two parts, the first one read -/
def Parted (t : ByteArray) (a : Nat) (U R : List UInt8) : Prop := t.data.toList = U ++ R ∧ a = U.length

theorem Parted.le {t : ByteArray} {a : Nat} {U R : List UInt8} (h : Parted t a U R) : a ≤ t.size := by
  have : t.size = t.data.toList.length := by rw [Array.length_toList]; rfl
  rw [this, h.1, List.length_append, h.2]
  omega

theorem Parted.rest {t : ByteArray} {a : Nat} {U R : List UInt8} (h : Parted t a U R) : (t.extract a t.size).data.toList = R := by
  have e : t.size = t.data.toList.length := by rw [Array.length_toList]; rfl
  rw [ByteArray.data_extract, Array.toList_extract, List.extract_eq_take_drop, e, ← List.length_drop, List.take_length, h.1, h.2, List.drop_left]

theorem Parted.size {t : ByteArray} {a : Nat} {U R : List UInt8} (h : Parted t a U R) : t.size = a + R.length := by
  have : t.size = t.data.toList.length := by rw [Array.length_toList]; rfl
  rw [this, h.1, List.length_append, h.2]

theorem Parted.on {t : ByteArray} {a : Nat} {U p R : List UInt8} (h : Parted t a U (p ++ R)) : Parted t (a + p.length) (U ++ p) R := ⟨by rw [h.1, List.append_assoc], by rw [List.length_append, h.2]⟩

theorem Parted.at_ {t : ByteArray} {a : Nat} {U R : List UInt8} (h : Parted t a U R) (j : Nat) (hj : j < R.length) : ∃ hs : a + j < t.size, t[a + j] = R[j] := by
  have hs : a + j < t.size := by rw [h.size]; omega
  refine ⟨hs, ?_⟩
  show t.data.toList[a + j]'(by rw [Array.length_toList]; exact hs) = R[j]
  have e := h.2
  subst e
  rw [List.getElem_of_eq h.1, List.getElem_append_right (by omega)]
  congr 1
  omega

/-- what mark does -/
def Marked (t s : ByteArray) (a : Nat) (x : Value) (R : List UInt8) (a' : Nat) (x' : Value) : Prop := (x' = x ∧ a' = a + s.size ∧ ∃ R', R = s.data.toList ++ R') ∨ (Bad x' ∧ a' = a ∧ ∀ R', R ≠ s.data.toList ++ R')

theorem mark_g (g a : Nat) (t s : ByteArray) (x : Value) (U R : List UInt8) (w : World) (h : Scan w g t a x) (hx : ErrV x) (hp : Parted t a U R) (hs : t.size ≤ 1048576) (hz : s.size ≤ 1048576) :
    Calls Tryz.prog 135 #[.pointer (some ⟨g, 0, none⟩), .string s] w fun e w' => e = .returned (.tuple #[]) ∧ ∃ a' x', Scan w' g t a' x' ∧ Marked t s a x R a' x' ∧ w.grownBy w' (some g) := by
  have Hx := Lib.hid hx; clear hx
  have hR := hp.rest
  have hle := hp.le
  have hsz := hp.size
  have H := Lib.hid h; clear h
  cases hq : Lib.hasPrefix R s.data.toList
  · have hno : ∀ R', R ≠ s.data.toList ++ R' := fun R' e => by rw [pre_iff.2 ⟨R', e⟩] at hq; cases hq
    have HN := Lib.hid hno; clear hno
    rw [← hR] at hq
    have hr := rest_any g a t x w H.out hle hs
    clear hR hp hsz
    generalize t.extract a t.size = T at *
    go_enter Tryz.func135, Tryz.ntmps135
    go_wp2_with fail
    refine hr.mono ?_
    rintro e w1 ⟨rfl, hb1⟩
    have H1 := Lib.hid (H.out.below hb1)
    have b1 : w.grownBy w1 (some g) := grown_of_below hb1 _
    clear hr
    go_wp2_with fail
    refine (sh_strings_HasPrefix T s w1).mono ?_
    rw [hq]
    rintro e w2 ⟨rfl, rfl⟩
    go_wp2_with fail
    refine (fail_g g a t s x _ H1.out Hx.out).mono ?_
    rintro e w3 ⟨rfl, y, hy, hs3, hb3⟩
    have H3 := Lib.hid hs3; clear hs3
    have Hy := Lib.hid hy; clear hy
    have b3 := grown_trans b1 hb3
    clear hb3 hb1 b1 hq
    go_wp2
    exact bodyPost_ret (v := .tuple #[]) (by simp [results, Tryz.results135, go_sem]) rfl ⟨rfl, a, y, H3.out, Or.inr ⟨Hy.out, rfl, HN.out⟩, b3⟩
  · obtain ⟨R', hR'⟩ := pre_iff.1 hq
    have HM := Lib.hid (show Marked t s a x R (a + s.size) x from Or.inl ⟨rfl, rfl, R', hR'⟩)
    have wa : IntKind.i64.wrap ((a : Int) + (s.size : Int)) = ((a + s.size : Nat) : Int) := by rw [IntKind.wrap_i64]; omega
    rw [← hR] at hq
    have hr := rest_any g a t x w H.out hle hs
    clear hR' hR hp hsz
    generalize t.extract a t.size = T at *
    go_enter Tryz.func135, Tryz.ntmps135
    go_wp2_with fail
    refine hr.mono ?_
    rintro e w1 ⟨rfl, hb1⟩
    have h1 := H.out.below hb1
    have b1 : w.grownBy w1 (some g) := grown_of_below hb1 _
    clear hr
    go_wp2_with fail
    refine (sh_strings_HasPrefix T s w1).mono ?_
    rw [hq]
    rintro e w2 ⟨rfl, rfl⟩
    have H3 := Lib.hid (h1.go (a + s.size))
    obtain ⟨c0, c1, c2, fz, hlt⟩ := h1
    have f1 := fz 1
    have b3 := Lib.hid (grown_setCell b1 ⟨g, 1, none⟩ (Or.inl rfl) (.int .i64 ((a + s.size : Nat) : Int)))
    clear hb1 b1 hq fz c2 c0
    go_wp2
    refine bodyPost_end (v := .tuple #[]) (by simp [results, Tryz.results135, go_sem]) rfl ⟨rfl, a + s.size, x, ?_, HM.out, ?_⟩
    · exact H3.out
    · exact b3.out

theorem mark_any (B g a : Nat) (t s : ByteArray) (x : Value) (U R : List UInt8) (w : World) (h : Scan w g t a x) (hx : ErrV x) (hB : B ≤ g) (hp : Parted t a U R) (hs : t.size ≤ 1048576) (hz : s.size ≤ 1048576) :
    Calls Tryz.prog 135 #[.pointer (some ⟨g, 0, none⟩), .string s] w fun e w' => e = .returned (.tuple #[]) ∧ ∃ a' x', Scan w' g t a' x' ∧ Marked t s a x R a' x' ∧ Below B w w' :=
  (mark_g g a t s x U R w h hx hp hs hz).mono fun e w' ⟨he, a', x', h1, h2, h3⟩ => ⟨he, a', x', h1, h2, grown_below h3 h.lt hB⟩

theorem tooLong_any (b : Nat) (s : ByteArray) (w : World) (h : w.cell? ⟨b, 0, none⟩ = some (.string s)) (hs : s.size ≤ 2 ^ 63 - 1) : Calls Tryz.prog 113 #[.slice (some ⟨b, 0, none⟩) 1 1] w fun e w' => e = .returned (.bool (decide (65536 < (s.size : Int)))) ∧ w = w' := by
  go_enter Tryz.func113, Tryz.ntmps113
  go_wp2_with fail
  go_loop [7] (fun i => ∃ k : Nat, k ≤ 1 ∧ i = .int .i64 k ∧ (k = 1 → ¬ 65536 < s.size)) (fun i => 1 - (intOf i).toNat)
  case atStart => exact ⟨0, by omega, rfl, fun h => by omega⟩
  case round =>
    obtain ⟨k, hk, rfl, hn⟩ := hrel
    rcases (show k = 0 ∨ k = 1 by omega) with rfl | rfl
    · cases d : decide (65536 < (s.size : Int))
      · have d2 : ¬ 65536 < s.size := by simp at d; omega
        go_wp2
        go_round
        case rel => exact ⟨1, by omega, by go_num, fun _ => d2⟩
        case measure => simp [intOf]
      · go_wp2
        go_ret
        exact ⟨rfl, rfl⟩
    · have d : decide (65536 < (s.size : Int)) = false := by have := hn rfl; simp; omega
      go_wp2
      go_ret
      exact ⟨rfl, rfl⟩

end Go.Proofs.YtpfanmcjlfdaiaaGreatDoorR
