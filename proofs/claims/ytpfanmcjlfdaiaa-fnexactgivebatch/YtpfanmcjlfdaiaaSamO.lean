/-
  Samples by the names that the struct's maker wants; slices.Equal over samples: true just where all is alike. No conditions.
-/
import Derived.Test.YtpfanmcjlfdaiaaConv
import Derived.Test.YtpfanmcjlfdaiaaMarkSam
import Derived.Laws.StructEq
namespace Go.Proofs.Ytpfanmcjlfdaiaa
open Go.ChangeShapes Go.WideShapes Go.ChangeAt Go.RowKit
set_option linter.unusedVariables false
set_option linter.unusedSimpArgs false

theorem SamsAt.one {w : World} {B : Nat} {A : Option Addr} {xs : List GSam} (h : SamsAt w B A xs) {k : Nat} (hk : k < xs.length) :
    ∃ b off, A = some ⟨b, off, none⟩ ∧ b < B ∧ w.cell? ⟨b, off + k * 2, none⟩ = some (.int .i64 xs[k].t) ∧ w.cell? ⟨b, off + k * 2 + 1, none⟩ = some (.int .i64 xs[k].v) := by
  obtain ⟨b, off, e, hb, hc⟩ := Sl.at_ h hk
  exact ⟨b, off, e, hb, hc 0 _ rfl, hc 1 _ rfl⟩

theorem sam_cases (o p : GSam) : (o = p) ∨ (o ≠ p ∧ (o.t == p.t) = false) ∨ (o ≠ p ∧ (o.t == p.t) = true ∧ (o.v == p.v) = false) := by
  by_cases h0 : o.t = p.t
  · by_cases h1 : o.v = p.v
    · exact .inl (by cases o; cases p; simp at h0 h1; simp [h0, h1])
    · exact .inr (.inr ⟨fun e => h1 (by rw [e]), by simpa using h0, by simpa using h1⟩)
  · exact .inr (.inl ⟨fun e => h0 (by rw [e]), by simpa using h0⟩)

abbrev marksSam := pmarks

theorem bdrewNS {B : Nat} {a w : World} (h : Below B a w) (n : Nat) : Below B a (w.drewN n) := ⟨h.os, h.tape, h.output, h.size, h.block⟩

set_option maxRecDepth 100000 in
theorem slicesEqSam_any (A1 A2 : Option Addr) (c1 c2 : Nat) (xs ys : List GSam) (B : Nat) (w : World) (h1 : SamsAt w B A1 xs) (h2 : SamsAt w B A2 ys) (hB : B ≤ w.heap.size) (hl : xs.length ≤ 4611686018427387904) (hl2 : ys.length ≤ 4611686018427387904) :
    Calls Try.prog 36 #[.slice A1 xs.length c1, .slice A2 ys.length c2] w (IsBB (xs = ys) w) := by
  by_cases hlen : xs.length = ys.length
  · have hd : ((xs.length : Int) != (ys.length : Int)) = false := by simp; omega
    have hd2 : ((xs.length : Int) == (ys.length : Int)) = true := by simp; omega
    have Hlen := Lib.hid hlen; clear hlen
    have H1 := Lib.hid h1; clear h1
    have H2 := Lib.hid h2; clear h2
    go_enter Try.func36, Try.ntmps36
    go_wp2_with fail
    go_loopw [13] (fun i wr => ∃ k : Nat, k ≤ xs.length ∧ i = .int .i64 k ∧ Hid (xs.take k = ys.take k) ∧ Below w.heap.size w wr) (fun i _ => xs.length - (intOf i).toNat)
    case atStart => exact ⟨0, by omega, rfl, Lib.hid (by simp), Below.refl _ _⟩
    case round =>
      obtain ⟨k, hk, rfl, H, hb⟩ := hrel
      by_cases hlt : k < xs.length
      · have hy : k < ys.length := by have := Hlen.out; omega
        obtain ⟨b1, o1, rfl, hb1, p0, p1⟩ := SamsAt.one (Sl.below H1.out hb hB) hlt
        obtain ⟨b2, o2, rfl, hb2, q0, q1⟩ := SamsAt.one (Sl.below H2.out hb hB) hy
        rcases sam_cases xs[k] ys[k] with he | ⟨he, f0⟩ | ⟨he, f0, f1⟩
        · have hn : xs.take (k + 1) = ys.take (k + 1) := by
            rw [List.take_succ_eq_append_getElem hlt, List.take_succ_eq_append_getElem hy, H.out, he]
          have Hn := Lib.hid hn; clear hn
          rw [← he] at q0 q1
          clear he
          go_wp2_with fail
          go_quiet (fail)
          go_wp2
          go_roundw
          case rel => exact ⟨k + 1, by omega, by go_num, Hn, bdrewNS hb _⟩
          case measure => simp [intOf]; omega
        · have hn : ¬ (xs = ys) := fun h => he (by simp [h])
          have Hn := Lib.hid hn; clear hn he
          go_wp2_with fail
          go_quiet (fail)
          go_wp2
          go_ret
          exact ⟨false, by simp [Hn.out], rfl, bdrewNS hb _⟩
        · have hn : ¬ (xs = ys) := fun h => he (by simp [h])
          have Hn := Lib.hid hn; clear hn he
          go_wp2_with fail
          go_quiet (fail)
          go_wp2
          go_ret
          exact ⟨false, by simp [Hn.out], rfl, bdrewNS hb _⟩
      · have hyes : xs = ys := by
          have h1 := H.out
          have h2 := Hlen.out
          rw [List.take_of_length_le (by omega), List.take_of_length_le (by omega)] at h1
          exact h1
        have Hy := Lib.hid hyes; clear hyes
        go_wp2
        go_ret
        exact ⟨true, by simp [Hy.out], rfl, hb⟩
  · have hd : ((xs.length : Int) != (ys.length : Int)) = true := by simp; omega
    have hd2 : ((xs.length : Int) == (ys.length : Int)) = false := by simp; omega
    have hno : ¬ (xs = ys) := fun h => hlen (by rw [h])
    have Hno := Lib.hid hno; clear hno hlen h1 h2
    go_enter Try.func36, Try.ntmps36
    go_wp2
    go_ret
    exact ⟨false, by simp [Hno.out], rfl, Below.refl _ _⟩

theorem szSampleS_B (A : Option Addr) (c : Nat) (xs : List GSam) (left : Int) (B : Nat) (w : World) (h : SamsAt w B A xs) (hB : B ≤ w.heap.size) (hl : xs.length ≤ maxLen) (h0 : 0 ≤ left) (h1 : left ≤ 1048576) :
    Calls Try.prog 16 #[.slice A xs.length c, .int .i64 left] w (Left (xs.length ≤ 1048576) left w) :=
  (szSampleS_any A c xs left w hl h0 h1).mono (fun e w' ⟨u, a, b, d, he, hw⟩ => ⟨u, fun h => ⟨by have := (a h).1; omega, d⟩, b, by omega, he, hw ▸ Below.refl _ _⟩)

end Go.Proofs.Ytpfanmcjlfdaiaa
