/-
  Slices of texts: words for them, and contracts of the laws' helpers on them (eq, mark, held); of prefixes; of lengths.
-/
import Derived.Test.YthmpmagajbmpaaaDoorHeld
import Derived.WalkLawsBesides
namespace Go.Proofs.YthmpmagajbmpaaaDoor
open Go.ChangeShapes Go.WideShapes Go.ChangeAt Go.RowKit
set_option linter.unusedVariables false

def sVals (s : ByteArray) : List Value := [.string s]

theorem sVals_length (s : ByteArray) : (sVals s).length = 1 := rfl

/-- a slice of texts -/
def StrsAt (w : World) (B : Nat) (A : Option Addr) (xs : List ByteArray) : Prop := Sl sVals 1 w B A xs

theorem StrsAt.at_ {w : World} {B : Nat} {A : Option Addr} {xs : List ByteArray} (h : StrsAt w B A xs) {k : Nat} (hk : k < xs.length) :
    ∃ b off, A = some ⟨b, off, none⟩ ∧ b < B ∧ w.cell? ⟨b, off + k, none⟩ = some (.string xs[k]) := by
  obtain ⟨b, off, e, hb, hc⟩ := Sl.at_ h hk
  have := hc 0 (.string xs[k]) rfl
  simp only [Nat.mul_one, Nat.add_zero] at this
  exact ⟨b, off, e, hb, this⟩

set_option maxRecDepth 100000 in
theorem eqStringS_any (A1 A2 : Option Addr) (c1 c2 : Nat) (xs ys : List ByteArray) (B : Nat) (w : World) (h1 : StrsAt w B A1 xs) (h2 : StrsAt w B A2 ys) (hB : B ≤ w.heap.size) (hl : xs.length ≤ 4611686018427387904) (hl2 : ys.length ≤ 4611686018427387904) :
    Calls Tryd.prog 26 #[.slice A1 xs.length c1, .slice A2 ys.length c2] w (IsBB (xs = ys) w) := by
  by_cases hlen : xs.length = ys.length
  · have hd : ((xs.length : Int) != (ys.length : Int)) = false := by simp; omega
    have hd2 : ((xs.length : Int) == (ys.length : Int)) = true := by simp; omega
    have Hlen := Lib.hid hlen; clear hlen
    have H1 := Lib.hid h1; clear h1
    have H2 := Lib.hid h2; clear h2
    go_enter Tryd.func26, Tryd.ntmps26
    go_wp2_with fail
    go_loopw [5] (fun i wr => ∃ k : Nat, k ≤ xs.length ∧ i = .int .i64 k ∧ Hid (xs.take k = ys.take k) ∧ Below w.heap.size w wr) (fun i _ => xs.length - (intOf i).toNat)
    case atStart => exact ⟨0, by omega, rfl, Lib.hid (by simp), Below.refl _ _⟩
    case round =>
      obtain ⟨k, hk, rfl, H, hb⟩ := hrel
      by_cases hlt : k < xs.length
      · have hy : k < ys.length := by have := Hlen.out; omega
        obtain ⟨b1, o1, rfl, hb1, p0⟩ := StrsAt.at_ (Sl.below H1.out hb hB) hlt
        obtain ⟨b2, o2, rfl, hb2, q0⟩ := StrsAt.at_ (Sl.below H2.out hb hB) hy
        by_cases he : xs[k] = ys[k]
        · have hn : xs.take (k + 1) = ys.take (k + 1) := by
            rw [List.take_succ_eq_append_getElem hlt, List.take_succ_eq_append_getElem hy, H.out, he]
          have Hn := Lib.hid hn; clear hn
          rw [← he] at q0
          clear he
          go_wp2_with fail
          go_quiet (fail)
          go_wp2
          go_roundw
          case rel => exact ⟨k + 1, by omega, by go_num, Hn, bdrewN hb _⟩
          case measure => simp [intOf]; omega
        · have hn : ¬ (xs = ys) := fun h => he (by simp [h])
          have Hn := Lib.hid hn; clear hn
          have f0 := ne_list he
          clear he
          go_wp2_with fail
          go_quiet (fail)
          go_wp2
          go_ret
          exact ⟨false, by simp [Hn.out], rfl, bdrewN hb _⟩
      · have hyes : xs = ys := by
          have h1 := H.out
          have h2 := Hlen.out
          rw [List.take_of_length_le (by omega), List.take_of_length_le (by omega)] at h1
          exact h1
        have Hy := Lib.hid hyes; clear hyes
        go_wp2
        go_ret
        exact ⟨true, by simp [Hy.out], rfl, hb⟩
  · have hd : ((xs.length : Int) != (ys.length : Int)) = true := by simp; omega
    have hd2 : ((xs.length : Int) == (ys.length : Int)) = false := by simp; omega
    have hno : ¬ (xs = ys) := fun h => hlen (by rw [h])
    have Hno := Lib.hid hno; clear hno hlen h1 h2
    go_enter Tryd.func26, Tryd.ntmps26
    go_wp2
    go_ret
    exact ⟨false, by simp [Hno.out], rfl, Below.refl _ _⟩

def smarks (k : Int) (n : Nat) : List ByteArray := (List.range n).map fun i : Nat => mtx (k + (i : Int))

theorem length_smarks (k : Int) (n : Nat) : (smarks k n).length = n := by simp [smarks]

theorem smarks_succ (k : Int) (n : Nat) : smarks k (n + 1) = smarks k n ++ [mtx (k + (n : Int))] := by simp [smarks, List.range_succ]

theorem smarks_at (k : Int) (n i : Nat) (h : i < (smarks k n).length) : (smarks k n)[i] = mtx (k + (i : Int)) := by simp [smarks]

set_option maxRecDepth 100000 in
theorem markStringS_any (A : Option Addr) (c : Nat) (k : Int) (xs : List ByteArray) (B : Nat) (w : World) (h : StrsAt w B A xs) (hf : Free w A) (hB : B ≤ w.heap.size) (hl : xs.length ≤ 16777216) (hk0 : 0 ≤ k) (hk : k ≤ 16777216) :
    Calls Tryd.prog 27 #[.slice A xs.length c, .int .i64 k] w fun e w' => e = .returned (.int .i64 (k + xs.length)) ∧ StrsAt w' B A (smarks k xs.length) ∧ w.grownBy w' (blk A) ∧ Free w' A := by
  have H := Lib.hid h; clear h
  have Hf := Lib.hid hf; clear hf
  go_enter Tryd.func27, Tryd.ntmps27
  go_wp2_with fail
  go_loopw [1, 5] (fun t i wr => ∃ j : Nat, j ≤ xs.length ∧ i = .int .i64 j ∧ t = .int .i64 (k + j) ∧ Hid (StrsAt wr B A (smarks k j ++ xs.drop j)) ∧ w.grownBy wr (blk A) ∧ Hid (Free wr A)) (fun _ i _ => xs.length - (intOf i).toNat)
  case atStart => exact ⟨0, by omega, rfl, by simp, Lib.hid (by simpa [smarks] using H.out), World.grownBy.refl _ _, Hf⟩
  case round =>
    obtain ⟨j, hj, rfl, rfl, Hr, hg, Hfr⟩ := hrel
    by_cases hlt : j < xs.length
    · have hjl : j < (smarks k j ++ xs.drop j).length := by simp [length_smarks]; omega
      obtain ⟨b, off, rfl, hb, p0⟩ := StrsAt.at_ Hr.out hjl
      have hbs : b < wr.heap.size := by have := hg.size; omega
      obtain ⟨v0, q0⟩ : ∃ v, wr.cell? ⟨b, off + j, none⟩ = some v := ⟨_, p0⟩
      clear p0
      have fz : ∀ i, wr.frozen? ⟨b, i, none⟩ = false := Hfr.out b rfl
      have Fz := Lib.hid fz; clear fz
      go_wp2_with fail
      refine (markText_any _ _ (by omega)).mono ?_
      rintro e w1 ⟨rfl, hb1⟩
      have c0 : w1.cell? ⟨b, off + j, none⟩ = some v0 := (hb1.cell hbs).trans q0
      have f0 : w1.frozen? ⟨b, off + j, none⟩ = false := (hb1.frozen hbs).trans (Fz.out _)
      have hn : StrsAt (w1.setCell ⟨b, off + j, none⟩ (.string (mtx (k + (j : Int))))) B (some ⟨b, off, none⟩) (smarks k (j + 1) ++ xs.drop (j + 1)) := by
        rw [smarks_succ, ← set_mid (smarks k j) xs j (mtx (k + (j : Int))) (length_smarks k j) hlt]
        refine Sl.set Hr.out sVals_length hjl _ ?_ ?_
        · intro i v hv
          match i, hv with
          | 0, hv =>
            simp [sVals] at hv; subst hv
            simp only [Nat.mul_one, Nat.add_zero]
            exact cset_eq _ _ _ _ c0
          | i + 1, hv => simp [sVals] at hv
        · intro i hi
          rw [cset_ne _ _ _ _ _ (by omega)]
          exact hb1.cell hbs
      have Hn := Lib.hid hn; clear hn
      have hg3 : w.grownBy (w1.setCell ⟨b, off + j, none⟩ (.string (mtx (k + (j : Int))))) (some b) := grown_setCell (grown_trans hg (grown_of_below hb1 _)) ⟨b, off + j, none⟩ (.inl rfl) _
      have hf3 : Free (w1.setCell ⟨b, off + j, none⟩ (.string (mtx (k + (j : Int))))) (some ⟨b, off, none⟩) := fun b' e i => by
        simp [blk] at e; subst e
        rw [frozen_setCell]; exact (hb1.frozen hbs).trans (Fz.out i)
      have Hf3 := Lib.hid hf3; clear hf3
      have Hg3 := Lib.hid hg3; clear hg3
      go_wp2
      go_roundw
      case rel => exact ⟨j + 1, by omega, by go_num, by go_num, Hn, Hg3.out, Hf3⟩
      case measure => simp [intOf]; omega
    · obtain rfl : j = xs.length := by omega
      have hn : StrsAt wr B A (smarks k xs.length) := by simpa using Hr.out
      have Hn := Lib.hid hn; clear hn
      go_wp2
      go_ret
      exact ⟨rfl, Hn.out, hg, Hfr.out⟩

set_option maxRecDepth 100000 in
theorem heldStringS_any (A : Option Addr) (c n : Nat) (k : Int) (B : Nat) (w : World) (h : StrsAt w B A (smarks k n)) (hB : B ≤ w.heap.size) (hl : n ≤ 16777216) (hk0 : 0 ≤ k) (hk : k ≤ 16777216) :
    Calls Tryd.prog 28 #[.slice A n c, .int .i64 k] w fun e w' => e = .returned (.int .i64 (k + n)) ∧ Below w.heap.size w w' := by
  have H := Lib.hid h; clear h
  go_enter Tryd.func28, Tryd.ntmps28
  go_wp2_with fail
  go_loopw [1, 5] (fun t i wr => ∃ j : Nat, j ≤ n ∧ i = .int .i64 j ∧ t = .int .i64 (k + j) ∧ Below w.heap.size w wr) (fun _ i _ => n - (intOf i).toNat)
  case atStart => exact ⟨0, by omega, rfl, by simp, Below.refl _ _⟩
  case round =>
    obtain ⟨j, hj, rfl, rfl, hb⟩ := hrel
    by_cases hlt : j < n
    · have hjl : j < (smarks k n).length := by rw [length_smarks]; exact hlt
      obtain ⟨b, off, rfl, hbB, p0⟩ := StrsAt.at_ (Sl.below H.out hb hB) hjl
      rw [smarks_at] at p0
      have hbs : b < wr.heap.size := by have := hb.size; omega
      go_wp2_with fail
      go_region_held3 (fun w' => w'.cell? ⟨b, off + j, none⟩ = some (.string (mtx (k + (j : Int))))) (first | go_keep | (rw [hb1.cell (by simpa using hbs)]; simpa using p0))
        (first | (go_at_call 49; refine (markText_any _ _ (by omega)).mono ?_; rintro e w1 ⟨rfl, hb1⟩))
      have hbd : Below wr.heap.size wr w1 := (Below.refl _ _).drew.trans hb1
      have hbw1 : Below w.heap.size w w1 := hb.trans (hbd.mono hb.size)
      clear p0 hb1 hbd
      go_wp2
      go_roundw
      case rel => exact ⟨j + 1, by omega, by go_num, by go_num, hbw1⟩
      case measure => simp [intOf]; omega
    · obtain rfl : j = n := by omega
      go_wp2
      go_ret
      exact ⟨rfl, hb⟩

/-- one text is the beginning of another -/
def pfx (s p : ByteArray) : Bool := decide (p.size ≤ s.size) && ((s.extract 0 p.size).toList == p.toList)

theorem litePrefix_any (s p : ByteArray) (w : World) (hs : s.size ≤ maxLen) (hp : p.size ≤ maxLen) : Calls Tryd.prog 104 #[.string s, .string p] w fun e w' => e = .returned (.bool (pfx s p)) ∧ w = w' := by
  unfold maxLen at hs hp
  by_cases h : p.size ≤ s.size
  · have e1 : pfx s p = ((s.extract 0 p.size).toList == p.toList) := by simp [pfx, h]
    have E1 := Lib.hid e1; clear e1
    go_enter Tryd.func104, Tryd.ntmps104
    go_wp2
    go_ret
    exact ⟨by rw [E1.out]; rfl, rfl⟩
  · have e1 : pfx s p = false := by simp [pfx, h]
    have E1 := Lib.hid e1; clear e1
    have d1 : decide ((p.size : Int) ≤ (s.size : Int)) = false := by simp; omega
    go_enter Tryd.func104, Tryd.ntmps104
    go_wp2
    go_ret
    exact ⟨by rw [E1.out]; rfl, rfl⟩

theorem hasPrefix_any (s p : ByteArray) (w : World) (hs : s.size ≤ maxLen) (hp : p.size ≤ maxLen) : Calls Tryd.prog 100 #[.string s, .string p] w fun e w' => e = .returned (.bool (pfx s p)) ∧ w = w' := by
  go_enter Tryd.func100, Tryd.ntmps100
  go_wp2_with fail
  refine (litePrefix_any s p w hs hp).mono ?_
  rintro e w' ⟨rfl, rfl⟩
  go_wp2
  go_ret
  exact ⟨rfl, rfl⟩

/-- some text is longer than a text may be -/
theorem anyTooLong_any (A : Option Addr) (c : Nat) (xs : List ByteArray) (B : Nat) (w : World) (h : StrsAt w B A xs) (hl : xs.length ≤ 4611686018427387904) (hf : ∀ s ∈ xs, s.size ≤ maxLen) :
    Calls Tryd.prog 92 #[.slice A xs.length c] w (IsB (∃ s ∈ xs, 65536 < s.size) w) := by
  unfold maxLen at hf
  have H := Lib.hid h; clear h
  have Hf := Lib.hid hf; clear hf
  go_enter Tryd.func92, Tryd.ntmps92
  go_wp2_with fail
  go_loop [7] (fun i => ∃ k : Nat, k ≤ xs.length ∧ i = .int .i64 k ∧ Hid (∀ s ∈ xs.take k, ¬ 65536 < s.size)) (fun i => xs.length - (intOf i).toNat)
  case atStart => exact ⟨0, by omega, rfl, Lib.hid (by simp)⟩
  case round =>
    obtain ⟨k, hk, rfl, Hn⟩ := hrel
    by_cases hlt : k < xs.length
    · obtain ⟨b, off, rfl, hb, p0⟩ := StrsAt.at_ H.out hlt
      have hs : xs[k].size ≤ 2 ^ 63 - 1 := Hf.out _ (List.getElem_mem hlt)
      by_cases hc : 65536 < xs[k].size
      · have hy : ∃ s ∈ xs, 65536 < s.size := ⟨xs[k], List.getElem_mem hlt, hc⟩
        have Hy := Lib.hid hy; clear hy
        have d : decide (65536 < (xs[k].size : Int)) = true := by simp; omega
        go_wp2
        go_ret
        exact IsB.yes Hy.out
      · have hn : ∀ s ∈ xs.take (k + 1), ¬ 65536 < s.size := by
          rw [List.take_succ_eq_append_getElem hlt]
          intro s hs'
          rcases List.mem_append.1 hs' with h1 | h1
          · exact Hn.out s h1
          · simp at h1; subst h1; exact hc
        have Hn2 := Lib.hid hn; clear hn
        have d : decide (65536 < (xs[k].size : Int)) = false := by simp; omega
        go_wp2
        go_round
        case rel => exact ⟨k + 1, by omega, by go_num, Hn2⟩
        case measure => simp [intOf]; omega
    · have hn : ¬ ∃ s ∈ xs, 65536 < s.size := by
        rintro ⟨s, hs, hc⟩
        have := Hn.out s (by rw [List.take_of_length_le (by omega)]; exact hs)
        exact this hc
      have Hno := Lib.hid hn; clear hn
      go_wp2
      go_ret
      exact IsB.no Hno.out

end Go.Proofs.YthmpmagajbmpaaaDoor
