/-
  Contracts of the program's isRange, countBelow, spanOf (the part of a list that lies in a range), aggsOf and bucketFrom. Conditions: none beside lengths.
-/
import Derived.Test.YtpackpocnonpiaaGreatDoorSpanM
import Derived.Test.YtpackpocnonpiaaGreatDoorBktImpl
import Derived.Test.YtpackpocnonpiaaGreatDoorAggOf
namespace Go.Proofs.YtpackpocnonpiaaGreatDoor
open Go.ChangeShapes Go.WideShapes Go.ChangeAt Go.RowKit
set_option linter.unusedVariables false
set_option linter.unusedSimpArgs false

theorem Sl.span {α : Type} {f : α → List Value} {m : Nat} {w : World} {B b off : Nat} {xs : List α} (h : Sl f m w B (some ⟨b, off, none⟩) xs) (k l : Nat) : Sl f m w B (some ⟨b, off + k * m, none⟩) ((xs.take l).drop k) := by
  intro hne
  obtain ⟨b', o', e, hb, hc⟩ := h (by rintro rfl; simp at hne)
  injection e with e
  injection e with e1 e2
  subst e1 e2
  refine ⟨b, off + k * m, rfl, hb, fun i hi => ?_⟩
  simp only [List.length_drop, List.length_take] at hi
  have h1 := hc (k + i) (by omega)
  have e1 : off + k * m + i * m = off + (k + i) * m := by rw [Nat.add_mul]; omega
  have e2 : ((xs.take l).drop k)[i]'(by simp only [List.length_drop, List.length_take]; omega) = xs[k + i]'(by omega) := by simp
  rw [e1, e2]
  exact h1

theorem sampleTime_any (s : GSam) (w : World) : Calls Tryz.prog 91 #[.agg #[.int .i64 s.t, .int .i64 s.v]] w fun e w' => e = .returned (.int .i64 s.t) ∧ Below w.heap.size w w' := by
  go_enter Tryz.func91, Tryz.ntmps91
  go_wp2
  go_ret
  exact ⟨rfl, bal (Below.refl _ _) _⟩

set_option maxRecDepth 100000 in
theorem countSample_any (A : Option Addr) (c : Nat) (xs : List GSam) (n : Int) (B : Nat) (w : World) (h : SamsAt w B A xs) (hB : B ≤ w.heap.size) (hl : xs.length ≤ 1048576) :
    Calls Tryz.prog 160 #[.slice A xs.length c, .func (.func 91) #[] #[], .int .i64 n] w fun e w' => ∃ k : Nat, e = .returned (.int .i64 k) ∧ CntP GSam.t xs n k ∧ Below w.heap.size w w' := by
  have H := Lib.hid h; clear h
  go_enter Tryz.func160, Tryz.ntmps160
  go_wp2_with fail
  go_loopw [10] (fun i wr => ∃ k : Nat, k ≤ xs.length ∧ i = .int .i64 k ∧ Hid (∀ j (h : j < xs.length), j < k → xs[j].t < n) ∧ Below w.heap.size w wr) (fun i _ => xs.length - (intOf i).toNat)
  case atStart => exact ⟨0, by omega, rfl, Lib.hid (fun j h h' => by omega), Below.refl _ _⟩
  case round =>
    obtain ⟨k, hk, rfl, HP, hb⟩ := hrel
    by_cases hlt : k < xs.length
    · obtain ⟨b1, o1, rfl, hb1, p0, p1⟩ := SamsAt.sam (Sl.below H.out hb hB) hlt
      go_wp2_with fail
      refine (sampleTime_any xs[k] _).mono ?_
      rintro e w1 ⟨rfl, hb2⟩
      have hb3 : Below w.heap.size w w1 := bnext hb hb2
      clear p0 p1 hb2
      by_cases hge : n ≤ xs[k].t
      · have d : decide (n ≤ xs[k].t) = true := by simpa using hge
        have HR := Lib.hid (show CntP GSam.t xs n k from ⟨hk, HP.out, fun _ => hge⟩)
        clear hge
        go_wp2
        go_ret
        exact ⟨k, rfl, HR.out, hb3⟩
      · have d : decide (n ≤ xs[k].t) = false := by simpa using hge
        have HN := Lib.hid (show ∀ j (h : j < xs.length), j < k + 1 → xs[j].t < n from fun j h hj => by
          by_cases e : j = k
          · subst e; omega
          · exact HP.out j h (by omega))
        clear hge HP
        go_wp2
        go_roundw
        case rel => exact ⟨k + 1, by omega, by go_num, HN, hb3⟩
        case measure => simp [intOf]; omega
    · obtain rfl : k = xs.length := by omega
      have HR := Lib.hid (show CntP GSam.t xs n xs.length from ⟨hk, HP.out, fun h => absurd h (Nat.lt_irrefl _)⟩)
      clear HP
      go_wp2
      go_ret
      exact ⟨xs.length, rfl, HR.out, hb⟩

set_option maxRecDepth 100000 in
theorem spanSample_any (b off c : Nat) (xs : List GSam) (f t : Int) (hft : f ≤ t) (B : Nat) (w : World) (h : SamsAt w B (some ⟨b, off, none⟩) xs) (hB : B ≤ w.heap.size) (hl : xs.length ≤ 1048576) (hc : xs.length ≤ c) :
    Calls Tryz.prog 90 #[.slice (some ⟨b, off, none⟩) xs.length c, .func (.func 91) #[] #[], .int .i64 f, .int .i64 t] w fun e w' => ∃ (A' : Option Addr) (c' k l : Nat), e = .returned (.slice A' ((xs.take l).drop k).length c') ∧ CntP GSam.t xs f k ∧ CntP GSam.t xs t l ∧ SamsAt w' B A' ((xs.take l).drop k) ∧ Below w.heap.size w w' := by
  have H := Lib.hid h; clear h
  go_enter Tryz.func90, Tryz.ntmps90
  go_wp2_with fail
  refine (countSample_any (some ⟨b, off, none⟩) c xs f B w H.out hB hl).mono ?_
  rintro e w1 ⟨k, rfl, hk, hb1⟩
  have HK := Lib.hid hk; clear hk
  go_wp2_with fail
  refine (countSample_any (some ⟨b, off, none⟩) c xs t B w1 (Sl.below H.out hb1 hB) (Nat.le_trans hB hb1.size) hl).mono ?_
  rintro e w2 ⟨l, rfl, hl2, hb2⟩
  have hkl := HK.out.le hl2 hft
  have hlx := hl2.1
  have HL := Lib.hid hl2; clear hl2
  have b2 := bnext hb1 hb2
  have HS := Lib.hid (Sl.span (Sl.below H.out b2 hB) k l)
  have hln : ((xs.take l).drop k).length = l - k := by simp only [List.length_drop, List.length_take]; omega
  have HLn := Lib.hid hln; clear hln
  clear hb1 hb2 hft
  by_cases hck : c = k
  · subst hck
    obtain rfl : l = c := by omega
    go_wp2
    go_ret
    refine ⟨some ⟨b, off, none⟩, 0, l, l, ?_, HK.out, HL.out, ?_, b2⟩
    · rw [HLn.out]; simp
    · have e0 : (xs.take l).drop l = [] := by apply List.drop_eq_nil_of_le; simp; omega
      rw [e0]; exact Sl.nil
  · go_wp2
    go_ret
    refine ⟨some ⟨b, off + k * 2, none⟩, c - k, k, l, ?_, HK.out, HL.out, HS.out, b2⟩
    rw [HLn.out]; rfl

theorem bucketTime_any (s : GBkt) (w : World) : Calls Tryz.prog 166 #[.agg #[.int .i64 s.beg, .int .i64 s.agg.cnt, .int .i64 s.agg.sum, .int .i64 s.agg.mn, .int .i64 s.agg.mx, .int .i64 s.agg.fst, .int .i64 s.agg.lst]] w fun e w' => e = .returned (.int .i64 s.beg) ∧ Below w.heap.size w w' := by
  go_enter Tryz.func166, Tryz.ntmps166
  go_wp2
  go_ret
  exact ⟨rfl, bal (Below.refl _ _) _⟩

set_option maxRecDepth 100000 in
theorem countBucket_any (A : Option Addr) (c : Nat) (xs : List GBkt) (n : Int) (B : Nat) (w : World) (h : BktsAt w B A xs) (hB : B ≤ w.heap.size) (hl : xs.length ≤ 1048576) :
    Calls Tryz.prog 205 #[.slice A xs.length c, .func (.func 166) #[] #[], .int .i64 n] w fun e w' => ∃ k : Nat, e = .returned (.int .i64 k) ∧ CntP GBkt.beg xs n k ∧ Below w.heap.size w w' := by
  have H := Lib.hid h; clear h
  go_enter Tryz.func205, Tryz.ntmps205
  go_wp2_with fail
  go_loopw [10] (fun i wr => ∃ k : Nat, k ≤ xs.length ∧ i = .int .i64 k ∧ Hid (∀ j (h : j < xs.length), j < k → xs[j].beg < n) ∧ Below w.heap.size w wr) (fun i _ => xs.length - (intOf i).toNat)
  case atStart => exact ⟨0, by omega, rfl, Lib.hid (fun j h h' => by omega), Below.refl _ _⟩
  case round =>
    obtain ⟨k, hk, rfl, HP, hb⟩ := hrel
    by_cases hlt : k < xs.length
    · obtain ⟨b1, o1, rfl, hb1, p0, p1, p2, p3, p4, p5, p6⟩ := BktsAt.bkt (Sl.below H.out hb hB) hlt
      go_wp2_with fail
      refine (bucketTime_any xs[k] _).mono ?_
      rintro e w1 ⟨rfl, hb2⟩
      have hb3 : Below w.heap.size w w1 := bnext hb hb2
      clear p0 p1 p2 p3 p4 p5 p6 hb2
      by_cases hge : n ≤ xs[k].beg
      · have d : decide (n ≤ xs[k].beg) = true := by simpa using hge
        have HR := Lib.hid (show CntP GBkt.beg xs n k from ⟨hk, HP.out, fun _ => hge⟩)
        clear hge
        go_wp2
        go_ret
        exact ⟨k, rfl, HR.out, hb3⟩
      · have d : decide (n ≤ xs[k].beg) = false := by simpa using hge
        have HN := Lib.hid (show ∀ j (h : j < xs.length), j < k + 1 → xs[j].beg < n from fun j h hj => by
          by_cases e : j = k
          · subst e; omega
          · exact HP.out j h (by omega))
        clear hge HP
        go_wp2
        go_roundw
        case rel => exact ⟨k + 1, by omega, by go_num, HN, hb3⟩
        case measure => simp [intOf]; omega
    · obtain rfl : k = xs.length := by omega
      have HR := Lib.hid (show CntP GBkt.beg xs n xs.length from ⟨hk, HP.out, fun h => absurd h (Nat.lt_irrefl _)⟩)
      clear HP
      go_wp2
      go_ret
      exact ⟨xs.length, rfl, HR.out, hb⟩

set_option maxRecDepth 100000 in
theorem spanBucket_any (b off c : Nat) (xs : List GBkt) (f t : Int) (hft : f ≤ t) (B : Nat) (w : World) (h : BktsAt w B (some ⟨b, off, none⟩) xs) (hB : B ≤ w.heap.size) (hl : xs.length ≤ 1048576) (hc : xs.length ≤ c) :
    Calls Tryz.prog 165 #[.slice (some ⟨b, off, none⟩) xs.length c, .func (.func 166) #[] #[], .int .i64 f, .int .i64 t] w fun e w' => ∃ (A' : Option Addr) (c' k l : Nat), e = .returned (.slice A' ((xs.take l).drop k).length c') ∧ CntP GBkt.beg xs f k ∧ CntP GBkt.beg xs t l ∧ BktsAt w' B A' ((xs.take l).drop k) ∧ Below w.heap.size w w' := by
  have H := Lib.hid h; clear h
  go_enter Tryz.func165, Tryz.ntmps165
  go_wp2_with fail
  refine (countBucket_any (some ⟨b, off, none⟩) c xs f B w H.out hB hl).mono ?_
  rintro e w1 ⟨k, rfl, hk, hb1⟩
  have HK := Lib.hid hk; clear hk
  go_wp2_with fail
  refine (countBucket_any (some ⟨b, off, none⟩) c xs t B w1 (Sl.below H.out hb1 hB) (Nat.le_trans hB hb1.size) hl).mono ?_
  rintro e w2 ⟨l, rfl, hl2, hb2⟩
  have hkl := HK.out.le hl2 hft
  have hlx := hl2.1
  have HL := Lib.hid hl2; clear hl2
  have b2 := bnext hb1 hb2
  have HS := Lib.hid (Sl.span (Sl.below H.out b2 hB) k l)
  have hln : ((xs.take l).drop k).length = l - k := by simp only [List.length_drop, List.length_take]; omega
  have HLn := Lib.hid hln; clear hln
  clear hb1 hb2 hft
  by_cases hck : c = k
  · subst hck
    obtain rfl : l = c := by omega
    go_wp2
    go_ret
    refine ⟨some ⟨b, off, none⟩, 0, l, l, ?_, HK.out, HL.out, ?_, b2⟩
    · rw [HLn.out]; simp
    · have e0 : (xs.take l).drop l = [] := by apply List.drop_eq_nil_of_le; simp; omega
      rw [e0]; exact Sl.nil
  · go_wp2
    go_ret
    refine ⟨some ⟨b, off + k * 7, none⟩, c - k, k, l, ?_, HK.out, HL.out, HS.out, b2⟩
    rw [HLn.out]; rfl

end Go.Proofs.YtpackpocnonpiaaGreatDoor
