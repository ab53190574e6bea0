/-
  Contracts of toBucketS and toSampleS again, with the new slice's address said.
-/
import Derived.Test.YtkpaocejpjhkpaaBkts
import Derived.Test.YtkpaocejpjhkpaaSams
namespace Go.Proofs.Ytkpaocejpjhkpaa
open Go.ChangeShapes Go.WideShapes Go.ChangeAt Go.RowKit
set_option linter.unusedVariables false

set_option maxRecDepth 100000 in
theorem toBucketS_at (A : Option Addr) (c : Nat) (xs : List GBkt) (B : Nat) (w : World) (h : BktsAt w B A xs) (hB : B ≤ w.heap.size) (hl : xs.length ≤ 1048576) :
    Calls Try.prog 21 #[.slice A xs.length c] w fun e w' => ∃ g c' : Nat, e = .returned (.slice (some ⟨g, 0, none⟩) xs.length c') ∧ BktsAt w' w'.heap.size (some ⟨g, 0, none⟩) xs ∧ Free w' (some ⟨g, 0, none⟩) ∧ w.heap.size ≤ g ∧ g < w'.heap.size ∧ xs.length ≤ c' ∧ Below w.heap.size w w' := by
  have H := Lib.hid h; clear h
  have hmk := make_bkts xs.length hl
  go_enter Try.func21, Try.ntmps21
  go_wp2_with fail
  have hsl := zeroBkts_sl xs.length w
  have hfr : Free (w.alloc (zeroBkts xs.length)) (some ⟨w.heap.size, 0, none⟩) := free_alloc _ _ _ _
  have hbw : Below w.heap.size w (w.alloc (zeroBkts xs.length)) := bal (Below.refl _ _) _
  have hsz : w.heap.size < (w.alloc (zeroBkts xs.length)).heap.size := by simp
  generalize w.alloc (zeroBkts xs.length) = w0 at hsl hfr hbw hsz ⊢
  clear hmk
  have Hsl := Lib.hid hsl; clear hsl
  have Hfr := Lib.hid hfr; clear hfr
  go_loopw [4] (fun i wr => ∃ j : Nat, j ≤ xs.length ∧ i = .int .i64 j ∧ Hid (BktsAt wr (w.heap.size + 1) (some ⟨w.heap.size, 0, none⟩) (xs.take j ++ (List.replicate xs.length zBkt).drop j)) ∧ Hid (Free wr (some ⟨w.heap.size, 0, none⟩)) ∧ w.heap.size < wr.heap.size ∧ Below w.heap.size w wr) (fun i _ => xs.length - (intOf i).toNat)
  case atStart => exact ⟨0, by omega, rfl, Lib.hid (by simpa using Hsl.out), Hfr, hsz, hbw⟩
  case round =>
    clear Hsl Hfr hbw hsz
    obtain ⟨j, hj, rfl, Hr, Hf, hs, hb⟩ := hrel
    by_cases hlt : j < xs.length
    · obtain ⟨b, off, rfl, hbB, p0, p1, p2, p3, p4, p5, p6⟩ := BktsAt.bkt (Sl.below H.out hb hB) hlt
      have hjl : j < (xs.take j ++ (List.replicate xs.length zBkt).drop j).length := by simp; omega
      obtain ⟨g, o, e, hgB, q0, q1, q2, q3, q4, q5, q6⟩ := BktsAt.bkt Hr.out hjl
      injection e with e
      injection e with e1 e2
      subst e1 e2
      obtain ⟨v0, q0⟩ : ∃ v, wr.cell? ⟨w.heap.size, 0 + j * 7, none⟩ = some v := ⟨_, q0⟩
      obtain ⟨v1, q1⟩ : ∃ v, wr.cell? ⟨w.heap.size, 0 + j * 7 + 1, none⟩ = some v := ⟨_, q1⟩
      obtain ⟨v2, q2⟩ : ∃ v, wr.cell? ⟨w.heap.size, 0 + j * 7 + 2, none⟩ = some v := ⟨_, q2⟩
      obtain ⟨v3, q3⟩ : ∃ v, wr.cell? ⟨w.heap.size, 0 + j * 7 + 3, none⟩ = some v := ⟨_, q3⟩
      obtain ⟨v4, q4⟩ : ∃ v, wr.cell? ⟨w.heap.size, 0 + j * 7 + 4, none⟩ = some v := ⟨_, q4⟩
      obtain ⟨v5, q5⟩ : ∃ v, wr.cell? ⟨w.heap.size, 0 + j * 7 + 5, none⟩ = some v := ⟨_, q5⟩
      obtain ⟨v6, q6⟩ : ∃ v, wr.cell? ⟨w.heap.size, 0 + j * 7 + 6, none⟩ = some v := ⟨_, q6⟩
      have fz : ∀ i, wr.frozen? ⟨w.heap.size, i, none⟩ = false := Hf.out _ rfl
      rw [Nat.zero_add] at q0 q1 q2 q3 q4 q5 q6
      have Q0 := Lib.hid q0; clear q0
      have Q1 := Lib.hid q1; clear q1
      have Q2 := Lib.hid q2; clear q2
      have Q3 := Lib.hid q3; clear q3
      have Q4 := Lib.hid q4; clear q4
      have Q5 := Lib.hid q5; clear q5
      have Q6 := Lib.hid q6; clear q6
      have Fz := Lib.hid fz; clear fz
      go_wp2_with fail
      refine (toBucket_any xs[j] wr).mono ?_
      rintro e w1 ⟨rfl, hb1⟩
      have c0 : w1.cell? ⟨w.heap.size, j * 7, none⟩ = some v0 := (hb1.cell hs).trans Q0.out
      have f0 : w1.frozen? ⟨w.heap.size, j * 7, none⟩ = false := (hb1.frozen hs).trans (Fz.out _)
      have c1 : w1.cell? ⟨w.heap.size, j * 7 + 1, none⟩ = some v1 := (hb1.cell hs).trans Q1.out
      have f1 : w1.frozen? ⟨w.heap.size, j * 7 + 1, none⟩ = false := (hb1.frozen hs).trans (Fz.out _)
      have c2 : w1.cell? ⟨w.heap.size, j * 7 + 2, none⟩ = some v2 := (hb1.cell hs).trans Q2.out
      have f2 : w1.frozen? ⟨w.heap.size, j * 7 + 2, none⟩ = false := (hb1.frozen hs).trans (Fz.out _)
      have c3 : w1.cell? ⟨w.heap.size, j * 7 + 3, none⟩ = some v3 := (hb1.cell hs).trans Q3.out
      have f3 : w1.frozen? ⟨w.heap.size, j * 7 + 3, none⟩ = false := (hb1.frozen hs).trans (Fz.out _)
      have c4 : w1.cell? ⟨w.heap.size, j * 7 + 4, none⟩ = some v4 := (hb1.cell hs).trans Q4.out
      have f4 : w1.frozen? ⟨w.heap.size, j * 7 + 4, none⟩ = false := (hb1.frozen hs).trans (Fz.out _)
      have c5 : w1.cell? ⟨w.heap.size, j * 7 + 5, none⟩ = some v5 := (hb1.cell hs).trans Q5.out
      have f5 : w1.frozen? ⟨w.heap.size, j * 7 + 5, none⟩ = false := (hb1.frozen hs).trans (Fz.out _)
      have c6 : w1.cell? ⟨w.heap.size, j * 7 + 6, none⟩ = some v6 := (hb1.cell hs).trans Q6.out
      have f6 : w1.frozen? ⟨w.heap.size, j * 7 + 6, none⟩ = false := (hb1.frozen hs).trans (Fz.out _)
      have hn := Sl.puts (w1 := w1) Hr.out (fun x => rfl) hjl (fun i => hb1.cell hs) xs[j]
      rw [take_set xs _ j hlt (by simpa using hlt)] at hn
      have Hn := Lib.hid hn; clear hn
      have Hfn := Lib.hid (Free.puts (w1 := w1) (g := w.heap.size) (i := j * 7) xs[j].vals (fun i => (hb1.frozen hs).trans (Fz.out i)))
      have hsn : w.heap.size < (puts w1 w.heap.size (j * 7) xs[j].vals).heap.size := by rw [puts_size]; have := hb1.size; omega
      have Hsn := Lib.hid hsn; clear hsn
      have Hbn := Lib.hid (puts_below w.heap.size (Nat.le_refl _) xs[j].vals w1 (j * 7) (bnext hb hb1))
      clear p0 p1 p2 p3 p4 p5 p6
      go_wp2
      go_roundw
      case rel => exact ⟨j + 1, by omega, by go_num, Hn, Hfn, Hsn.out, Hbn.out⟩
      case measure => simp [intOf]; omega
    · obtain rfl : j = xs.length := by omega
      have hn : BktsAt wr (w.heap.size + 1) (some ⟨w.heap.size, 0, none⟩) xs := by simpa using Hr.out
      have Hn := Lib.hid hn; clear hn
      go_wp2
      go_ret
      exact ⟨_, _, rfl, Sl.more Hn.out hs, Hf.out, Nat.le_refl _, hs, Nat.le_refl _, hb⟩

set_option maxRecDepth 100000 in
theorem toSampleS_at (A : Option Addr) (c : Nat) (xs : List GSam) (B : Nat) (w : World) (h : SamsAt w B A xs) (hB : B ≤ w.heap.size) (hl : xs.length ≤ 1048576) :
    Calls Try.prog 12 #[.slice A xs.length c] w fun e w' => ∃ g c' : Nat, e = .returned (.slice (some ⟨g, 0, none⟩) xs.length c') ∧ SamsAt w' w'.heap.size (some ⟨g, 0, none⟩) xs ∧ Free w' (some ⟨g, 0, none⟩) ∧ w.heap.size ≤ g ∧ g < w'.heap.size ∧ xs.length ≤ c' ∧ Below w.heap.size w w' := by
  have H := Lib.hid h; clear h
  have hmk := make_sams xs.length hl
  go_enter Try.func12, Try.ntmps12
  go_wp2_with fail
  have hsl := zeroSams_sl xs.length w
  have hfr : Free (w.alloc (zeroSams xs.length)) (some ⟨w.heap.size, 0, none⟩) := free_alloc _ _ _ _
  have hbw : Below w.heap.size w (w.alloc (zeroSams xs.length)) := bal (Below.refl _ _) _
  have hsz : w.heap.size < (w.alloc (zeroSams xs.length)).heap.size := by simp
  generalize w.alloc (zeroSams xs.length) = w0 at hsl hfr hbw hsz ⊢
  clear hmk
  have Hsl := Lib.hid hsl; clear hsl
  have Hfr := Lib.hid hfr; clear hfr
  go_loopw [4] (fun i wr => ∃ j : Nat, j ≤ xs.length ∧ i = .int .i64 j ∧ Hid (SamsAt wr (w.heap.size + 1) (some ⟨w.heap.size, 0, none⟩) (xs.take j ++ (List.replicate xs.length zSam).drop j)) ∧ Hid (Free wr (some ⟨w.heap.size, 0, none⟩)) ∧ w.heap.size < wr.heap.size ∧ Below w.heap.size w wr) (fun i _ => xs.length - (intOf i).toNat)
  case atStart => exact ⟨0, by omega, rfl, Lib.hid (by simpa using Hsl.out), Hfr, hsz, hbw⟩
  case round =>
    clear Hsl Hfr hbw hsz
    obtain ⟨j, hj, rfl, Hr, Hf, hs, hb⟩ := hrel
    by_cases hlt : j < xs.length
    · obtain ⟨b, off, rfl, hbB, p0, p1⟩ := SamsAt.sam (Sl.below H.out hb hB) hlt
      have hjl : j < (xs.take j ++ (List.replicate xs.length zSam).drop j).length := by simp; omega
      obtain ⟨g, o, e, hgB, q0, q1⟩ := SamsAt.sam Hr.out hjl
      injection e with e
      injection e with e1 e2
      subst e1 e2
      obtain ⟨v0, q0⟩ : ∃ v, wr.cell? ⟨w.heap.size, 0 + j * 2, none⟩ = some v := ⟨_, q0⟩
      obtain ⟨v1, q1⟩ : ∃ v, wr.cell? ⟨w.heap.size, 0 + j * 2 + 1, none⟩ = some v := ⟨_, q1⟩
      have fz : ∀ i, wr.frozen? ⟨w.heap.size, i, none⟩ = false := Hf.out _ rfl
      rw [Nat.zero_add] at q0 q1
      have Q0 := Lib.hid q0; clear q0
      have Q1 := Lib.hid q1; clear q1
      have Fz := Lib.hid fz; clear fz
      go_wp2_with fail
      refine (toSample_any xs[j] wr).mono ?_
      rintro e w1 ⟨rfl, hb1⟩
      have c0 : w1.cell? ⟨w.heap.size, j * 2, none⟩ = some v0 := (hb1.cell hs).trans Q0.out
      have c1 : w1.cell? ⟨w.heap.size, j * 2 + 1, none⟩ = some v1 := (hb1.cell hs).trans Q1.out
      have f0 : w1.frozen? ⟨w.heap.size, j * 2, none⟩ = false := (hb1.frozen hs).trans (Fz.out _)
      have f1 : w1.frozen? ⟨w.heap.size, j * 2 + 1, none⟩ = false := (hb1.frozen hs).trans (Fz.out _)
      have hn := SamsAt.store (w1 := w1) Hr.out hjl (fun i => hb1.cell hs) xs[j]
      rw [take_set xs _ j hlt (by simpa using hlt)] at hn
      have Hn := Lib.hid hn; clear hn
      have hfn : Free ((w1.setCell ⟨w.heap.size, j * 2, none⟩ (.int .i64 xs[j].t)).setCell ⟨w.heap.size, j * 2 + 1, none⟩ (.int .i64 xs[j].v)) (some ⟨w.heap.size, 0, none⟩) := fun b e i => by
        simp [blk] at e; subst e
        rw [frozen_setCell, frozen_setCell]; exact (hb1.frozen hs).trans (Fz.out i)
      have Hfn := Lib.hid hfn; clear hfn
      have hsn : w.heap.size < w1.heap.size := by have := hb1.size; omega
      have hbn : Below w.heap.size w ((w1.setCell ⟨w.heap.size, j * 2, none⟩ (.int .i64 xs[j].t)).setCell ⟨w.heap.size, j * 2 + 1, none⟩ (.int .i64 xs[j].v)) :=
        bset (bset (bnext hb hb1) (Nat.le_refl _) _) (Nat.le_refl _) _
      have Hbn := Lib.hid hbn; clear hbn
      go_wp2
      go_roundw
      case rel => exact ⟨j + 1, by omega, by go_num, Hn, Hfn, by simpa [World.setCell] using hsn, Hbn.out⟩
      case measure => simp [intOf]; omega
    · obtain rfl : j = xs.length := by omega
      have hn : SamsAt wr (w.heap.size + 1) (some ⟨w.heap.size, 0, none⟩) xs := by simpa using Hr.out
      have Hn := Lib.hid hn; clear hn
      go_wp2
      go_ret
      exact ⟨_, _, rfl, Sl.more Hn.out hs, Hf.out, Nat.le_refl _, hs, Nat.le_refl _, hb⟩

end Go.Proofs.Ytkpaocejpjhkpaa
