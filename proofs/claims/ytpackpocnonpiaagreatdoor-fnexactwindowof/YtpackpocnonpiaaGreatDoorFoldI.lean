/-
  Contracts of the program's aggsOf, bucketFrom, FoldRange, RollUp and Downsample. Conditions: none beside lengths.
-/
import Derived.Test.YtpackpocnonpiaaGreatDoorSpanI
import Derived.Test.YtpackpocnonpiaaGreatDoorMergeLoop
namespace Go.Proofs.YtpackpocnonpiaaGreatDoor
open Go.ChangeShapes Go.WideShapes Go.ChangeAt Go.RowKit
set_option linter.unusedVariables false
set_option linter.unusedSimpArgs false

set_option maxRecDepth 100000 in
set_option maxHeartbeats 1000000 in
theorem aggsOf_any (A : Option Addr) (c : Nat) (xs : List GBkt) (B : Nat) (w : World) (h : BktsAt w B A xs) (hB : B ≤ w.heap.size) (hl : xs.length ≤ 1048576) :
    Calls Tryz.prog 164 #[.slice A xs.length c] w fun e w' => ∃ g, e = .returned (.slice (some ⟨g, 0, none⟩) xs.length xs.length) ∧ AggsAt w' w'.heap.size (some ⟨g, 0, none⟩) (xs.map (·.agg)) ∧ Below w.heap.size w w' := by
  have H := Lib.hid h; clear h
  have hmk := make_aggs xs.length hl
  go_enter Tryz.func164, Tryz.ntmps164
  go_wp2_with fail
  have hsl := zeroAggs_sl xs.length w
  have hfr : Free (w.alloc (zeroAggs xs.length)) (some ⟨w.heap.size, 0, none⟩) := free_alloc _ _ _ _
  have hbw : Below w.heap.size w (w.alloc (zeroAggs xs.length)) := bal (Below.refl _ _) _
  have hsz : w.heap.size < (w.alloc (zeroAggs xs.length)).heap.size := by simp
  generalize w.alloc (zeroAggs xs.length) = w0 at hsl hfr hbw hsz ⊢
  clear hmk
  generalize hy : w.heap.size = y at *
  have Hsl := Lib.hid hsl; clear hsl
  have Hfr := Lib.hid hfr; clear hfr
  have Hy := Lib.hid hy; clear hy
  go_loopw [10] (fun i wr => ∃ j : Nat, j ≤ xs.length ∧ i = .int .i64 j ∧ Hid (AggsAt wr (y + 1) (some ⟨y, 0, none⟩) ((xs.map (·.agg)).take j ++ (List.replicate xs.length zAgg).drop j)) ∧ Hid (Free wr (some ⟨y, 0, none⟩)) ∧ y < wr.heap.size ∧ Below y w wr) (fun i _ => xs.length - (intOf i).toNat)
  case atStart => exact ⟨0, by omega, rfl, Lib.hid (by simpa using Hsl.out), Hfr, hsz, hbw⟩
  case round =>
    clear Hsl Hfr hbw hsz
    obtain ⟨j, hj, rfl, Hr, Hf, hs, hbr⟩ := hrel
    by_cases hlt : j < xs.length
    · obtain ⟨bb, off, rfl, hbB, p0, p1, p2, p3, p4, p5, p6⟩ := BktsAt.bkt (Sl.below H.out hbr hB) hlt
      have hjl : j < ((xs.map (·.agg)).take j ++ (List.replicate xs.length zAgg).drop j).length := by simp; omega
      obtain ⟨g, o, e, hgB, q0, q1, q2, q3, q4, q5⟩ := AggsAt.agg Hr.out hjl
      injection e with e
      injection e with e1 e2
      subst e1 e2
      generalize hG : ((xs.map (·.agg)).take j ++ (List.replicate xs.length zAgg).drop j)[j] = G at q0 q1 q2 q3 q4 q5
      clear hG
      rw [Nat.zero_add] at q0 q1 q2 q3 q4 q5
      have fz := Hf.out
      have y0 : wr.frozen? ⟨y, j * 6, none⟩ = false := fz _ rfl _
      have y1 : wr.frozen? ⟨y, j * 6 + 1, none⟩ = false := fz _ rfl _
      have y2 : wr.frozen? ⟨y, j * 6 + 2, none⟩ = false := fz _ rfl _
      have y3 : wr.frozen? ⟨y, j * 6 + 3, none⟩ = false := fz _ rfl _
      have y4 : wr.frozen? ⟨y, j * 6 + 4, none⟩ = false := fz _ rfl _
      have y5 : wr.frozen? ⟨y, j * 6 + 5, none⟩ = false := fz _ rfl _
      clear fz
      have hnb : bb ≠ y := by omega
      obtain ⟨Wn, hWn⟩ : ∃ Wn, Wn = ((((((wr.setCell ⟨y, j * 6, none⟩ (.int .i64 xs[j].agg.cnt)).setCell ⟨y, j * 6 + 1, none⟩ (.int .i64 xs[j].agg.sum)).setCell ⟨y, j * 6 + 2, none⟩ (.int .i64 xs[j].agg.mn)).setCell ⟨y, j * 6 + 3, none⟩ (.int .i64 xs[j].agg.mx)).setCell ⟨y, j * 6 + 4, none⟩ (.int .i64 xs[j].agg.fst)).setCell ⟨y, j * 6 + 5, none⟩ (.int .i64 xs[j].agg.lst)) := ⟨_, rfl⟩
      have hn : AggsAt Wn (y + 1) (some ⟨y, 0, none⟩) ((xs.map (·.agg)).take (j + 1) ++ (List.replicate xs.length zAgg).drop (j + 1)) := by
        have h1 := AggsAt.store (w1 := wr) Hr.out hjl (fun i => rfl) xs[j].agg
        have e1 : (xs.map (·.agg))[j]'(by simpa using hlt) = xs[j].agg := by simp
        rw [← e1, take_set (xs.map (·.agg)) _ j (by simpa using hlt) (by simpa using hlt), e1] at h1
        rw [hWn]
        exact h1
      have hfn : Free Wn (some ⟨y, 0, none⟩) := by rw [hWn]; exact (((((Hf.out.setCell _ _).setCell _ _).setCell _ _).setCell _ _).setCell _ _).setCell _ _
      have hsn : Wn.heap.size = wr.heap.size := by rw [hWn]; simp
      have hbn : Below y w Wn := by rw [hWn]; exact (((((hbr.setCell (Nat.le_refl _) _).setCell (Nat.le_refl _) _).setCell (Nat.le_refl _) _).setCell (Nat.le_refl _) _).setCell (Nat.le_refl _) _).setCell (Nat.le_refl _) _
      have Hn := Lib.hid hn; clear hn
      have Hfn := Lib.hid hfn; clear hfn
      have Hbn := Lib.hid hbn; clear hbn
      have Hsn := Lib.hid hsn; clear hsn
      have HWn := Lib.hid hWn; clear hWn
      go_wp2
      rw [← HWn.out]
      go_roundw
      case rel => exact ⟨j + 1, by omega, by go_num, Hn, Hfn, by rw [Hsn.out]; exact hs, Hbn.out⟩
      case measure => simp [intOf]; omega
    · obtain rfl : j = xs.length := by omega
      have hn : AggsAt wr wr.heap.size (some ⟨y, 0, none⟩) (xs.map (·.agg)) := by
        have := Hr.out
        rw [List.take_of_length_le (by simp), List.drop_of_length_le (by simp), List.append_nil] at this
        exact Sl.more this (by omega)
      have Hn := Lib.hid hn; clear hn Hr
      go_wp2
      go_ret
      exact ⟨y, rfl, Hn.out, by rw [Hy.out]; exact hbr⟩

theorem new_bktF (w : World) (s : GBkt) (e : TypeId) : BktsAt (w.alloc (.cells #[.int .i64 s.beg, .int .i64 s.agg.cnt, .int .i64 s.agg.sum, .int .i64 s.agg.mn, .int .i64 s.agg.mx, .int .i64 s.agg.fst, .int .i64 s.agg.lst] e)) (w.heap.size + 1) (some ⟨w.heap.size, 0, none⟩) [s] := by
  intro _
  refine ⟨w.heap.size, 0, rfl, by omega, fun k hk j v hv => ?_⟩
  obtain rfl : k = 0 := by simpa using hk
  rw [World.cell?_alloc_new]
  simp only [Nat.zero_mul, Nat.add_zero, Nat.zero_add, List.getElem_cons_zero] at hv ⊢
  simpa [GBkt.vals] using hv

end Go.Proofs.YtpackpocnonpiaaGreatDoor
