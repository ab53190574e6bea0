/-
  Contracts of FoldRange of both packages. Conditions: none beside lengths.
-/
import Derived.Test.YtpackpocnonpiaaGreatDoorFoldI
import Derived.Test.YtpackpocnonpiaaGreatDoorSpanS
namespace Go.Proofs.YtpackpocnonpiaaGreatDoor
open Go.ChangeShapes Go.WideShapes Go.ChangeAt Go.RowKit
set_option linter.unusedVariables false
set_option linter.unusedSimpArgs false

theorem mergeAll_bkts {xs : List GBkt} (hp : ∀ x ∈ xs, AggP x.agg) : (tot (xs.map (·.agg)) ≤ 100000 → mergeAll zAgg (xs.map (·.agg)) = ((xs.map (·.agg)).foldl gMerge zAgg, 0)) ∧ (100000 < tot (xs.map (·.agg)) → mergeAll zAgg (xs.map (·.agg)) = (zAgg, 6)) := by
  have h := mergeAll_tot (xs.map (·.agg)) zAgg (fun x hx => by
    obtain ⟨y, hy, rfl⟩ := List.mem_map.1 hx
    exact (hp y hy).nonneg) (by decide)
  have e : zAgg.cnt = 0 := rfl
  rw [e, Int.zero_add] at h
  exact h

set_option maxRecDepth 100000 in
set_option maxHeartbeats 1000000 in
theorem foldRange_any (b off c : Nat) (xs : List GBkt) (f t : Int) (B : Nat) (w : World) (h : BktsAt w B (some ⟨b, off, none⟩) xs) (hB : B ≤ w.heap.size) (hl : xs.length ≤ 1048576) (hc : xs.length ≤ c) :
    Calls Tryz.prog 93 #[.slice (some ⟨b, off, none⟩) xs.length c, .int .i64 f, .int .i64 t] w fun e w' => ∃ r cd, e = .returned (.tuple #[.agg #[.int .i64 r.cnt, .int .i64 r.sum, .int .i64 r.mn, .int .i64 r.mx, .int .i64 r.fst, .int .i64 r.lst], .int .i64 cd]) ∧ FoldR xs f t r cd ∧ Below w.heap.size w w' := by
  have H := Lib.hid h; clear h
  by_cases hlen : 4096 < xs.length
  · have d0 : decide (4096 < (xs.length : Int)) = true := by simp; omega
    have HR := Lib.hid (show FoldR xs f t zAgg 2 from Or.inl ⟨hlen, rfl, rfl⟩)
    clear H
    go_enter Tryz.func93, Tryz.ntmps93
    go_wp2
    refine bodyPost_ret (v := .tuple #[.agg #[.int .i64 0, .int .i64 0, .int .i64 0, .int .i64 0, .int .i64 0, .int .i64 0], .int .i64 2]) (by simp [results, Tryz.results93, go_sem]) rfl ⟨zAgg, 2, rfl, HR.out, bal (Below.refl _ _) _⟩
  have d0 : decide (4096 < (xs.length : Int)) = false := by simp; omega
  go_enter Tryz.func93, Tryz.ntmps93
  go_wp2_with fail
  obtain ⟨W, hW⟩ : ∃ W, W = w.alloc (.cells #[.int .i64 0, .int .i64 0, .int .i64 0, .int .i64 0, .int .i64 0, .int .i64 0] 26) := ⟨_, rfl⟩
  have t0 : Six W w.heap.size zAgg ∧ Free W (some ⟨w.heap.size, 0, none⟩) := by rw [hW]; exact ⟨Six.new w zAgg _, free_alloc w _ _ 0⟩
  have b0 : Below w.heap.size w W := by rw [hW]; exact bal (Below.refl _ _) _
  have s0 : w.heap.size < W.heap.size := by rw [hW]; simp
  rw [← hW]
  clear hW
  have T0 := Lib.hid t0; clear t0
  generalize hx0 : w.heap.size = x0 at *
  have Hx0 := Lib.hid hx0; clear hx0
  refine (bucketsOK_any (some ⟨b, off, none⟩) c xs B W (Sl.below H.out b0 hB) (by omega) hl).mono ?_
  rintro e w1 ⟨bb, hb, rfl, hb1⟩
  have b1 : Below x0 w w1 := b0.trans (hb1.mono (by omega))
  have s1 : x0 < w1.heap.size := by have := hb1.size; omega
  have T1 := Lib.hid (And.intro (T0.out.1.below hb1 s0) (T0.out.2.below hb1 (fun b e => by simp [blk] at e; omega)))
  clear T0 hb1 b0 s0
  cases bb
  · have HR := Lib.hid (show FoldR xs f t zAgg 1 from Or.inr (Or.inl ⟨by omega, (fun h => Bool.noConfusion (hb.2 h)), rfl, rfl⟩))
    clear hb
    obtain ⟨z0, z1, z2, z3, z4, z5⟩ : (w1.cell? ⟨x0, 0, none⟩ = some (.int .i64 0) ∧ w1.cell? ⟨x0, 1, none⟩ = some (.int .i64 0) ∧ w1.cell? ⟨x0, 2, none⟩ = some (.int .i64 0) ∧ w1.cell? ⟨x0, 3, none⟩ = some (.int .i64 0) ∧ w1.cell? ⟨x0, 4, none⟩ = some (.int .i64 0) ∧ w1.cell? ⟨x0, 5, none⟩ = some (.int .i64 0)) := T1.out.1
    have fz := T1.out.2
    have y0 := fz _ rfl 0
    have y1 := fz _ rfl 1
    have y2 := fz _ rfl 2
    have y3 := fz _ rfl 3
    have y4 := fz _ rfl 4
    have y5 := fz _ rfl 5
    clear fz
    go_wp2
    refine bodyPost_ret (v := .tuple #[.agg #[.int .i64 0, .int .i64 0, .int .i64 0, .int .i64 0, .int .i64 0, .int .i64 0], .int .i64 1]) (by simp [results, Tryz.results93, go_sem, *]) rfl ⟨zAgg, 1, rfl, HR.out, ?_⟩
    rw [Hx0.out]
    exact setAgg_below b1 (Nat.le_refl _) zAgg
  have hp : BktP xs := hb.1 rfl
  have HP := Lib.hid hp; clear hp hb
  go_wp2_with fail
  refine (isRange_any f t _).mono ?_
  rintro e w' ⟨rfl, rfl⟩
  cases hr : rngB f t
  · have HR := Lib.hid (show FoldR xs f t zAgg 4 from Or.inr (Or.inr (Or.inl ⟨HP.out, hr, rfl, rfl⟩)))
    clear hr
    obtain ⟨z0, z1, z2, z3, z4, z5⟩ : (w1.cell? ⟨x0, 0, none⟩ = some (.int .i64 0) ∧ w1.cell? ⟨x0, 1, none⟩ = some (.int .i64 0) ∧ w1.cell? ⟨x0, 2, none⟩ = some (.int .i64 0) ∧ w1.cell? ⟨x0, 3, none⟩ = some (.int .i64 0) ∧ w1.cell? ⟨x0, 4, none⟩ = some (.int .i64 0) ∧ w1.cell? ⟨x0, 5, none⟩ = some (.int .i64 0)) := T1.out.1
    have fz := T1.out.2
    have y0 := fz _ rfl 0
    have y1 := fz _ rfl 1
    have y2 := fz _ rfl 2
    have y3 := fz _ rfl 3
    have y4 := fz _ rfl 4
    have y5 := fz _ rfl 5
    clear fz
    go_wp2
    refine bodyPost_ret (v := .tuple #[.agg #[.int .i64 0, .int .i64 0, .int .i64 0, .int .i64 0, .int .i64 0, .int .i64 0], .int .i64 4]) (by simp [results, Tryz.results93, go_sem, *]) rfl ⟨zAgg, 4, rfl, HR.out, ?_⟩
    rw [Hx0.out]
    exact setAgg_below b1 (Nat.le_refl _) zAgg
  have Hr := Lib.hid hr; clear hr
  go_wp2_with fail
  refine (aggsOf_any (some ⟨b, off, none⟩) c xs B w1 (Sl.below H.out b1 hB) (by omega) hl).mono ?_
  rintro e w2 ⟨g, rfl, ha, hb2⟩
  have b2 : Below x0 w w2 := b1.trans (hb2.mono (by omega))
  have s2 : x0 < w2.heap.size := by have := hb2.size; omega
  have T2 := Lib.hid (And.intro (T1.out.1.below hb2 s1) (T1.out.2.below hb2 (fun b e => by simp [blk] at e; omega)))
  have hml : (xs.map (·.agg)).length = xs.length := List.length_map _
  have hm := merge_any (some ⟨g, 0, none⟩) xs.length (xs.map (·.agg)) w2.heap.size w2 ha (Nat.le_refl _) (fun x hx => by
    obtain ⟨y, hy, rfl⟩ := List.mem_map.1 hx
    exact HP.out.aggs y hy) (by rw [hml]; omega)
  rw [hml] at hm
  have hM := mergeAll_bkts HP.out.aggs
  clear T1 hb2 b1 s1 ha hml
  by_cases hmany : 100000 < tot (xs.map (·.agg))
  · rw [hM.2 hmany] at hm
    have HR := Lib.hid (show FoldR xs f t zAgg 6 from Or.inr (Or.inr (Or.inr (Or.inl ⟨HP.out, Hr.out, hmany, rfl, rfl⟩))))
    have HM := Lib.hid hm; clear hm hM hmany
    go_wp2_with fail
    refine HM.out.mono ?_
    rintro e w3 ⟨rfl, hb3⟩
    have b3 : Below x0 w w3 := b2.trans (hb3.mono (by omega))
    have s3 : x0 < w3.heap.size := by have := hb3.size; omega
    have T3 := Lib.hid (And.intro (T2.out.1.below hb3 s2) (T2.out.2.below hb3 (fun b e => by simp [blk] at e; omega)))
    clear HM T2 hb3 b2 s2
    unfold GAgg.val zAgg
    dsimp only
    obtain ⟨z0, z1, z2, z3, z4, z5⟩ : (w3.cell? ⟨x0, 0, none⟩ = some (.int .i64 0) ∧ w3.cell? ⟨x0, 1, none⟩ = some (.int .i64 0) ∧ w3.cell? ⟨x0, 2, none⟩ = some (.int .i64 0) ∧ w3.cell? ⟨x0, 3, none⟩ = some (.int .i64 0) ∧ w3.cell? ⟨x0, 4, none⟩ = some (.int .i64 0) ∧ w3.cell? ⟨x0, 5, none⟩ = some (.int .i64 0)) := T3.out.1
    have fz := T3.out.2
    have y0 := fz _ rfl 0
    have y1 := fz _ rfl 1
    have y2 := fz _ rfl 2
    have y3 := fz _ rfl 3
    have y4 := fz _ rfl 4
    have y5 := fz _ rfl 5
    clear fz
    go_wp2
    refine bodyPost_ret (v := .tuple #[.agg #[.int .i64 0, .int .i64 0, .int .i64 0, .int .i64 0, .int .i64 0, .int .i64 0], .int .i64 6]) (by simp [results, Tryz.results93, go_sem, *]) rfl ⟨zAgg, 6, rfl, HR.out, ?_⟩
    rw [Hx0.out]
    exact (setAgg_below b3 (Nat.le_refl _) zAgg).alloc (by rw [setAgg_size]; omega) _
  · rw [hM.1 (by omega)] at hm
    have HM := Lib.hid hm
    have Hmany := Lib.hid (show tot (xs.map (·.agg)) ≤ 100000 by omega)
    clear hm hM hmany
    generalize (xs.map (·.agg)).foldl gMerge zAgg = Q at *
    go_wp2_with fail
    refine HM.out.mono ?_
    rintro e w3 ⟨rfl, hb3⟩
    have b3 : Below x0 w w3 := b2.trans (hb3.mono (by omega))
    have s3 : x0 < w3.heap.size := by have := hb3.size; omega
    have T3 := Lib.hid (And.intro (T2.out.1.below hb3 s2) (T2.out.2.below hb3 (fun b e => by simp [blk] at e; omega)))
    clear HM T2 hb3 b2 s2
    unfold GAgg.val
    go_wp2_with fail
    have b3' : Below x0 w (w3.alloc (.cells #[.int .i64 Q.cnt, .int .i64 Q.sum, .int .i64 Q.mn, .int .i64 Q.mx, .int .i64 Q.fst, .int .i64 Q.lst] 26)) := b3.alloc (by omega) _
    have s3' : x0 < (w3.alloc (.cells #[.int .i64 Q.cnt, .int .i64 Q.sum, .int .i64 Q.mn, .int .i64 Q.mx, .int .i64 Q.fst, .int .i64 Q.lst] 26)).heap.size := by simp; omega
    have T3' := Lib.hid (And.intro (T3.out.1.below (bal (Below.refl _ w3) (.cells #[.int .i64 Q.cnt, .int .i64 Q.sum, .int .i64 Q.mn, .int .i64 Q.mx, .int .i64 Q.fst, .int .i64 Q.lst] 26)) s3) (T3.out.2.below (bal (Below.refl _ w3) (.cells #[.int .i64 Q.cnt, .int .i64 Q.sum, .int .i64 Q.mn, .int .i64 Q.mx, .int .i64 Q.fst, .int .i64 Q.lst] 26)) (fun b e => by simp [blk] at e; omega)))
    clear b3 s3 T3
    generalize w3.alloc (.cells #[.int .i64 Q.cnt, .int .i64 Q.sum, .int .i64 Q.mn, .int .i64 Q.mx, .int .i64 Q.fst, .int .i64 Q.lst] 26) = w4 at *
    have hft := (rngB_iff.1 Hr.out).2.1
    refine (spanBucket_any b off c xs f t hft B w4 (Sl.below H.out b3' hB) (by omega) hl hc).mono ?_
    rintro e w5 ⟨A5, c5, k, l, rfl, hk, hl5, hs5, hb5⟩
    have hY := span_filter HP.out.ris hk hl5 hft
    have hlY : ((xs.take l).drop k).length ≤ 1048576 := by simp only [List.length_drop, List.length_take]; omega
    generalize (xs.take l).drop k = Y at *
    have b5 : Below x0 w w5 := b3'.trans (hb5.mono (by omega))
    have s5 : x0 < w5.heap.size := by have := hb5.size; omega
    have T5 := Lib.hid (And.intro (T3'.out.1.below hb5 s3') (T3'.out.2.below hb5 (fun b e => by simp [blk] at e; omega)))
    have HS5 := Lib.hid hs5
    clear hk hl5 hs5 hb5 T3' b3' s3'
    have HY := Lib.hid hY; clear hY
    go_wp2_with fail
    refine (aggsOf_any A5 c5 Y B w5 HS5.out (by omega) hlY).mono ?_
    rintro e w6 ⟨g6, rfl, ha6, hb6⟩
    have b6 : Below x0 w w6 := b5.trans (hb6.mono (by omega))
    have s6 : x0 < w6.heap.size := by have := hb6.size; omega
    have T6 := Lib.hid (And.intro (T5.out.1.below hb6 s5) (T5.out.2.below hb6 (fun b e => by simp [blk] at e; omega)))
    have hpY : ∀ x ∈ Y, AggP x.agg := fun x hx => HP.out.aggs x (by rw [HY.out] at hx; exact (List.mem_filter.1 hx).1)
    have hml : (Y.map (·.agg)).length = Y.length := List.length_map _
    have hm := merge_any (some ⟨g6, 0, none⟩) Y.length (Y.map (·.agg)) w6.heap.size w6 ha6 (Nat.le_refl _) (fun x hx => by
      obtain ⟨y, hy, rfl⟩ := List.mem_map.1 hx
      exact hpY y hy) (by rw [hml]; omega)
    have htY : tot (Y.map (·.agg)) ≤ 100000 := by
      have h1 := tot_filter (fun x : GBkt => x.agg) (inR GBkt.beg f t) xs (fun x hx => (HP.out.aggs x hx).nonneg)
      rw [← HY.out] at h1
      have h2 := Hmany.out
      omega
    rw [hml, (mergeAll_bkts hpY).1 htY] at hm
    have hR : FoldR xs f t ((Y.map (·.agg)).foldl gMerge zAgg) 0 := Or.inr (Or.inr (Or.inr (Or.inr ⟨HP.out, Hr.out, Hmany.out, by rw [HY.out]; rfl, rfl⟩)))
    generalize (Y.map (·.agg)).foldl gMerge zAgg = R at *
    have HR := Lib.hid hR
    have HM := Lib.hid hm
    clear hR hm hml hpY htY ha6 hb6 T5 b5 s5 HS5
    go_wp2_with fail
    refine HM.out.mono ?_
    rintro e w7 ⟨rfl, hb7⟩
    have b7 : Below x0 w w7 := b6.trans (hb7.mono (by omega))
    have s7 : x0 < w7.heap.size := by have := hb7.size; omega
    have T7 := Lib.hid (And.intro (T6.out.1.below hb7 s6) (T6.out.2.below hb7 (fun b e => by simp [blk] at e; omega)))
    clear HM T6 hb7 b6 s6
    unfold GAgg.val
    obtain ⟨z0, z1, z2, z3, z4, z5⟩ : (w7.cell? ⟨x0, 0, none⟩ = some (.int .i64 0) ∧ w7.cell? ⟨x0, 1, none⟩ = some (.int .i64 0) ∧ w7.cell? ⟨x0, 2, none⟩ = some (.int .i64 0) ∧ w7.cell? ⟨x0, 3, none⟩ = some (.int .i64 0) ∧ w7.cell? ⟨x0, 4, none⟩ = some (.int .i64 0) ∧ w7.cell? ⟨x0, 5, none⟩ = some (.int .i64 0)) := T7.out.1
    have fz := T7.out.2
    have y0 := fz _ rfl 0
    have y1 := fz _ rfl 1
    have y2 := fz _ rfl 2
    have y3 := fz _ rfl 3
    have y4 := fz _ rfl 4
    have y5 := fz _ rfl 5
    clear fz
    go_wp2
    refine bodyPost_ret (v := .tuple #[.agg #[.int .i64 R.cnt, .int .i64 R.sum, .int .i64 R.mn, .int .i64 R.mx, .int .i64 R.fst, .int .i64 R.lst], .int .i64 0]) (by simp [results, Tryz.results93, go_sem, *]) rfl ⟨R, 0, rfl, HR.out, ?_⟩
    rw [Hx0.out]
    exact setAgg_below b7 (Nat.le_refl _) R

end Go.Proofs.YtpackpocnonpiaaGreatDoor
