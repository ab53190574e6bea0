/-
  Contracts of RollUp of both packages and of the program's Downsample. Conditions: none beside lengths.
-/
import Derived.Test.YtkpaocejpjhkpaaFoldR
namespace Go.Proofs.Ytkpaocejpjhkpaa
open Go.ChangeShapes Go.WideShapes Go.ChangeAt Go.RowKit
set_option linter.unusedVariables false
set_option linter.unusedSimpArgs false

/-- buckets and a code are answered, the buckets in new memory of their own -/
def BkAns (R : List GBkt → Int → Prop) (w : World) (e : Ending) (w' : World) : Prop :=
  ∃ (L : List GBkt) (cd : Int) (A : Option Addr) (c : Nat), e = .returned (.tuple #[.slice A L.length c, .int .i64 cd]) ∧ R L cd ∧ BktsAt w' w'.heap.size A L ∧ Free w' A ∧ (∀ b, blk A = some b → w.heap.size ≤ b ∧ b < w'.heap.size) ∧ L.length ≤ c ∧ Below w.heap.size w w'

set_option maxRecDepth 100000 in
theorem rollUp_any (b off c : Nat) (xs : List GBkt) (f t : Int) (B : Nat) (w : World) (h : BktsAt w B (some ⟨b, off, none⟩) xs) (hB : B ≤ w.heap.size) (hl : xs.length ≤ 1048576) (hc : xs.length ≤ c) :
    Calls Try.prog 22 #[.slice (some ⟨b, off, none⟩) xs.length c, .int .i64 f, .int .i64 t] w (BkAns (UpR xs f t) w) := by
  go_enter Try.func22, Try.ntmps22
  go_wp2_with fail
  refine (foldRange_any b off c xs f t B w h hB hl hc).mono ?_
  rintro e w1 ⟨r, cd, rfl, hr, hb1⟩
  have HR := Lib.hid (show UpR xs f t (bktOf f r) cd from ⟨r, hr, rfl⟩); clear hr h
  go_wp2_with fail
  have b1 : Below w.heap.size w (w1.alloc (.cells #[.int .i64 r.cnt, .int .i64 r.sum, .int .i64 r.mn, .int .i64 r.mx, .int .i64 r.fst, .int .i64 r.lst] 46)) := bal hb1 _
  clear hb1
  generalize w1.alloc (.cells #[.int .i64 r.cnt, .int .i64 r.sum, .int .i64 r.mn, .int .i64 r.mx, .int .i64 r.fst, .int .i64 r.lst] 46) = w2 at *
  refine (bucketFrom_any f r w2).mono ?_
  rintro e w3 ⟨A3, c3, rfl, h1, h2, h3, h4, h5⟩
  have H1 := Lib.hid h1; have H2 := Lib.hid h2; have H3 := Lib.hid h3; have H5 := Lib.hid h5
  clear h1 h2 h3 h5
  generalize bktOf f r = L at *
  go_wp2
  refine bodyPost_ret (v := .tuple #[.slice A3 L.length c3, .int .i64 cd]) (by simp [results, Try.results22, go_sem]) rfl ⟨L, cd, A3, c3, rfl, HR.out, H1.out, H2.out, fun b e => ⟨Nat.le_trans b1.size (H3.out b e).1, (H3.out b e).2⟩, h4, bnext b1 H5.out⟩

theorem own_bkts (w : World) (e : TypeId) : BktsAt (w.alloc (.cells #[] e)) (w.alloc (.cells #[] e)).heap.size (some ⟨w.heap.size, 0, none⟩) [] ∧ Free (w.alloc (.cells #[] e)) (some ⟨w.heap.size, 0, none⟩) := ⟨Sl.nil, free_alloc w _ _ 0⟩

set_option maxRecDepth 100000 in
theorem l04Up_any (A : Option Addr) (c : Nat) (xs : List GBkt) (f t : Int) (hr : rngB f t = true) (B : Nat) (w : World) (h : BktsAt w B A xs) (hB : B ≤ w.heap.size) (hl : xs.length ≤ 8) (hp : ∀ x ∈ xs, AggP x.agg) :
    Calls Try.prog 42 #[.slice A xs.length c, .int .i64 f, .int .i64 t] w fun e w' => ∃ r, r = foldB xs f t ∧ NewBkts (bktOf f r) w e w' := by
  go_enter Try.func42, Try.ntmps42
  go_wp2_with fail
  refine (l04Fold_any A c xs f t hr B w h hB hl hp).mono ?_
  rintro e w1 ⟨r, rfl, hr1, hb1⟩
  have HR := Lib.hid hr1; clear hr1 h hp hr
  have hz1 := hb1.size
  by_cases h0 : r.cnt = 0
  · have d0 : (r.cnt == 0) = true := by simpa using h0
    have e : bktOf f r = [] := by simp [bktOf, h0]
    have E := Lib.hid e; clear e h0
    go_wp2
    go_ret
    refine ⟨r, HR.out, ?_⟩
    rw [E.out]
    exact ⟨some ⟨w1.heap.size + 1, 0, none⟩, 0, rfl, Sl.nil, by simpa using free_alloc (w1.alloc (.cells #[.int .i64 r.cnt, .int .i64 r.sum, .int .i64 r.mn, .int .i64 r.mx, .int .i64 r.fst, .int .i64 r.lst] 46)) #[] 65 0, fun b e => by simp [blk] at e; subst e; exact ⟨by omega, by simp⟩, by simp, bal (bal hb1 _) _⟩
  · have d0 : (r.cnt == 0) = false := by simpa using h0
    have e : bktOf f r = [⟨f, r⟩] := by simp [bktOf, h0]
    have E := Lib.hid e; clear e h0
    have HN := Lib.hid (fun (W : World) => new_bkt W ⟨f, r⟩ 65)
    go_wp2
    go_ret
    refine ⟨r, HR.out, ?_⟩
    rw [E.out]
    refine ⟨some ⟨w1.heap.size + 1, 0, none⟩, 1, rfl, ?_, ?_, fun b e => ?_, by simp, bal (bal hb1 _) _⟩
    · have := HN.out (w1.alloc (.cells #[.int .i64 r.cnt, .int .i64 r.sum, .int .i64 r.mn, .int .i64 r.mx, .int .i64 r.fst, .int .i64 r.lst] 46))
      simp at this ⊢
      exact this
    · have := free_alloc (w1.alloc (.cells #[.int .i64 r.cnt, .int .i64 r.sum, .int .i64 r.mn, .int .i64 r.mx, .int .i64 r.fst, .int .i64 r.lst] 46)) #[.int .i64 f, .int .i64 r.cnt, .int .i64 r.sum, .int .i64 r.mn, .int .i64 r.mx, .int .i64 r.fst, .int .i64 r.lst] 65 0
      simpa using this
    · simp [blk] at e
      subst e
      exact ⟨by omega, by simp⟩

set_option maxRecDepth 100000 in
theorem specRollUp_any (A : Option Addr) (c : Nat) (xs : List GBkt) (f t : Int) (B : Nat) (w : World) (h : BktsAt w B A xs) (hB : B ≤ w.heap.size) (hl : xs.length ≤ 1048576) :
    Calls Try.prog 20 #[.slice A xs.length c, .int .i64 f, .int .i64 t] w (BkAns (UpR xs f t) w) := by
  have H := Lib.hid h; clear h
  by_cases hlen : 4096 < xs.length
  · have d0 : decide (4096 < (xs.length : Int)) = true := by simp; omega
    have HR := Lib.hid (show UpR xs f t [] 2 from ⟨zAgg, Or.inl ⟨hlen, rfl, rfl⟩, rfl⟩)
    clear H
    go_enter Try.func20, Try.ntmps20
    go_wp2
    refine bodyPost_ret (v := .tuple #[.slice (some ⟨w.heap.size, 0, none⟩) 0 0, .int .i64 2]) (by simp [results, Try.results20, go_sem]) rfl ⟨[], 2, _, _, rfl, HR.out, Sl.nil, free_alloc w _ _ 0, fun b e => by simp [blk] at e; subst e; exact ⟨by omega, by simp⟩, by simp, bal (Below.refl _ _) _⟩
  have d0 : decide (4096 < (xs.length : Int)) = false := by simp; omega
  go_enter Try.func20, Try.ntmps20
  go_wp2_with fail
  refine (l04Ask_any A c xs f t B w H.out hB hl).mono ?_
  rintro e w1 ⟨cd, rfl, hA, hb1⟩
  have hz1 := hb1.size
  by_cases hz : cd = 0
  · subst hz
    have hA' : BktP xs ∧ rngB f t = true ∧ tot (xs.map (·.agg)) ≤ 100000 := by
      rcases hA with ⟨_, h⟩ | ⟨_, _, h⟩ | ⟨_, _, h⟩ | ⟨_, _, _, h⟩ | ⟨h1, h2, h3, _⟩
      · omega
      · omega
      · omega
      · omega
      · exact ⟨h1, h2, h3⟩
    obtain ⟨hp, hr, ht⟩ := hA'
    have HP := Lib.hid hp; have Hr := Lib.hid hr; have Ht := Lib.hid ht
    clear hA hp hr ht
    go_wp2_with fail
    refine (l04Up_any A c xs f t Hr.out B w1 (Sl.below H.out hb1 hB) (by omega) HP.out.1 HP.out.aggs).mono ?_
    rintro e w2 ⟨r, hr, A2, c2, rfl, h1, h2, h3, h4, h5⟩
    have HR := Lib.hid (show UpR xs f t (bktOf f r) 0 from ⟨r, Or.inr (Or.inr (Or.inr (Or.inr ⟨HP.out, Hr.out, Ht.out, hr, rfl⟩))), rfl⟩)
    have H1 := Lib.hid h1; have H2 := Lib.hid h2; have H3 := Lib.hid h3; have H5 := Lib.hid h5
    clear h1 h2 h3 h5 hr
    generalize bktOf f r = L at *
    go_wp2
    refine bodyPost_ret (v := .tuple #[.slice A2 L.length c2, .int .i64 0]) (by simp [results, Try.results20, go_sem]) rfl ⟨L, 0, A2, c2, rfl, HR.out, H1.out, H2.out, fun b e => ⟨Nat.le_trans hz1 (H3.out b e).1, (H3.out b e).2⟩, h4, bnext hb1 H5.out⟩
  · have hA' : FoldR xs f t zAgg cd := by
      rcases hA with ⟨h1, h⟩ | ⟨h1, h2, h⟩ | ⟨h1, h2, h⟩ | ⟨h1, h2, h3, h⟩ | ⟨h1, h2, h3, h⟩
      · exact Or.inl ⟨h1, rfl, h⟩
      · exact Or.inr (Or.inl ⟨h1, h2, rfl, h⟩)
      · exact Or.inr (Or.inr (Or.inl ⟨h1, h2, rfl, h⟩))
      · exact Or.inr (Or.inr (Or.inr (Or.inl ⟨h1, h2, h3, rfl, h⟩)))
      · exact absurd h hz
    have HR := Lib.hid (show UpR xs f t [] cd from ⟨zAgg, hA', rfl⟩)
    have d1 : (cd != 0) = true := by simpa using hz
    have d2 : (cd == 0) = false := by simpa using hz
    clear hA hA' hz
    go_wp2
    refine bodyPost_ret (v := .tuple #[.slice (some ⟨w1.heap.size, 0, none⟩) 0 0, .int .i64 cd]) (by simp [results, Try.results20, go_sem]) rfl ⟨[], cd, _, _, rfl, HR.out, Sl.nil, free_alloc w1 _ _ 0, fun b e => by simp [blk] at e; subst e; exact ⟨by omega, by simp⟩, by simp, bal hb1 _⟩

set_option maxRecDepth 100000 in
set_option maxHeartbeats 1000000 in
theorem downsample_any (b off c : Nat) (xs : List GSam) (f t : Int) (B : Nat) (w : World) (h : SamsAt w B (some ⟨b, off, none⟩) xs) (hB : B ≤ w.heap.size) (hl : xs.length ≤ 1048576) (hc : xs.length ≤ c) :
    Calls Try.prog 13 #[.slice (some ⟨b, off, none⟩) xs.length c, .int .i64 f, .int .i64 t] w (BkAns (DownR xs f t) w) := by
  have H := Lib.hid h; clear h
  by_cases hlen : 4096 < xs.length
  · have d0 : decide (4096 < (xs.length : Int)) = true := by simp; omega
    have HR := Lib.hid (show DownR xs f t [] 2 from Or.inl ⟨hlen, rfl, rfl⟩)
    clear H
    go_enter Try.func13, Try.ntmps13
    go_wp2
    refine bodyPost_ret (v := .tuple #[.slice none 0 0, .int .i64 2]) (by simp [results, Try.results13, go_sem]) rfl ⟨[], 2, none, 0, rfl, HR.out, Sl.nil, Free.none_, fun b e => by simp [blk] at e, by simp, Below.refl _ _⟩
  have d0 : decide (4096 < (xs.length : Int)) = false := by simp; omega
  go_enter Try.func13, Try.ntmps13
  go_wp2_with fail
  refine (samplesOK_any (some ⟨b, off, none⟩) c xs B w H.out hB hl).mono ?_
  rintro e w1 ⟨bb, hb, rfl, hb1⟩
  have hz1 := hb1.size
  cases bb
  · have HR := Lib.hid (show DownR xs f t [] 1 from Or.inr (Or.inl ⟨by omega, (fun h => Bool.noConfusion (hb.2 h)), rfl, rfl⟩))
    clear hb
    go_wp2
    refine bodyPost_ret (v := .tuple #[.slice none 0 0, .int .i64 1]) (by simp [results, Try.results13, go_sem]) rfl ⟨[], 1, none, 0, rfl, HR.out, Sl.nil, Free.none_, fun b e => by simp [blk] at e, by simp, hb1⟩
  have hp : SamP xs := hb.1 rfl
  have HP := Lib.hid hp; clear hp hb
  go_wp2_with fail
  refine (isRange_any f t _).mono ?_
  rintro e w' ⟨rfl, rfl⟩
  cases hr : rngB f t
  · have HR := Lib.hid (show DownR xs f t [] 4 from Or.inr (Or.inr (Or.inl ⟨HP.out, hr, rfl, rfl⟩)))
    clear hr
    go_wp2
    refine bodyPost_ret (v := .tuple #[.slice none 0 0, .int .i64 4]) (by simp [results, Try.results13, go_sem]) rfl ⟨[], 4, none, 0, rfl, HR.out, Sl.nil, Free.none_, fun b e => by simp [blk] at e, by simp, hb1⟩
  have Hr := Lib.hid hr; clear hr
  have hft := (rngB_iff.1 Hr.out).2.1
  go_wp2_with fail
  refine (spanSample_any b off c xs f t hft B w1 (Sl.below H.out hb1 hB) (by omega) hl hc).mono ?_
  rintro e w2 ⟨A2, c2, k, l, rfl, hk, hl2, hs2, hb2⟩
  have hY := span_filter HP.out.ris hk hl2 hft
  have hpY := SamP.span HP.out k l
  have hlY : ((xs.take l).drop k).length ≤ 1048576 := by simp only [List.length_drop, List.length_take]; omega
  generalize (xs.take l).drop k = Y at *
  have b2 := bnext hb1 hb2
  have HS2 := Lib.hid hs2; have HY := Lib.hid hY; have HPY := Lib.hid hpY
  have hz2 := hb2.size
  clear hk hl2 hs2 hb2 hY hpY
  go_wp2_with fail
  refine (aggOf_any A2 c2 Y B w2 HS2.out (by omega) hlY).mono ?_
  rintro e w3 ⟨r, cd, rfl, hR, hb3⟩
  obtain ⟨rfl, rfl⟩ : r = gOf Y ∧ cd = 0 := by
    rcases hR with ⟨h, _⟩ | ⟨_, h, _⟩ | ⟨_, h1, h2⟩
    · have := HPY.out.1; omega
    · exact absurd HPY.out h
    · exact ⟨h1, h2⟩
  have HR := Lib.hid (show DownR xs f t (bktOf f (gOf Y)) 0 from Or.inr (Or.inr (Or.inr ⟨HP.out, Hr.out, by rw [HY.out], rfl⟩)))
  have b3 := bnext b2 hb3
  clear hR hb3 HS2 b2
  generalize gOf Y = r at *
  go_wp2_with fail
  have b4 : Below w.heap.size w (w3.alloc (.cells #[.int .i64 r.cnt, .int .i64 r.sum, .int .i64 r.mn, .int .i64 r.mx, .int .i64 r.fst, .int .i64 r.lst] 46)) := bal b3 _
  clear b3
  generalize w3.alloc (.cells #[.int .i64 r.cnt, .int .i64 r.sum, .int .i64 r.mn, .int .i64 r.mx, .int .i64 r.fst, .int .i64 r.lst] 46) = w4 at *
  refine (bucketFrom_any f r w4).mono ?_
  rintro e w5 ⟨A5, c5, rfl, h1, h2, h3, h4, h5⟩
  have H1 := Lib.hid h1; have H2 := Lib.hid h2; have H3 := Lib.hid h3; have H5 := Lib.hid h5
  clear h1 h2 h3 h5
  generalize bktOf f r = L at *
  go_wp2
  refine bodyPost_ret (v := .tuple #[.slice A5 L.length c5, .int .i64 0]) (by simp [results, Try.results13, go_sem]) rfl ⟨L, 0, A5, c5, rfl, HR.out, H1.out, H2.out, fun b e => ⟨Nat.le_trans b4.size (H3.out b e).1, (H3.out b e).2⟩, h4, bnext b4 H5.out⟩

end Go.Proofs.Ytkpaocejpjhkpaa
