/-
  'laws.FnAgg' answers true at every two byte strings: aggregates of parts, put together in order, are the aggregate of all. Conditions: none.
-/
import Derived.Test.YthcnlgjklbodjaaAggMath
import Derived.Test.YthcnlgjklbodjaaOfSpec
import Derived.Test.YthcnlgjklbodjaaAt
import Derived.Test.YthcnlgjklbodjaaCut
namespace Go.Proofs.Ythcnlgjklbodjaa.fnAgg
open Go.ChangeShapes Go.WideShapes Go.ChangeAt Go.RowKit
set_option linter.unusedVariables false

theorem aggOf_ok (A : Option Addr) (c n : Nat) (xs : List GSam) (hn : xs.length = n) (B : Nat) (w : World) (h : SamsAt w B A xs) (hB : B ≤ w.heap.size) (hp : SamP xs) :
    Calls Try.prog 28 #[.slice A n c] w fun e w' => ∃ r, e = .returned (.tuple #[.agg #[.int .i64 r.cnt, .int .i64 r.sum, .int .i64 r.mn, .int .i64 r.mx, .int .i64 r.fst, .int .i64 r.lst], .int .i64 0]) ∧ r = gOf xs ∧ Below w.heap.size w w' := by
  subst hn
  refine (aggOf_any A c xs B w h hB (by have := hp.1; omega)).mono ?_
  rintro e w' ⟨r, cd, rfl, hr, hb⟩
  rcases hr with hr | hr | hr
  · have := hp.1; omega
  · exact absurd hp hr.2.1
  · obtain ⟨_, h2, rfl⟩ := hr; exact ⟨r, rfl, h2, hb⟩

theorem specAggOf_ok (A : Option Addr) (c n : Nat) (xs : List GSam) (hn : xs.length = n) (B : Nat) (w : World) (h : SamsAt w B A xs) (hB : B ≤ w.heap.size) (hp : SamP xs) :
    Calls Try.prog 29 #[.slice A n c] w fun e w' => ∃ r, e = .returned (.tuple #[.agg #[.int .i64 r.cnt, .int .i64 r.sum, .int .i64 r.mn, .int .i64 r.mx, .int .i64 r.fst, .int .i64 r.lst], .int .i64 0]) ∧ r = gOf xs ∧ Below w.heap.size w w' := by
  subst hn
  refine (specAggOf_any A c xs B w h hB (by have := hp.1; omega)).mono ?_
  rintro e w' ⟨r, cd, rfl, hr, hb⟩
  rcases hr with hr | hr | hr
  · have := hp.1; omega
  · exact absurd hp hr.2.1
  · obtain ⟨_, h2, rfl⟩ := hr; exact ⟨r, rfl, h2, hb⟩

theorem mergeAgg_ok (a b : GAgg) (ha : AggP a) (hb : AggP b) (hc : a.cnt + b.cnt ≤ 100000) (w : World) :
    Calls Try.prog 30 #[.agg #[.int .i64 a.cnt, .int .i64 a.sum, .int .i64 a.mn, .int .i64 a.mx, .int .i64 a.fst, .int .i64 a.lst], .agg #[.int .i64 b.cnt, .int .i64 b.sum, .int .i64 b.mn, .int .i64 b.mx, .int .i64 b.fst, .int .i64 b.lst]] w fun e w' => ∃ r, e = .returned (.tuple #[.agg #[.int .i64 r.cnt, .int .i64 r.sum, .int .i64 r.mn, .int .i64 r.mx, .int .i64 r.fst, .int .i64 r.lst], .int .i64 0]) ∧ r = gMerge a b ∧ Below w.heap.size w w' := by
  refine (mergeAgg_any a b w).mono ?_
  rintro e w' ⟨r, cd, rfl, hr, hb'⟩
  rcases hr with hr | hr | hr
  · exact absurd ⟨ha, hb⟩ hr.1
  · omega
  · obtain ⟨_, _, _, h2, rfl⟩ := hr; exact ⟨r, rfl, h2, hb'⟩

theorem samplesOK_ok (A : Option Addr) (c n : Nat) (xs : List GSam) (hn : xs.length = n) (B : Nat) (w : World) (h : SamsAt w B A xs) (hB : B ≤ w.heap.size) (hp : SamP xs) :
    Calls Try.prog 32 #[.slice A n c] w fun e w' => e = .returned (.bool true) ∧ Below w.heap.size w w' := by
  subst hn
  exact (samplesOK_any A c xs B w h hB (by have := hp.1; omega)).mono fun e w' ⟨b, hb, he, hB⟩ => ⟨by rw [he, hb.2 hp], hB⟩

/-- what the parts of a drawn list are -/
structure Parts (L : List GSam) (i k : Nat) : Prop where
  len : L.length ≤ 16
  all : SamP L
  p : SamP ((L.take i).drop 0)
  q : SamP ((L.take (i + k)).drop i)
  r : SamP ((L.take L.length).drop (i + k))
  ap : AggP (gOf ((L.take i).drop 0))
  aq : AggP (gOf ((L.take (i + k)).drop i))
  ar : AggP (gOf ((L.take L.length).drop (i + k)))
  aa : AggP (gOf L)
  whole : gMerge (gMerge (gOf ((L.take i).drop 0)) (gOf ((L.take (i + k)).drop i))) (gOf ((L.take L.length).drop (i + k))) = gOf L
  whole' : gMerge (gOf ((L.take i).drop 0)) (gMerge (gOf ((L.take (i + k)).drop i)) (gOf ((L.take L.length).drop (i + k)))) = gOf L
  ax : AggP (gMerge (gOf ((L.take i).drop 0)) (gOf ((L.take (i + k)).drop i)))
  az : AggP (gMerge (gOf ((L.take (i + k)).drop i)) (gOf ((L.take L.length).drop (i + k))))

theorem sub_mem {L : List GSam} {a b : Nat} {s : GSam} (h : s ∈ (L.take a).drop b) : s ∈ L := List.mem_of_mem_take (List.mem_of_mem_drop h)

theorem parts_of {L : List GSam} (hl : L.length ≤ 16) (ha : Adj L) (hs : ∀ s ∈ L, samB s = true) {i k : Nat} (hik : i + k ≤ L.length) : Parts L i k := by
  have sub : ∀ a b, SamP ((L.take a).drop b) := fun a b => samP_of ((ha.take a).drop b) (fun s h => hs s (sub_mem h)) (by simp; omega)
  have agg : ∀ l : List GSam, (∀ s ∈ l, samB s = true) → l.length ≤ 16 → AggP (gOf l) := fun l h1 h2 => aggP_fold l zAgg (Or.inl rfl) h1 (by simp [zAgg]; omega)
  have aggs : ∀ a b, AggP (gOf ((L.take a).drop b)) := fun a b => agg _ (fun s h => hs s (sub_mem h)) (by simp; omega)
  have e1 : (L.take i).drop 0 ++ (L.take (i + k)).drop i = L.take (i + k) := by
    have : (L.take (i + k)).take i = L.take i := by rw [List.take_take]; congr 1; omega
    rw [List.drop_zero, ← this, List.take_append_drop]
  have e2 : L.take (i + k) ++ (L.take L.length).drop (i + k) = L := by rw [List.take_of_length_le (Nat.le_refl _), List.take_append_drop]
  have w1 : gMerge (gMerge (gOf ((L.take i).drop 0)) (gOf ((L.take (i + k)).drop i))) (gOf ((L.take L.length).drop (i + k))) = gOf L := by rw [← gOf_append, e1, ← gOf_append, e2]
  have c1 : ∀ a b : GAgg, AggP a → AggP b → a.cnt + b.cnt ≤ 100000 → AggP (gMerge a b) := fun a b h1 h2 h3 => h1.merge h2 (by rw [gMerge_cnt]; exact h3)
  have hcnt : ∀ a b, (gOf ((L.take a).drop b)).cnt ≤ 16 := fun a b => by rw [gOf_cnt]; simp; omega
  refine ⟨hl, samP_of ha hs (by omega), sub _ _, sub _ _, sub _ _, aggs _ _, aggs _ _, aggs _ _, agg L hs hl, w1, ?_, ?_, ?_⟩
  · rw [← gMerge_assoc (aggs _ _).good (aggs _ _).good (aggs _ _).good]; exact w1
  · exact c1 _ _ (aggs _ _) (aggs _ _) (by have := hcnt i 0; have := hcnt (i + k) i; omega)
  · exact c1 _ _ (aggs _ _) (aggs _ _) (by have := hcnt L.length (i + k); have := hcnt (i + k) i; omega)

set_option maxRecDepth 100000 in
set_option maxHeartbeats 1000000 in
theorem walk (A1 : Option Addr) (c1 : Nat) (bs1 : List Int) (A2 : Option Addr) (c2 : Nat) (bs2 : List Int) (w : World) (h1 : BytesAt w w.heap.size A1 bs1) (hx1 : ∀ x ∈ bs1, 0 ≤ x ∧ x ≤ 255) (hl1 : bs1.length ≤ maxLen)
    (h2 : BytesAt w w.heap.size A2 bs2) (hx2 : ∀ x ∈ bs2, 0 ≤ x ∧ x ≤ 255) (hl2 : bs2.length ≤ maxLen) :
    Calls Try.prog 6 #[.slice A1 bs1.length c1, .slice A2 bs2.length c2] w fun e w' => e = .returned (.bool true) ∧ Below w.heap.size w w' := by
  have H1 := Lib.hid h1; clear h1
  have H2 := Lib.hid h2; clear h2
  have Hx1 := Lib.hid hx1; clear hx1
  have Hx2 := Lib.hid hx2; clear hx2
  unfold maxLen at hl1 hl2
  by_cases L1 : 1048576 < bs1.length
  · have d1 : decide (1048576 < (bs1.length : Int)) = true := by simp; omega
    go_enter Try.func6, Try.ntmps6
    go_wp2
    go_ret
    exact ⟨rfl, Below.refl _ _⟩
  have d1 : decide (1048576 < (bs1.length : Int)) = false := by simp; omega
  by_cases L2 : 1048576 < bs2.length
  · have d2 : decide (1048576 < (bs2.length : Int)) = true := by simp; omega
    go_enter Try.func6, Try.ntmps6
    go_wp2
    go_ret
    exact ⟨rfl, Below.refl _ _⟩
  have d2 : decide (1048576 < (bs2.length : Int)) = false := by simp; omega
  go_enter Try.func6, Try.ntmps6
  go_wp2_with fail
  refine (samplesOf_any A1 bs1 c1 0 8 w H1.out Hx1.out (by omega) (by omega) (by omega) (by omega) (by omega)).mono ?_
  rintro e wa ⟨Aa, ca, xa, Fa, rfl, hOa, hRa, hla, hba⟩
  have HOa := Lib.hid hOa; clear hOa
  have HRa := Lib.hid hRa; clear hRa
  go_wp2_with fail
  refine (samplesOf_any A2 bs2 c2 100 8 wa (Sl.more (Sl.below H2.out hba (Nat.le_refl _)) hba.size) Hx2.out (by omega) (by omega) (by omega) (by omega) (by omega)).mono ?_
  rintro e wb ⟨Ab, cb, xb, Fb, rfl, hOb, hRb, hlb, hbb⟩
  have HOa2 := Lib.hid (OwnSl.below HOa.out hbb); clear HOa
  have HSb := Lib.hid (OwnSl.sl hOb (fun _ => rfl)).1; clear hOb
  have HRb := Lib.hid hRb; clear hRb
  have bwb : Below w.heap.size w wb := hba.trans (hbb.mono hba.size)
  clear hba hbb
  go_wp2_with (at_builtin; refine wpList_append_sl GSam.vals 2 16 (fun _ => rfl) sam_one 46 90 _ infoSam' rfl (by omega) Try.underlying46 rfl _ _ rfl w.heap.size xa xb (.slice Aa xa.length ca) rfl HOa2.out Ab cb wb.heap.size rfl HSb.out (by simp [maxLen]; omega) (by omega) bwb.size ?_; intro v' w0 hO0 hg0 _; obtain ⟨A3, c3, hv⟩ := hO0.form; obtain ⟨N, hN⟩ : ∃ N, N = (xa ++ xb).length := ⟨_, rfl⟩; have hO1 := hO0; rw [hv] at hO1; have HO0 := Lib.hid (OwnSl.sl hO1 (fun _ => rfl)); rw [← hN] at hv; subst hv; have hN16 : N ≤ 16 := (by rw [hN]; simp; omega); have HN := Lib.hid hN; clear hO0 hO1 hN; have Hg0 := Lib.hid hg0; clear hg0)
  have b0 : Below w.heap.size w w0 := bwb.trans (below_of_grown Hg0.out bwb.size (fun g e => (World.ownsRow.lt HOa2.out g e).1))
  obtain ⟨L, hL⟩ : ∃ L, L = xa ++ xb := ⟨_, rfl⟩
  have hadj : Adj L := by rw [hL]; exact adj_append HRa.out HRb.out (by have := HRa.out.2.2.2; omega)
  have hsam : ∀ s ∈ L, samB s = true := by
    rw [hL]
    intro s hs
    rw [samB_iff]
    rcases List.mem_append.1 hs with hs | hs
    · have := HRa.out.1 s hs; have := HRa.out.2.2.2; omega
    · have := HRb.out.1 s hs; have := HRb.out.2.2.2; omega
  have hNL : L.length = N := by rw [hL]; exact HN.out.symm
  have HL0 : Hid (SamsAt w0 w0.heap.size A3 L) := Lib.hid (by rw [hL]; exact HO0.out.1)
  have hNc : N ≤ c3 := by rw [← hNL, hL]; exact HO0.out.2.2.2
  have Hadj := Lib.hid hadj; clear hadj
  have Hsam := Lib.hid hsam; clear hsam
  have HNL := Lib.hid hNL; clear hNL hL HN HO0 Hg0 HOa2 HSb HRa HRb bwb hla hlb
  have sy0 : w.heap.size ≤ w0.heap.size := b0.size
  refine (at_any A2 bs2 c2 0 ((N : Int) + 1) w.heap.size w0 (Sl.below H2.out b0 (Nat.le_refl _)) Hx2.out (by omega) (by omega) (by omega) (by omega) (by omega)).mono ?_
  rintro e wc ⟨r1, rfl, hr10, hr11, hbc⟩
  obtain ⟨i, rfl⟩ : ∃ i : Nat, r1 = (i : Int) := ⟨r1.toNat, by omega⟩
  have bc : Below w.heap.size w wc := b0.trans (hbc.mono sy0)
  have HL1 := Lib.hid (Sl.below HL0.out hbc (Nat.le_refl _)); clear HL0
  have syc : w0.heap.size ≤ wc.heap.size := hbc.size
  clear hbc b0
  go_wp2_with fail
  refine (at_any A2 bs2 c2 1 ((N : Int) - (i : Int) + 1) w.heap.size wc (Sl.below H2.out bc (Nat.le_refl _)) Hx2.out (by omega) (by omega) (by omega) (by omega) (by omega)).mono ?_
  rintro e wd ⟨r2, rfl, hr20, hr21, hbd⟩
  obtain ⟨k, rfl⟩ : ∃ k : Nat, r2 = (k : Int) := ⟨r2.toNat, by omega⟩
  have bW : Below w.heap.size w wd := bc.trans (hbd.mono (by omega))
  have HL := Lib.hid (Sl.below HL1.out hbd syc); clear HL1
  have sB : w0.heap.size ≤ wd.heap.size := Nat.le_trans syc hbd.size
  clear hbd bc syc
  generalize w0.heap.size = y0 at *
  have hik : i + k ≤ N := by omega
  have HP : Hid (Parts L i k) := Lib.hid (parts_of (by rw [HNL.out]; exact hN16) Hadj.out Hsam.out (by rw [HNL.out]; exact hik))
  clear Hadj Hsam hr10 hr11 hr20 hr21
  obtain ⟨ti, hti, _, hts, _⟩ := info_parts infoSam'
  have cut1 := fun W => run_cut_to (P := Try.prog) 46 90 ti 2 Try.underlying46 hti hts A3 N c3 i (by omega) W
  have cut2 : ∀ W, (Instr.slice 46 (.slice A3 N c3) (some (.int .i64 (i : Int))) (some (.int .i64 ((i : Int) + (k : Int)))) none).run Try.prog W = .ok (.slice (cutA A3 c3 i 2) k (c3 - i)) W := fun W => by
    have := run_cut_both (P := Try.prog) 46 90 ti 2 Try.underlying46 hti hts A3 N c3 i (i + k) (by omega) (by omega) W
    rw [Nat.add_sub_cancel_left] at this
    simpa using this
  have cut3 : ∀ W, (Instr.slice 46 (.slice A3 N c3) (some (.int .i64 ((i : Int) + (k : Int)))) none none).run Try.prog W = .ok (.slice (cutA A3 c3 (i + k) 2) (N - (i + k)) (c3 - (i + k))) W := fun W => by
    have := run_cut_from (P := Try.prog) 46 90 ti 2 Try.underlying46 hti hts A3 N c3 (i + k) (by omega) W
    simpa using this
  obtain ⟨M, hM⟩ : ∃ M, M = N - (i + k) := ⟨_, rfl⟩
  rw [← hM] at cut3
  have HM := Lib.hid hM; clear hM hti hts
  generalize hB1 : cutA A3 c3 0 2 = B1 at *
  generalize hB2 : cutA A3 c3 i 2 = B2 at *
  generalize hB3 : cutA A3 c3 (i + k) 2 = B3 at *
  have HB1 := Lib.hid hB1; clear hB1
  have HB2 := Lib.hid hB2; clear hB2
  have HB3 := Lib.hid hB3; clear hB3

  go_wp2_with fail
  refine (aggOf_ok A3 c3 N L HNL.out y0 wd HL.out sB HP.out.all).mono ?_
  rintro e wx1 ⟨gall, rfl, hall, hb⟩
  have Hall := Lib.hid hall; clear hall
  replace bW : Below w.heap.size w wx1 := bW.trans (hb.mono bW.size)
  replace HL := Lib.hid (Sl.below HL.out hb sB)
  have hsz := hb.size
  clear hb
  go_wp2_with fail
  obtain ⟨V1, hV⟩ : ∃ V, V = wx1.alloc (.cells #[.int .i64 gall.cnt, .int .i64 gall.sum, .int .i64 gall.mn, .int .i64 gall.mx, .int .i64 gall.fst, .int .i64 gall.lst] 49) := ⟨_, rfl⟩
  have hbV : Below wx1.heap.size wx1 V1 := by rw [hV]; exact bal (Below.refl _ _) _
  have Kall := Lib.hid (show Six V1 wx1.heap.size gall by rw [hV]; exact Six.new _ _ _)
  have sall : wx1.heap.size < V1.heap.size := by rw [hV]; simp
  rw [← hV]
  clear hV
  replace bW : Below w.heap.size w V1 := bW.trans (hbV.mono bW.size)
  replace HL := Lib.hid (Sl.below HL.out hbV (Nat.le_trans sB hsz))
  replace sB := Nat.le_trans (Nat.le_trans sB hsz) hbV.size
  clear hbV hsz
  generalize wx1.heap.size = xall at *
  refine (specAggOf_ok A3 c3 N L HNL.out y0 V1 HL.out sB HP.out.all).mono ?_
  rintro e wx2 ⟨gwant, rfl, hwant, hb⟩
  have Hwant := Lib.hid hwant; clear hwant
  replace bW : Below w.heap.size w wx2 := bW.trans (hb.mono bW.size)
  replace HL := Lib.hid (Sl.below HL.out hb sB)
  replace Kall := Lib.hid (Kall.out.below hb sall)
  have hsz := hb.size
  clear hb
  go_wp2_with fail
  obtain ⟨V2, hV⟩ : ∃ V, V = wx2.alloc (.cells #[.int .i64 gwant.cnt, .int .i64 gwant.sum, .int .i64 gwant.mn, .int .i64 gwant.mx, .int .i64 gwant.fst, .int .i64 gwant.lst] 49) := ⟨_, rfl⟩
  have hbV : Below wx2.heap.size wx2 V2 := by rw [hV]; exact bal (Below.refl _ _) _
  have Kwant := Lib.hid (show Six V2 wx2.heap.size gwant by rw [hV]; exact Six.new _ _ _)
  have swant : wx2.heap.size < V2.heap.size := by rw [hV]; simp
  rw [← hV]
  clear hV
  replace bW : Below w.heap.size w V2 := bW.trans (hbV.mono bW.size)
  replace HL := Lib.hid (Sl.below HL.out hbV (Nat.le_trans sB hsz))
  replace Kall := Lib.hid (Kall.out.below hbV (Nat.lt_of_lt_of_le sall hsz))
  replace sall := Nat.lt_of_lt_of_le (Nat.lt_of_lt_of_le sall hsz) hbV.size
  replace sB := Nat.le_trans (Nat.le_trans sB hsz) hbV.size
  clear hbV hsz
  generalize wx2.heap.size = xwant at *
  refine (aggOf_ok B1 c3 i ((L.take i).drop 0) (by simp; rw [HNL.out]; omega) y0 V2 (by rw [← HB1.out]; exact Sl.cut HL.out c3 0 i (by rw [HNL.out]; omega) (by rw [HNL.out]; omega)) sB HP.out.p).mono ?_
  rintro e wx3 ⟨gp, rfl, hp, hb⟩
  have Hp := Lib.hid hp; clear hp
  replace bW : Below w.heap.size w wx3 := bW.trans (hb.mono bW.size)
  replace HL := Lib.hid (Sl.below HL.out hb sB)
  replace Kall := Lib.hid (Kall.out.below hb sall)
  replace Kwant := Lib.hid (Kwant.out.below hb swant)
  have hsz := hb.size
  clear hb
  go_wp2_with fail
  obtain ⟨V3, hV⟩ : ∃ V, V = wx3.alloc (.cells #[.int .i64 gp.cnt, .int .i64 gp.sum, .int .i64 gp.mn, .int .i64 gp.mx, .int .i64 gp.fst, .int .i64 gp.lst] 49) := ⟨_, rfl⟩
  have hbV : Below wx3.heap.size wx3 V3 := by rw [hV]; exact bal (Below.refl _ _) _
  have Kp := Lib.hid (show Six V3 wx3.heap.size gp by rw [hV]; exact Six.new _ _ _)
  have sp : wx3.heap.size < V3.heap.size := by rw [hV]; simp
  rw [← hV]
  clear hV
  replace bW : Below w.heap.size w V3 := bW.trans (hbV.mono bW.size)
  replace HL := Lib.hid (Sl.below HL.out hbV (Nat.le_trans sB hsz))
  replace Kall := Lib.hid (Kall.out.below hbV (Nat.lt_of_lt_of_le sall hsz))
  replace sall := Nat.lt_of_lt_of_le (Nat.lt_of_lt_of_le sall hsz) hbV.size
  replace Kwant := Lib.hid (Kwant.out.below hbV (Nat.lt_of_lt_of_le swant hsz))
  replace swant := Nat.lt_of_lt_of_le (Nat.lt_of_lt_of_le swant hsz) hbV.size
  replace sB := Nat.le_trans (Nat.le_trans sB hsz) hbV.size
  clear hbV hsz
  generalize wx3.heap.size = xp at *
  refine (aggOf_ok B2 (c3 - i) k ((L.take (i + k)).drop i) (by simp; rw [HNL.out]; omega) y0 V3 (by rw [← HB2.out]; exact Sl.cut HL.out c3 i (i + k) (by rw [HNL.out]; omega) (by rw [HNL.out]; omega)) sB HP.out.q).mono ?_
  rintro e wx4 ⟨gq, rfl, hq, hb⟩
  have Hq := Lib.hid hq; clear hq
  replace bW : Below w.heap.size w wx4 := bW.trans (hb.mono bW.size)
  replace HL := Lib.hid (Sl.below HL.out hb sB)
  replace Kall := Lib.hid (Kall.out.below hb sall)
  replace Kwant := Lib.hid (Kwant.out.below hb swant)
  replace Kp := Lib.hid (Kp.out.below hb sp)
  have hsz := hb.size
  clear hb
  go_wp2_with fail
  obtain ⟨V4, hV⟩ : ∃ V, V = wx4.alloc (.cells #[.int .i64 gq.cnt, .int .i64 gq.sum, .int .i64 gq.mn, .int .i64 gq.mx, .int .i64 gq.fst, .int .i64 gq.lst] 49) := ⟨_, rfl⟩
  have hbV : Below wx4.heap.size wx4 V4 := by rw [hV]; exact bal (Below.refl _ _) _
  have Kq := Lib.hid (show Six V4 wx4.heap.size gq by rw [hV]; exact Six.new _ _ _)
  have sq : wx4.heap.size < V4.heap.size := by rw [hV]; simp
  rw [← hV]
  clear hV
  replace bW : Below w.heap.size w V4 := bW.trans (hbV.mono bW.size)
  replace HL := Lib.hid (Sl.below HL.out hbV (Nat.le_trans sB hsz))
  replace Kall := Lib.hid (Kall.out.below hbV (Nat.lt_of_lt_of_le sall hsz))
  replace sall := Nat.lt_of_lt_of_le (Nat.lt_of_lt_of_le sall hsz) hbV.size
  replace Kwant := Lib.hid (Kwant.out.below hbV (Nat.lt_of_lt_of_le swant hsz))
  replace swant := Nat.lt_of_lt_of_le (Nat.lt_of_lt_of_le swant hsz) hbV.size
  replace Kp := Lib.hid (Kp.out.below hbV (Nat.lt_of_lt_of_le sp hsz))
  replace sp := Nat.lt_of_lt_of_le (Nat.lt_of_lt_of_le sp hsz) hbV.size
  replace sB := Nat.le_trans (Nat.le_trans sB hsz) hbV.size
  clear hbV hsz
  generalize wx4.heap.size = xq at *
  refine (aggOf_ok B3 (c3 - (i + k)) M ((L.take L.length).drop (i + k)) (by simp; rw [HNL.out]; exact HM.out.symm) y0 V4 (by rw [← HB3.out]; exact Sl.cut HL.out c3 (i + k) L.length (Nat.le_refl _) (by rw [HNL.out]; omega)) sB HP.out.r).mono ?_
  rintro e wx5 ⟨gr, rfl, hr, hb⟩
  have Hr := Lib.hid hr; clear hr
  replace bW : Below w.heap.size w wx5 := bW.trans (hb.mono bW.size)
  replace HL := Lib.hid (Sl.below HL.out hb sB)
  replace Kall := Lib.hid (Kall.out.below hb sall)
  replace Kwant := Lib.hid (Kwant.out.below hb swant)
  replace Kp := Lib.hid (Kp.out.below hb sp)
  replace Kq := Lib.hid (Kq.out.below hb sq)
  have hsz := hb.size
  clear hb
  obtain ⟨p0, p1, p2, p3, p4, p5⟩ := Kp.out
  have lp := Nat.lt_of_lt_of_le sp hsz
  obtain ⟨q0, q1, q2, q3, q4, q5⟩ := Kq.out
  have lq := Nat.lt_of_lt_of_le sq hsz
  go_wp2_with fail
  clear p0 p1 p2 p3 p4 p5 lp
  clear q0 q1 q2 q3 q4 q5 lq
  obtain ⟨V5, hV⟩ : ∃ V, V = wx5.alloc (.cells #[.int .i64 gr.cnt, .int .i64 gr.sum, .int .i64 gr.mn, .int .i64 gr.mx, .int .i64 gr.fst, .int .i64 gr.lst] 49) := ⟨_, rfl⟩
  have hbV : Below wx5.heap.size wx5 V5 := by rw [hV]; exact bal (Below.refl _ _) _
  have Kr := Lib.hid (show Six V5 wx5.heap.size gr by rw [hV]; exact Six.new _ _ _)
  have sr : wx5.heap.size < V5.heap.size := by rw [hV]; simp
  rw [← hV]
  clear hV
  replace bW : Below w.heap.size w V5 := bW.trans (hbV.mono bW.size)
  replace HL := Lib.hid (Sl.below HL.out hbV (Nat.le_trans sB hsz))
  replace Kall := Lib.hid (Kall.out.below hbV (Nat.lt_of_lt_of_le sall hsz))
  replace sall := Nat.lt_of_lt_of_le (Nat.lt_of_lt_of_le sall hsz) hbV.size
  replace Kwant := Lib.hid (Kwant.out.below hbV (Nat.lt_of_lt_of_le swant hsz))
  replace swant := Nat.lt_of_lt_of_le (Nat.lt_of_lt_of_le swant hsz) hbV.size
  replace Kp := Lib.hid (Kp.out.below hbV (Nat.lt_of_lt_of_le sp hsz))
  replace sp := Nat.lt_of_lt_of_le (Nat.lt_of_lt_of_le sp hsz) hbV.size
  replace Kq := Lib.hid (Kq.out.below hbV (Nat.lt_of_lt_of_le sq hsz))
  replace sq := Nat.lt_of_lt_of_le (Nat.lt_of_lt_of_le sq hsz) hbV.size
  replace sB := Nat.le_trans (Nat.le_trans sB hsz) hbV.size
  clear hbV hsz
  generalize wx5.heap.size = xr at *
  refine (mergeAgg_ok gp gq (by rw [Hp.out]; exact HP.out.ap) (by rw [Hq.out]; exact HP.out.aq) (by simp only [Hp.out, Hq.out, gOf_cnt]; simp; have := HP.out.len; omega) V5).mono ?_
  rintro e wx6 ⟨gx, rfl, hx, hb⟩
  have Hx := Lib.hid hx; clear hx
  replace bW : Below w.heap.size w wx6 := bW.trans (hb.mono bW.size)
  replace HL := Lib.hid (Sl.below HL.out hb sB)
  replace Kall := Lib.hid (Kall.out.below hb sall)
  replace Kwant := Lib.hid (Kwant.out.below hb swant)
  replace Kp := Lib.hid (Kp.out.below hb sp)
  replace Kq := Lib.hid (Kq.out.below hb sq)
  replace Kr := Lib.hid (Kr.out.below hb sr)
  have hsz := hb.size
  clear hb
  obtain ⟨r0, r1, r2, r3, r4, r5⟩ := Kr.out
  have lr := Nat.lt_of_lt_of_le sr hsz
  go_wp2_with fail
  clear r0 r1 r2 r3 r4 r5 lr
  obtain ⟨V6, hV⟩ : ∃ V, V = wx6.alloc (.cells #[.int .i64 gx.cnt, .int .i64 gx.sum, .int .i64 gx.mn, .int .i64 gx.mx, .int .i64 gx.fst, .int .i64 gx.lst] 49) := ⟨_, rfl⟩
  have hbV : Below wx6.heap.size wx6 V6 := by rw [hV]; exact bal (Below.refl _ _) _
  have Kx := Lib.hid (show Six V6 wx6.heap.size gx by rw [hV]; exact Six.new _ _ _)
  have sx : wx6.heap.size < V6.heap.size := by rw [hV]; simp
  rw [← hV]
  clear hV
  replace bW : Below w.heap.size w V6 := bW.trans (hbV.mono bW.size)
  replace HL := Lib.hid (Sl.below HL.out hbV (Nat.le_trans sB hsz))
  replace Kall := Lib.hid (Kall.out.below hbV (Nat.lt_of_lt_of_le sall hsz))
  replace sall := Nat.lt_of_lt_of_le (Nat.lt_of_lt_of_le sall hsz) hbV.size
  replace Kwant := Lib.hid (Kwant.out.below hbV (Nat.lt_of_lt_of_le swant hsz))
  replace swant := Nat.lt_of_lt_of_le (Nat.lt_of_lt_of_le swant hsz) hbV.size
  replace Kp := Lib.hid (Kp.out.below hbV (Nat.lt_of_lt_of_le sp hsz))
  replace sp := Nat.lt_of_lt_of_le (Nat.lt_of_lt_of_le sp hsz) hbV.size
  replace Kq := Lib.hid (Kq.out.below hbV (Nat.lt_of_lt_of_le sq hsz))
  replace sq := Nat.lt_of_lt_of_le (Nat.lt_of_lt_of_le sq hsz) hbV.size
  replace Kr := Lib.hid (Kr.out.below hbV (Nat.lt_of_lt_of_le sr hsz))
  replace sr := Nat.lt_of_lt_of_le (Nat.lt_of_lt_of_le sr hsz) hbV.size
  replace sB := Nat.le_trans (Nat.le_trans sB hsz) hbV.size
  clear hbV hsz
  generalize wx6.heap.size = xx at *
  refine (mergeAgg_ok gx gr (by rw [Hx.out, Hp.out, Hq.out]; exact HP.out.ax) (by rw [Hr.out]; exact HP.out.ar) (by simp only [Hx.out, gMerge_cnt, Hp.out, Hq.out, Hr.out, gOf_cnt]; simp; have := HP.out.len; omega) V6).mono ?_
  rintro e wx7 ⟨gy, rfl, hy, hb⟩
  have Hy := Lib.hid hy; clear hy
  replace bW : Below w.heap.size w wx7 := bW.trans (hb.mono bW.size)
  replace HL := Lib.hid (Sl.below HL.out hb sB)
  replace Kall := Lib.hid (Kall.out.below hb sall)
  replace Kwant := Lib.hid (Kwant.out.below hb swant)
  replace Kp := Lib.hid (Kp.out.below hb sp)
  replace Kq := Lib.hid (Kq.out.below hb sq)
  replace Kr := Lib.hid (Kr.out.below hb sr)
  replace Kx := Lib.hid (Kx.out.below hb sx)
  have hsz := hb.size
  clear hb
  obtain ⟨q0, q1, q2, q3, q4, q5⟩ := Kq.out
  have lq := Nat.lt_of_lt_of_le sq hsz
  obtain ⟨r0, r1, r2, r3, r4, r5⟩ := Kr.out
  have lr := Nat.lt_of_lt_of_le sr hsz
  go_wp2_with fail
  clear q0 q1 q2 q3 q4 q5 lq
  clear r0 r1 r2 r3 r4 r5 lr
  obtain ⟨V7, hV⟩ : ∃ V, V = wx7.alloc (.cells #[.int .i64 gy.cnt, .int .i64 gy.sum, .int .i64 gy.mn, .int .i64 gy.mx, .int .i64 gy.fst, .int .i64 gy.lst] 49) := ⟨_, rfl⟩
  have hbV : Below wx7.heap.size wx7 V7 := by rw [hV]; exact bal (Below.refl _ _) _
  have Ky := Lib.hid (show Six V7 wx7.heap.size gy by rw [hV]; exact Six.new _ _ _)
  have sy : wx7.heap.size < V7.heap.size := by rw [hV]; simp
  rw [← hV]
  clear hV
  replace bW : Below w.heap.size w V7 := bW.trans (hbV.mono bW.size)
  replace HL := Lib.hid (Sl.below HL.out hbV (Nat.le_trans sB hsz))
  replace Kall := Lib.hid (Kall.out.below hbV (Nat.lt_of_lt_of_le sall hsz))
  replace sall := Nat.lt_of_lt_of_le (Nat.lt_of_lt_of_le sall hsz) hbV.size
  replace Kwant := Lib.hid (Kwant.out.below hbV (Nat.lt_of_lt_of_le swant hsz))
  replace swant := Nat.lt_of_lt_of_le (Nat.lt_of_lt_of_le swant hsz) hbV.size
  replace Kp := Lib.hid (Kp.out.below hbV (Nat.lt_of_lt_of_le sp hsz))
  replace sp := Nat.lt_of_lt_of_le (Nat.lt_of_lt_of_le sp hsz) hbV.size
  replace Kq := Lib.hid (Kq.out.below hbV (Nat.lt_of_lt_of_le sq hsz))
  replace sq := Nat.lt_of_lt_of_le (Nat.lt_of_lt_of_le sq hsz) hbV.size
  replace Kr := Lib.hid (Kr.out.below hbV (Nat.lt_of_lt_of_le sr hsz))
  replace sr := Nat.lt_of_lt_of_le (Nat.lt_of_lt_of_le sr hsz) hbV.size
  replace Kx := Lib.hid (Kx.out.below hbV (Nat.lt_of_lt_of_le sx hsz))
  replace sx := Nat.lt_of_lt_of_le (Nat.lt_of_lt_of_le sx hsz) hbV.size
  replace sB := Nat.le_trans (Nat.le_trans sB hsz) hbV.size
  clear hbV hsz
  generalize wx7.heap.size = xy at *
  refine (mergeAgg_ok gq gr (by rw [Hq.out]; exact HP.out.aq) (by rw [Hr.out]; exact HP.out.ar) (by simp only [Hq.out, Hr.out, gOf_cnt]; simp; have := HP.out.len; omega) V7).mono ?_
  rintro e wx8 ⟨gz, rfl, hz, hb⟩
  have Hz := Lib.hid hz; clear hz
  replace bW : Below w.heap.size w wx8 := bW.trans (hb.mono bW.size)
  replace HL := Lib.hid (Sl.below HL.out hb sB)
  replace Kall := Lib.hid (Kall.out.below hb sall)
  replace Kwant := Lib.hid (Kwant.out.below hb swant)
  replace Kp := Lib.hid (Kp.out.below hb sp)
  replace Kq := Lib.hid (Kq.out.below hb sq)
  replace Kr := Lib.hid (Kr.out.below hb sr)
  replace Kx := Lib.hid (Kx.out.below hb sx)
  replace Ky := Lib.hid (Ky.out.below hb sy)
  have hsz := hb.size
  clear hb
  obtain ⟨p0, p1, p2, p3, p4, p5⟩ := Kp.out
  have lp := Nat.lt_of_lt_of_le sp hsz
  go_wp2_with fail
  clear p0 p1 p2 p3 p4 p5 lp
  obtain ⟨V8, hV⟩ : ∃ V, V = wx8.alloc (.cells #[.int .i64 gz.cnt, .int .i64 gz.sum, .int .i64 gz.mn, .int .i64 gz.mx, .int .i64 gz.fst, .int .i64 gz.lst] 49) := ⟨_, rfl⟩
  have hbV : Below wx8.heap.size wx8 V8 := by rw [hV]; exact bal (Below.refl _ _) _
  have Kz := Lib.hid (show Six V8 wx8.heap.size gz by rw [hV]; exact Six.new _ _ _)
  have sz : wx8.heap.size < V8.heap.size := by rw [hV]; simp
  rw [← hV]
  clear hV
  replace bW : Below w.heap.size w V8 := bW.trans (hbV.mono bW.size)
  replace HL := Lib.hid (Sl.below HL.out hbV (Nat.le_trans sB hsz))
  replace Kall := Lib.hid (Kall.out.below hbV (Nat.lt_of_lt_of_le sall hsz))
  replace sall := Nat.lt_of_lt_of_le (Nat.lt_of_lt_of_le sall hsz) hbV.size
  replace Kwant := Lib.hid (Kwant.out.below hbV (Nat.lt_of_lt_of_le swant hsz))
  replace swant := Nat.lt_of_lt_of_le (Nat.lt_of_lt_of_le swant hsz) hbV.size
  replace Kp := Lib.hid (Kp.out.below hbV (Nat.lt_of_lt_of_le sp hsz))
  replace sp := Nat.lt_of_lt_of_le (Nat.lt_of_lt_of_le sp hsz) hbV.size
  replace Kq := Lib.hid (Kq.out.below hbV (Nat.lt_of_lt_of_le sq hsz))
  replace sq := Nat.lt_of_lt_of_le (Nat.lt_of_lt_of_le sq hsz) hbV.size
  replace Kr := Lib.hid (Kr.out.below hbV (Nat.lt_of_lt_of_le sr hsz))
  replace sr := Nat.lt_of_lt_of_le (Nat.lt_of_lt_of_le sr hsz) hbV.size
  replace Kx := Lib.hid (Kx.out.below hbV (Nat.lt_of_lt_of_le sx hsz))
  replace sx := Nat.lt_of_lt_of_le (Nat.lt_of_lt_of_le sx hsz) hbV.size
  replace Ky := Lib.hid (Ky.out.below hbV (Nat.lt_of_lt_of_le sy hsz))
  replace sy := Nat.lt_of_lt_of_le (Nat.lt_of_lt_of_le sy hsz) hbV.size
  replace sB := Nat.le_trans (Nat.le_trans sB hsz) hbV.size
  clear hbV hsz
  generalize wx8.heap.size = xz at *
  refine (mergeAgg_ok gp gz (by rw [Hp.out]; exact HP.out.ap) (by rw [Hz.out, Hq.out, Hr.out]; exact HP.out.az) (by simp only [Hz.out, gMerge_cnt, Hp.out, Hq.out, Hr.out, gOf_cnt]; simp; have := HP.out.len; omega) V8).mono ?_
  rintro e wu ⟨gu, rfl, hu, hb⟩
  have e1 : gwant = gall := by rw [Hwant.out, Hall.out]
  have e2 : gy = gall := by rw [Hy.out, Hx.out, Hp.out, Hq.out, Hr.out, Hall.out]; exact HP.out.whole
  have e3 : gu = gall := by rw [hu, Hz.out, Hp.out, Hq.out, Hr.out, Hall.out]; exact HP.out.whole'
  have ec : gall.cnt = (N : Int) := by rw [Hall.out, gOf_cnt, HNL.out]
  have HA := Lib.hid (show AggP gall by rw [Hall.out]; exact HP.out.aa)
  have dc : (gall.cnt == (N : Int)) = true := by rw [ec]; simp
  clear hu ec
  subst e1 e2 e3
  replace bW : Below w.heap.size w wu := bW.trans (hb.mono bW.size)
  replace HL := Lib.hid (Sl.below HL.out hb sB)
  obtain ⟨a0, a1, a2, a3, a4, a5⟩ := Kall.out.below hb sall
  obtain ⟨b0, b1, b2, b3, b4, b5⟩ := Kwant.out.below hb swant
  obtain ⟨f0, f1, f2, f3, f4, f5⟩ := Ky.out.below hb sy
  have hsz := hb.size
  have lall := Nat.lt_of_lt_of_le sall hsz
  have lwant := Nat.lt_of_lt_of_le swant hsz
  have ly := Nat.lt_of_lt_of_le sy hsz
  replace sB := Nat.le_trans sB hsz
  clear hb hsz Kall Kwant Kp Kq Kr Kx Ky Kz Hall Hwant Hp Hq Hr Hx Hy Hz cut1 cut2 cut3
  go_wp2_with fail
  refine (aggOK_yes _ HA.out _).mono ?_
  rintro e wv ⟨rfl, hbv⟩
  have hbV : Below wu.heap.size wu wv := (bal (Below.refl _ wu) _).trans (hbv.mono (by simp))
  replace bW : Below w.heap.size w wv := bW.trans (hbV.mono bW.size)
  replace HL := Lib.hid (Sl.below HL.out hbV sB)
  replace sB := Nat.le_trans sB hbV.size
  clear hbv hbV a0 a1 a2 a3 a4 a5 b0 b1 b2 b3 b4 b5 f0 f1 f2 f3 f4 f5 lall lwant ly
  go_wp2_with fail
  refine (samplesOK_ok A3 c3 N L HNL.out y0 wv HL.out sB HP.out.all).mono ?_
  rintro e wz ⟨rfl, hbz⟩
  replace bW : Below w.heap.size w wz := bW.trans (hbz.mono bW.size)
  clear hbz
  go_wp2
  go_ret
  exact ⟨rfl, bW⟩

section

variable {H : Type} {enc : TypeId × Value → H} {base : Nat} {spare : Nat → Bool} {held : Bool}

theorem open_byte' {P : Program} {w : World} {e : TypeId} {n : Nat} {cs : List Value} {y : DataW H × List MemPlace} (he : P.underlying e = some (.int .u8)) (hl : cs.length = 1) (h : DataW.trod enc P w base spare held n e cs = some y) : ∃ x : Int, cs = byteV x ∧ (0 ≤ x ∧ x ≤ 255) := by
  match cs, hl with
  | [a], _ =>
    obtain ⟨z, e0, _, l0⟩ := DataW.trod_int he h
    simp at e0
    subst e0
    simp only [Lit.wf, Bool.and_eq_true, decide_eq_true_eq] at l0
    exact ⟨z, rfl, l0⟩

theorem open_bytes' {P : Program} {t e : TypeId} {W : World} {r : Reach} {b0 : Nat} {v : Value} {d : DataW H} {p : List MemPlace} (hs : P.underlying t = some (.slice e)) (he : P.underlying e = some (.int .u8)) (hce : P.cellsOf e = 1)
    (hv : Value.okWide P W r b0 t v) (h : DataW.Trod enc P W base spare held t v d p) :
    ∃ (A : Option Addr) (c : Nat) (xs : List Int), v = .slice A xs.length c ∧ BytesAt W W.heap.size A xs ∧ (∀ x ∈ xs, 0 ≤ x ∧ x ≤ 255) ∧ xs.length ≤ maxLen := by
  obtain ⟨a0, len, cap, rfl⟩ := okWide_slice hs hv
  obtain ⟨fuel, hf⟩ := h
  obtain ⟨A, c, xs, e1, e2, e3, e4⟩ := open_sl byteV 1 (fun x => 0 ≤ x ∧ x ≤ 255) hs hce (by omega) (fun n cs y hc hy => open_byte' he hc hy) (by simpa [Value.cells] using hf)
  exact ⟨A, c, xs, e1, e2, e3, e4⟩

theorem cellsU8 : Try.prog.cellsOf 5 = 1 := by kernel_rfl

set_option maxRecDepth 100000 in
theorem open_bytes {W : World} {r : Reach} {b0 : Nat} {v : Value} {d : DataW H} {p : List MemPlace} (hv : Value.okWide Try.prog W r b0 22 v) (h : DataW.Trod enc Try.prog W base spare held 22 v d p) :
    ∃ (A : Option Addr) (c : Nat) (xs : List Int), v = .slice A xs.length c ∧ BytesAt W W.heap.size A xs ∧ (∀ x ∈ xs, 0 ≤ x ∧ x ≤ 255) ∧ xs.length ≤ maxLen :=
  open_bytes' Try.underlying22 Try.underlying5 cellsU8 hv h

end

theorem own : ownKnob Try.prog.godebug = none := by kernel_rfl
theorem laidOut : laidOutB Try.prog = true := by kernel_rfl

set_option maxRecDepth 100000 in
theorem lifted (os : Os) (started : os.Started) (H : Type) (enc : TypeId × Value → H) :
    ReturnsInHanded {} Try.checked os 6 .any (Rows.fnAggSpec.pre6 enc Try.prog Try.f6 Rows.fnAggRow.domain false) (Rows.fnAggSpec.post enc Try.prog Try.f6 false true false false) := by
  refine returnsInHanded_of_change (C := Try.checked) own started (by kernel_rfl) Try.func6
    (ChangeSpec.witness6 (enc := enc) (C := Try.checked) false ⟨#[], #[.slice none 0 0, .slice none 0 0], []⟩ 8 (by kernel_rfl) (by kernel_rfl) (by kernel_rfl) (by kernel_rfl)) ?_
  intro W base args ds gs before hval0 hW hcnd _
  have hval : ∀ (j : Nat) t v, Try.f6.params[j]? = some t → args[j]? = some v → Value.okWide Try.prog W .any base t v := hval0
  have hW' := hW
  obtain ⟨p, q, hA0, hV, rfl, hfz, hnd⟩ := hW
  have hA : DataW.TrodAll enc Try.prog W 0 (fun _ => true) true Try.f6.params.toList args.toList ds p := hA0
  rw [Try.params6] at hA hval
  obtain ⟨v0, vs0, d0, ds0, p0, q0, hargs, rfl, rfl, h0, r0⟩ := trodAll_cons hA
  obtain ⟨v1, vs1, d1, ds1, p1, q1, rfl, rfl, rfl, h1, r1⟩ := trodAll_cons r0
  obtain ⟨rfl, rfl, rfl⟩ := trodAll_nil r1
  obtain rfl : args = #[v0, v1] := by cases args; simp_all
  obtain ⟨rfl, rfl⟩ := trodVars_none hV
  have k0 := h0
  have lt0 : ∀ x ∈ p0, x.block < W.heap.size := by obtain ⟨m, hm⟩ := k0; exact DataW.trod_lt m _ _ _ hm
  obtain ⟨A0, c0, xs0, rfl, ob0, ft0, ln0⟩ := open_bytes (hval 0 22 v0 rfl rfl) h0
  have k1 := h1
  have lt1 : ∀ x ∈ p1, x.block < W.heap.size := by obtain ⟨m, hm⟩ := k1; exact DataW.trod_lt m _ _ _ hm
  obtain ⟨A1, c1, xs1, rfl, ob1, ft1, ln1⟩ := open_bytes (hval 1 22 v1 rfl rfl) h1
  clear hA0 hval0
  refine (walk A0 c0 xs0 A1 c1 xs1 W ob0 ft0 ln0 ob1 ft1 ln1).mono fun e W' ⟨he, bel⟩ => ?_
  subst he
  exact ⟨_, rfl, _, _, _, [], _, [], hW', trodAll_mk1 (shut_bool Try.underlying4 _), (trodAll_cons_mk (Below.trod laidOut (by kernel_rfl) (of_decide_eq_true (by kernel_rfl)) k0 bel lt0) (trodAll_cons_mk (Below.trod laidOut (by kernel_rfl) (of_decide_eq_true (by kernel_rfl)) k1 bel lt1) trodAll_mk0)), rfl, bel.frame _, fun h => by cases h⟩

theorem over : Rows.fnAggRow.holds Try.pinned (OpenSpec.ofChange Rows.fnAggSpec) :=
  OpenClaim.holds_of_wide 6 Try.f6 rfl rfl rfl rfl rfl rfl rfl ⟨rfl, rfl, rfl, rfl, rfl⟩ rfl rfl rfl rfl rfl (by kernel_rfl) Try.func6 (by kernel_rfl)
    (of_decide_eq_true (by kernel_rfl)) (by unfold Func.isWrapper; first | (rw [if_pos (by decide +kernel)]; kernel_rfl) | (rw [if_neg (by decide +kernel)]; exact ⟨rfl, rfl⟩))
    (fun os started H enc _ => lifted os started H enc)

theorem proved : Rows.FnAggSaid := over
#print axioms proved
end Go.Proofs.Ythcnlgjklbodjaa.fnAgg
