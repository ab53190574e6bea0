/-
  Contracts of the model's l04Down and Downsample. Conditions: none beside lengths.
-/
import Derived.Test.YtkpaocejpjhkpaaRollR
import Derived.Test.YtkpaocejpjhkpaaAppG
namespace Go.Proofs.Ytkpaocejpjhkpaa
open Go.ChangeShapes Go.WideShapes Go.ChangeAt Go.RowKit
set_option linter.unusedVariables false
set_option linter.unusedSimpArgs false

theorem samv_one (s : GSam) : ∀ u ∈ GSam.vals s, u.oneCell' = true := by
  intro u hu
  simp [GSam.vals] at hu
  rcases hu with rfl | rfl <;> rfl

theorem new_samv (w : World) (s : GSam) (e : TypeId) : Sl GSam.vals 2 (w.alloc (.cells #[.int .i64 s.t, .int .i64 s.v] e)) (w.heap.size + 1) (some ⟨w.heap.size, 0, none⟩) [s] := by
  intro _
  refine ⟨w.heap.size, 0, rfl, by omega, fun k hk j v hv => ?_⟩
  obtain rfl : k = 0 := by simpa using hk
  rw [World.cell?_alloc_new]
  match j, hv with
  | 0, hv => simpa [GSam.vals] using hv
  | 1, hv => simpa [GSam.vals] using hv
  | j + 2, hv => simp [GSam.vals] at hv

/-- of the first so many, those in the range -/
def pickK (xs : List GSam) (f t : Int) (k : Nat) : List GSam := (xs.take k).filter (inR GSam.t f t)

theorem pickK_in {xs : List GSam} {f t : Int} {k : Nat} (h : k < xs.length) (hi : inR GSam.t f t xs[k] = true) : pickK xs f t (k + 1) = pickK xs f t k ++ [xs[k]] := by
  unfold pickK
  rw [List.take_succ_eq_append_getElem h, List.filter_append, List.filter_cons_of_pos hi, List.filter_nil]

theorem pickK_out {xs : List GSam} {f t : Int} {k : Nat} (h : k < xs.length) (hi : inR GSam.t f t xs[k] = false) : pickK xs f t (k + 1) = pickK xs f t k := by
  unfold pickK
  rw [List.take_succ_eq_append_getElem h, List.filter_append, List.filter_cons_of_neg (by simp [hi]), List.filter_nil, List.append_nil]

theorem pickK_all (xs : List GSam) (f t : Int) : pickK xs f t xs.length = xs.filter (inR GSam.t f t) := by unfold pickK; rw [List.take_length]

set_option maxRecDepth 100000 in
set_option maxHeartbeats 1000000 in
theorem l04Down_any (A : Option Addr) (c : Nat) (xs : List GSam) (f t : Int) (hr : rngB f t = true) (B : Nat) (w : World) (h : SamsAt w B A xs) (hB : B ≤ w.heap.size) (hl : xs.length ≤ 4096) (hv : ∀ s ∈ xs, -1000000 ≤ s.v ∧ s.v ≤ 1000000) :
    Calls Try.prog 31 #[.slice A xs.length c, .int .i64 f, .int .i64 t] w (NewBkts (bktOf f (gOf (xs.filter (inR GSam.t f t)))) w) := by
  have H := Lib.hid h; clear h
  have HV := Lib.hid hv; clear hv
  obtain ⟨r1, r2, r3⟩ := rngB_iff.1 hr
  clear hr
  go_enter Try.func31, Try.ntmps31
  go_wp2_with fail
  have o0 : OwnSl GSam.vals 2 56 w.heap.size (w.alloc (.cells #[] 56)) (.slice (some ⟨w.heap.size, 0, none⟩) 0 0) [] := own_empty _ _ _ w
  have hbw : Below w.heap.size w (w.alloc (.cells #[] 56)) := bal (Below.refl _ _) _
  generalize w.alloc (.cells #[] 56) = w0 at o0 hbw ⊢
  have O0 := Lib.hid o0; clear o0
  go_loopw [7, 8] (fun s i wr => ∃ (k : Nat) (ys : List GSam) (A : Option Addr) (c : Nat), k ≤ xs.length ∧ i = .int .i64 k ∧ s = .slice A ys.length c ∧ ys.length ≤ k ∧ Hid (OwnSl GSam.vals 2 56 w.heap.size wr (.slice A ys.length c) ys) ∧ Hid (ys = pickK xs f t k) ∧ Below w.heap.size w wr) (fun _ i _ => xs.length - (intOf i).toNat)
  case atStart => exact ⟨0, [], _, _, by omega, rfl, rfl, by simp, O0, Lib.hid (by simp [pickK]), hbw⟩
  case round =>
    clear O0 hbw
    obtain ⟨k, ys, A1, c1, hk, rfl, rfl, hyk, HO, HY, hb⟩ := hrel
    by_cases hlt : k < xs.length
    · obtain ⟨b1, o1, rfl, hb1, p0, p1⟩ := SamsAt.sam (Sl.below H.out hb hB) hlt
      have hi : inB xs[k].t f (t - 1) = inR GSam.t f t xs[k] := by
        rw [Bool.eq_iff_iff]; simp only [inB_iff, inR, decide_eq_true_eq]; omega
      have Hi := Lib.hid hi; clear hi
      have wt : wrap64 (t - 1) = t - 1 := by unfold wrap64; omega
      cases hin : inR GSam.t f t xs[k]
      · have HF := Lib.hid (HY.out.trans (pickK_out hlt hin).symm)
        rw [hin] at Hi
        clear hin HY
        go_wp2_with fail
        refine (inL_any _ _ _ _).mono ?_
        rw [Hi.out]
        rintro e w' ⟨rfl, rfl⟩
        go_wp2
        go_roundw
        case rel => exact ⟨k + 1, ys, A1, c1, by omega, by go_num, rfl, by omega, HO, HF, hb⟩
        case measure => simp [intOf]; omega
      · have HF := Lib.hid (show ys ++ [xs[k]] = pickK xs f t (k + 1) by rw [pickK_in hlt hin, ← HY.out])
        rw [hin] at Hi
        clear hin HY
        go_wp2_with fail
        refine (inL_any _ _ _ _).mono ?_
        rw [Hi.out]
        rintro e w' ⟨rfl, rfl⟩
        have hO4 := HO.out.below (bal (Below.refl _ wr) (.cells #[.int .i64 xs[k].t, .int .i64 xs[k].v] 56))
        have HO4 := Lib.hid hO4; clear hO4
        have HN := Lib.hid (new_samv wr xs[k] 56)
        have sz : w.heap.size ≤ wr.heap.size := hb.size
        have Hb4 := Lib.hid (show Below w.heap.size w (wr.alloc (.cells #[.int .i64 xs[k].t, .int .i64 xs[k].v] 56)) from bal hb _)
        clear HO
        go_wp2_with (at_builtin; refine wpList_append_sl GSam.vals 2 16 (fun _ => rfl) samv_one 33 56 _ infoSam rfl (by omega) Try.underlying33 rfl _ _ rfl w.heap.size ys [xs[k]] (.slice A1 ys.length c1) rfl HO4.out (some ⟨wr.heap.size, 0, none⟩) 1 (wr.heap.size + 1) rfl HN.out (by simp [maxLen]; omega) (by simp; omega) (by simp; omega) ?_; intro v' w5 hO5 hg5 _; obtain ⟨zs, hzs⟩ : ∃ zs, zs = ys ++ [xs[k]] := ⟨_, rfl⟩; rw [← hzs] at hO5; have HZS := Lib.hid hzs; clear hzs; obtain ⟨A5, c5, rfl⟩ := hO5.form; have HO5 := Lib.hid hO5; clear hO5; have Hg5 := Lib.hid hg5; clear hg5)
        have hb5 : Below w.heap.size w w5 := Hb4.out.trans (below_of_grown Hg5.out (by simp; omega) (fun g e => (World.ownsRow.lt HO4.out g e).1))
        have hzl : zs.length ≤ k + 1 := by rw [HZS.out]; simp; omega
        go_roundw
        case rel => exact ⟨k + 1, zs, A5, c5, by omega, by go_num, rfl, hzl, HO5, Lib.hid (by rw [HZS.out]; exact HF.out), hb5⟩
        case measure => simp [intOf]; omega
    · obtain rfl : k = xs.length := by omega
      have hy : ys = xs.filter (inR GSam.t f t) := HY.out.trans (pickK_all xs f t)
      have hcnt : (gOf ys).cnt = ys.length := gOf_cnt
      have hvy : ∀ s ∈ ys, -1000000 ≤ s.v ∧ s.v ≤ 1000000 := fun s hs => HV.out s (by rw [hy] at hs; exact (List.mem_filter.1 hs).1)
      have HVY := Lib.hid hvy
      have HYF := Lib.hid hy
      clear hy HY hvy
      have hz := hb.size
      by_cases h0 : ys.length = 0
      · have E := Lib.hid (show bktOf f (gOf ys) = [] by simp [bktOf, hcnt, h0])
        rw [h0]
        clear hcnt
        go_wp2
        go_ret
        rw [← HYF.out, E.out]
        exact ⟨some ⟨wr.heap.size, 0, none⟩, 0, rfl, Sl.nil, free_alloc wr _ _ 0, fun b e => by simp [blk] at e; subst e; exact ⟨by omega, by simp⟩, by simp, bal hb _⟩
      · have E := Lib.hid (show bktOf f (gOf ys) = [⟨f, gOf ys⟩] by
          unfold bktOf
          rw [if_neg (by rw [hcnt]; omega)])
        have d0 : ((ys.length : Int) == 0) = false := by rw [beq_eq_false_iff_ne]; omega
        clear hcnt h0
        obtain ⟨hsl, _, _, _⟩ := OwnSl.sl HO.out (fun x => rfl)
        have HSL := Lib.hid hsl; clear hsl HO
        go_wp2_with fail
        refine (l02Of_m A1 c1 ys wr.heap.size wr HSL.out (Nat.le_refl _) (by omega) HVY.out).mono ?_
        rintro e w2 ⟨r, rfl, hr, hb2⟩
        have HR := Lib.hid hr
        have b2 := bnext hb hb2
        have hz2 := b2.size
        have HN := Lib.hid (new_bkt w2 ⟨f, r⟩ 65)
        have HF := Lib.hid (free_alloc w2 #[.int .i64 f, .int .i64 r.cnt, .int .i64 r.sum, .int .i64 r.mn, .int .i64 r.mx, .int .i64 r.fst, .int .i64 r.lst] 65 0)
        clear hr hb2 hb
        go_wp2
        go_ret
        rw [← HYF.out, E.out, ← HR.out]
        exact ⟨some ⟨w2.heap.size, 0, none⟩, 1, rfl, by simpa using HN.out, HF.out, fun b e => by simp [blk] at e; subst e; exact ⟨by omega, by simp⟩, by simp, bal b2 _⟩

set_option maxRecDepth 100000 in
theorem specDownsample_any (A : Option Addr) (c : Nat) (xs : List GSam) (f t : Int) (B : Nat) (w : World) (h : SamsAt w B A xs) (hB : B ≤ w.heap.size) (hl : xs.length ≤ 1048576) :
    Calls Try.prog 11 #[.slice A xs.length c, .int .i64 f, .int .i64 t] w (BkAns (DownR xs f t) w) := by
  have H := Lib.hid h; clear h
  by_cases hlen : 4096 < xs.length
  · have d0 : decide (4096 < (xs.length : Int)) = true := by simp; omega
    have HR := Lib.hid (show DownR xs f t [] 2 from Or.inl ⟨hlen, rfl, rfl⟩)
    clear H
    go_enter Try.func11, Try.ntmps11
    go_wp2
    refine bodyPost_ret (v := .tuple #[.slice (some ⟨w.heap.size, 0, none⟩) 0 0, .int .i64 2]) (by simp [results, Try.results11, go_sem]) rfl ⟨[], 2, _, _, rfl, HR.out, Sl.nil, free_alloc w _ _ 0, fun b e => by simp [blk] at e; subst e; exact ⟨by omega, by simp⟩, by simp, bal (Below.refl _ _) _⟩
  have d0 : decide (4096 < (xs.length : Int)) = false := by simp; omega
  go_enter Try.func11, Try.ntmps11
  go_wp2_with fail
  refine (specSamplesOK_any A c xs B w H.out hB hl).mono ?_
  rintro e w1 ⟨bb, hb, rfl, hb1⟩
  have hz1 := hb1.size
  cases bb
  · have HR := Lib.hid (show DownR xs f t [] 1 from Or.inr (Or.inl ⟨by omega, (fun h => Bool.noConfusion (hb.2 h)), rfl, rfl⟩))
    clear hb
    go_wp2
    refine bodyPost_ret (v := .tuple #[.slice (some ⟨w1.heap.size, 0, none⟩) 0 0, .int .i64 1]) (by simp [results, Try.results11, go_sem]) rfl ⟨[], 1, _, _, rfl, HR.out, Sl.nil, free_alloc w1 _ _ 0, fun b e => by simp [blk] at e; subst e; exact ⟨by omega, by simp⟩, by simp, bal hb1 _⟩
  have hp : SamP xs := hb.1 rfl
  have HP := Lib.hid hp; clear hp hb
  go_wp2_with fail
  refine (l04Range_any f t _).mono ?_
  rintro e w' ⟨rfl, rfl⟩
  cases hr : rngB f t
  · have HR := Lib.hid (show DownR xs f t [] 4 from Or.inr (Or.inr (Or.inl ⟨HP.out, hr, rfl, rfl⟩)))
    clear hr
    go_wp2
    refine bodyPost_ret (v := .tuple #[.slice (some ⟨w1.heap.size, 0, none⟩) 0 0, .int .i64 4]) (by simp [results, Try.results11, go_sem]) rfl ⟨[], 4, _, _, rfl, HR.out, Sl.nil, free_alloc w1 _ _ 0, fun b e => by simp [blk] at e; subst e; exact ⟨by omega, by simp⟩, by simp, bal hb1 _⟩
  have Hr := Lib.hid hr; clear hr
  go_wp2_with fail
  refine (l04Down_any A c xs f t Hr.out B w1 (Sl.below H.out hb1 hB) (by omega) (by omega) HP.out.vals).mono ?_
  rintro e w2 ⟨A2, c2, rfl, h1, h2, h3, h4, h5⟩
  have HR := Lib.hid (show DownR xs f t (bktOf f (gOf (xs.filter (inR GSam.t f t)))) 0 from Or.inr (Or.inr (Or.inr ⟨HP.out, Hr.out, rfl, rfl⟩)))
  have H1 := Lib.hid h1; have H2 := Lib.hid h2; have H3 := Lib.hid h3; have H5 := Lib.hid h5
  clear h1 h2 h3 h5
  generalize bktOf f (gOf (xs.filter (inR GSam.t f t))) = L at *
  go_wp2
  refine bodyPost_ret (v := .tuple #[.slice A2 L.length c2, .int .i64 0]) (by simp [results, Try.results11, go_sem]) rfl ⟨L, 0, A2, c2, rfl, HR.out, H1.out, H2.out, fun b e => ⟨Nat.le_trans hz1 (H3.out b e).1, (H3.out b e).2⟩, h4, bnext hb1 H5.out⟩

end Go.Proofs.Ytkpaocejpjhkpaa
