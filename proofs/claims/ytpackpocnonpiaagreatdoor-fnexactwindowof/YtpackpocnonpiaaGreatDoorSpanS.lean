/-
  Contracts of the model's l04Range, l04Count, l04Fold, l04Ask and FoldRange. Conditions: none beside lengths.
-/
import Derived.Test.YtpackpocnonpiaaGreatDoorSpanM
import Derived.Test.YtpackpocnonpiaaGreatDoorBktImpl
import Derived.StillTailTactics
namespace Go.Proofs.YtpackpocnonpiaaGreatDoor
open Go.ChangeShapes Go.WideShapes Go.ChangeAt Go.RowKit
set_option linter.unusedVariables false
set_option linter.unusedSimpArgs false

theorem tot_take {xs : List GBkt} {k : Nat} (h : k < xs.length) : tot ((xs.take (k + 1)).map (·.agg)) = tot ((xs.take k).map (·.agg)) + xs[k].agg.cnt := by
  rw [List.take_succ_eq_append_getElem h, List.map_append, tot_append]
  simp [tot]

theorem tot_le {xs : List GBkt} (hp : ∀ x ∈ xs, AggP x.agg) : ∀ k, k ≤ xs.length → 0 ≤ tot ((xs.take k).map (·.agg)) ∧ tot ((xs.take k).map (·.agg)) ≤ k * 100000
  | 0, _ => by simp [tot]
  | k + 1, h => by
    have h1 := tot_le hp k (by omega)
    have h2 := hp xs[k] (List.getElem_mem (by omega))
    have h3 : 0 ≤ xs[k].agg.cnt ∧ xs[k].agg.cnt ≤ 100000 := by
      rcases h2 with h2 | h2
      · rw [h2]; simp [zAgg]
      · omega
    rw [tot_take (by omega)]
    omega

set_option maxRecDepth 100000 in
theorem l04Count_any (A : Option Addr) (c : Nat) (xs : List GBkt) (B : Nat) (w : World) (h : BktsAt w B A xs) (hl : xs.length ≤ 8) (hp : ∀ x ∈ xs, AggP x.agg) :
    Calls Tryz.prog 85 #[.slice A xs.length c] w fun e w' => e = .returned (.int .i64 (tot (xs.map (·.agg)))) ∧ w = w' := by
  have H := Lib.hid h; clear h
  have HB := Lib.hid (tot_le hp); clear hp
  go_enter Tryz.func85, Tryz.ntmps85
  go_wp2_with fail
  go_loopw [3, 4] (fun n i wr => ∃ k : Nat, k ≤ xs.length ∧ n = .int .i64 (tot ((xs.take k).map (·.agg))) ∧ i = .int .i64 k ∧ wr = w) (fun _ i _ => xs.length - (intOf i).toNat)
  case atStart => exact ⟨0, by omega, rfl, rfl, rfl⟩
  case round =>
    obtain ⟨k, hk, rfl, rfl, rfl⟩ := hrel
    by_cases hlt : k < xs.length
    · obtain ⟨b1, o1, rfl, hb1, p0, p1, p2, p3, p4, p5, p6⟩ := BktsAt.bkt H.out hlt
      have h1 := HB.out k (by omega)
      have h2 := HB.out (k + 1) (by omega)
      rw [tot_take hlt] at h2
      have HT := Lib.hid (tot_take hlt)
      generalize tot ((xs.take k).map (·.agg)) = T at *
      go_wp2
      go_roundw
      case rel => exact ⟨k + 1, by omega, by rw [HT.out], by go_num, trivial⟩
      case measure => simp [intOf]; omega
    · obtain rfl : k = xs.length := by omega
      rw [List.take_length]
      go_wp2
      go_ret
      exact ⟨rfl, rfl⟩

/-- a sum of so many aggregates -/
def PartB (acc : GAgg) (k : Nat) : Prop := 0 ≤ acc.cnt ∧ acc.cnt ≤ (k : Int) * 100000 ∧ -((k : Int) * 100000000000) ≤ acc.sum ∧ acc.sum ≤ (k : Int) * 100000000000

theorem aggP_bounds {a : GAgg} (h : AggP a) : 0 ≤ a.cnt ∧ a.cnt ≤ 100000 ∧ -100000000000 ≤ a.sum ∧ a.sum ≤ 100000000000 := by
  rcases h with rfl | ⟨h1, h2, h3, h4, h5, h6, h7, h8, h9, h10, h11, h12⟩
  · decide
  · have m1 := mul_in h1 h2 h3 h4
    have m2 := mul_in h1 h2 h5 h6
    omega

theorem PartB.mono {acc : GAgg} {k : Nat} (h : PartB acc k) : PartB acc (k + 1) := by unfold PartB at *; omega

theorem PartB.step {acc a : GAgg} {k : Nat} (h : PartB acc k) (ha : AggP a) : PartB (gMerge acc a) (k + 1) := by
  have := aggP_bounds ha
  unfold PartB gMerge at *
  split
  · omega
  · split
    · omega
    · dsimp only; omega

theorem PartB.small {acc : GAgg} {k : Nat} (h : PartB acc k) (hk : k ≤ 8) : acc.small := by unfold PartB at h; unfold GAgg.small; omega

/-- the fold of the first so many -/
def foldK (xs : List GBkt) (f t : Int) (k : Nat) : GAgg := (((xs.take k).filter (inR GBkt.beg f t)).map (·.agg)).foldl gMerge zAgg

theorem foldK_in {xs : List GBkt} {f t : Int} {k : Nat} (h : k < xs.length) (hi : inR GBkt.beg f t xs[k] = true) : foldK xs f t (k + 1) = gMerge (foldK xs f t k) xs[k].agg := by
  unfold foldK
  rw [List.take_succ_eq_append_getElem h, List.filter_append, List.filter_cons_of_pos hi, List.filter_nil, List.map_append, List.foldl_append]
  rfl

theorem foldK_out {xs : List GBkt} {f t : Int} {k : Nat} (h : k < xs.length) (hi : inR GBkt.beg f t xs[k] = false) : foldK xs f t (k + 1) = foldK xs f t k := by
  unfold foldK
  rw [List.take_succ_eq_append_getElem h, List.filter_append, List.filter_cons_of_neg (by simp [hi]), List.filter_nil, List.append_nil]

theorem foldK_all (xs : List GBkt) (f t : Int) : foldK xs f t xs.length = foldB xs f t := by unfold foldK foldB; rw [List.take_length]

set_option maxRecDepth 100000 in
theorem l04Fold_any (A : Option Addr) (c : Nat) (xs : List GBkt) (f t : Int) (hr : rngB f t = true) (B : Nat) (w : World) (h : BktsAt w B A xs) (hB : B ≤ w.heap.size) (hl : xs.length ≤ 8) (hp : ∀ x ∈ xs, AggP x.agg) :
    Calls Tryz.prog 84 #[.slice A xs.length c, .int .i64 f, .int .i64 t] w fun e w' => ∃ r, e = .returned (.agg #[.int .i64 r.cnt, .int .i64 r.sum, .int .i64 r.mn, .int .i64 r.mx, .int .i64 r.fst, .int .i64 r.lst]) ∧ r = foldB xs f t ∧ Below w.heap.size w w' := by
  have H := Lib.hid h; clear h
  have HP := Lib.hid hp; clear hp
  obtain ⟨r1, r2, r3⟩ := rngB_iff.1 hr
  clear hr
  go_enter Tryz.func84, Tryz.ntmps84
  go_wp2_with fail
  obtain ⟨W, hW⟩ : ∃ W, W = (w.alloc (.cells #[.int .i64 0, .int .i64 0, .int .i64 0, .int .i64 0, .int .i64 0, .int .i64 0] 26)).alloc (.cells #[.int .i64 0, .int .i64 0, .int .i64 0, .int .i64 0, .int .i64 0, .int .i64 0] 26) := ⟨_, rfl⟩
  have t0 : Six W w.heap.size zAgg ∧ Free W (some ⟨w.heap.size, 0, none⟩) := by
    rw [hW]
    exact ⟨(Six.new w zAgg _).alloc (by simp) _, (free_alloc w _ _ 0).below (bal (Below.refl _ _) _) (fun b e => by simp [blk] at e; subst e; simp)⟩
  have t1 : Six W (w.heap.size + 1) zAgg ∧ Free W (some ⟨w.heap.size + 1, 0, none⟩) := by
    rw [hW]
    have := Six.new (w.alloc (.cells #[.int .i64 0, .int .i64 0, .int .i64 0, .int .i64 0, .int .i64 0, .int .i64 0] 26)) zAgg 26
    have g := free_alloc (w.alloc (.cells #[.int .i64 0, .int .i64 0, .int .i64 0, .int .i64 0, .int .i64 0, .int .i64 0] 26)) #[.int .i64 0, .int .i64 0, .int .i64 0, .int .i64 0, .int .i64 0, .int .i64 0] 26 0
    exact ⟨by simpa [zAgg] using this, by simpa using g⟩
  have b0 : Below w.heap.size w W := by rw [hW]; exact bal (bal (Below.refl _ _) _) _
  have s0 : w.heap.size + 1 < W.heap.size := by rw [hW]; simp
  rw [← hW]
  clear hW
  have T0 := Lib.hid t0; clear t0
  have T1 := Lib.hid t1; clear t1
  generalize hx0 : w.heap.size = x0 at *
  have Hx0 := Lib.hid hx0; clear hx0
  go_loopw [8] (fun i wr => ∃ (k : Nat) (acc : GAgg), k ≤ xs.length ∧ i = .int .i64 k ∧ Hid (acc = foldK xs f t k) ∧ Hid (PartB acc k) ∧ Hid (Six wr (x0 + 1) acc ∧ Free wr (some ⟨x0 + 1, 0, none⟩)) ∧ Hid (Six wr x0 zAgg ∧ Free wr (some ⟨x0, 0, none⟩)) ∧ Below x0 w wr ∧ x0 + 1 < wr.heap.size) (fun i _ => xs.length - (intOf i).toNat)
  case atStart => exact ⟨0, zAgg, by omega, rfl, Lib.hid (by simp [foldK]), Lib.hid (by unfold PartB; simp [zAgg]), T1, T0, b0, s0⟩
  case round =>
    clear T0 T1 b0 s0
    obtain ⟨k, acc, hk, rfl, Hm, Ha, Hacc, Hz, hb, hs⟩ := hrel
    by_cases hlt : k < xs.length
    · obtain ⟨b1, o1, rfl, hb1, p0, p1, p2, p3, p4, p5, p6⟩ := BktsAt.bkt (Sl.below H.out hb hB) hlt
      obtain ⟨⟨q0, q1, q2, q3, q4, q5⟩, _⟩ := Hacc.out
      have HA := Lib.hid (HP.out xs[k] (List.getElem_mem hlt))
      have hi : inB xs[k].beg f (t - 1) = inR GBkt.beg f t xs[k] := by
        rw [Bool.eq_iff_iff]; simp only [inB_iff, inR, decide_eq_true_eq]; omega
      have Hi := Lib.hid hi; clear hi
      have wt : wrap64 (t - 1) = t - 1 := by unfold wrap64; omega
      cases hin : inR GBkt.beg f t xs[k]
      · have HF := Lib.hid ((Hm.out).trans (foldK_out hlt hin).symm)
        have HPn := Lib.hid Ha.out.mono
        rw [hin] at Hi
        clear hin Hm
        go_wp2_with fail
        refine (inL_b _ _ _ false Hi.out _).mono ?_
        rintro e w' ⟨rfl, rfl⟩
        go_wp2
        go_roundw
        case rel => exact ⟨k + 1, acc, by omega, by go_num, HF, HPn, Hacc, Hz, hb, hs⟩
        case measure => simp [intOf]; omega
      · have HF := Lib.hid (show gMerge acc xs[k].agg = foldK xs f t (k + 1) by rw [foldK_in hlt hin, ← Hm.out])
        have HPn := Lib.hid (Ha.out.step HA.out)
        rw [hin] at Hi
        clear hin Hm
        go_wp2_with fail
        refine (inL_b _ _ _ true Hi.out _).mono ?_
        rintro e w' ⟨rfl, rfl⟩
        go_wp2_with fail
        go_still_tail 6, (by kernel_rfl)
        have hb' := hb.drew
        have Hacc' : Hid (Six wr.drew (x0 + 1) acc ∧ Free wr.drew (some ⟨x0 + 1, 0, none⟩)) := Lib.hid Hacc.out
        have Hz' : Hid (Six wr.drew x0 zAgg ∧ Free wr.drew (some ⟨x0, 0, none⟩)) := Lib.hid Hz.out
        have hs' : x0 + 1 < wr.drew.heap.size := hs
        change wpList _ _ _ _ _ wr.drew
        clear Hacc Hz hs hb p0 p1 p2 p3 p4 p5 p6 q0 q1 q2 q3 q4 q5
        generalize wr.drew = w1 at *
        go_wp2_with fail
        refine (l02Merge_m acc xs[k].agg (Ha.out.small (by omega)) HA.out.tiny _).mono ?_
        rintro e w2 ⟨m, rfl, hm, hb2⟩
        have hb3 : Below x0 w w2 := hb'.trans (hb2.mono (by omega))
        have hs2 : x0 + 1 < w2.heap.size := by have := hb2.size; omega
        have Hacc2 := Lib.hid (And.intro (Hacc'.out.1.below hb2 (by omega)) (Hacc'.out.2.below hb2 (fun b e => by simp [blk] at e; omega)))
        have Hz2 := Lib.hid (And.intro (Hz'.out.1.below hb2 (by omega)) (Hz'.out.2.below hb2 (fun b e => by simp [blk] at e; omega)))
        rw [← hm] at HPn HF
        clear Hacc' Hz' hb2 hb' hm
        obtain ⟨⟨q0, q1, q2, q3, q4, q5⟩, fz⟩ := Hacc2.out
        have y0 := fz _ rfl 0
        have y1 := fz _ rfl 1
        have y2 := fz _ rfl 2
        have y3 := fz _ rfl 3
        have y4 := fz _ rfl 4
        have y5 := fz _ rfl 5
        clear fz
        go_wp2
        go_roundw
        case rel => exact ⟨k + 1, m, by omega, by go_num, HF, HPn, Lib.hid ⟨setAgg_six Hacc2.out.1 m, setAgg_free Hacc2.out.2 _ m⟩, Lib.hid ⟨setAgg_other Hz2.out.1 (by omega) m, setAgg_free Hz2.out.2 _ m⟩, setAgg_below hb3 (by omega) m, by exact (setAgg_size w2 (x0 + 1) m).symm ▸ hs2⟩
        case measure => simp [intOf]; omega
    · obtain rfl : k = xs.length := by omega
      have HG := Lib.hid (Hm.out.trans (foldK_all xs f t))
      clear Hm
      obtain ⟨⟨q0, q1, q2, q3, q4, q5⟩, _⟩ := Hacc.out
      obtain ⟨z0, z1, z2, z3, z4, z5⟩ : (wr.cell? ⟨x0, 0, none⟩ = some (.int .i64 0) ∧ wr.cell? ⟨x0, 1, none⟩ = some (.int .i64 0) ∧ wr.cell? ⟨x0, 2, none⟩ = some (.int .i64 0) ∧ wr.cell? ⟨x0, 3, none⟩ = some (.int .i64 0) ∧ wr.cell? ⟨x0, 4, none⟩ = some (.int .i64 0) ∧ wr.cell? ⟨x0, 5, none⟩ = some (.int .i64 0)) := Hz.out.1
      have fz := Hz.out.2
      have y0 := fz _ rfl 0
      have y1 := fz _ rfl 1
      have y2 := fz _ rfl 2
      have y3 := fz _ rfl 3
      have y4 := fz _ rfl 4
      have y5 := fz _ rfl 5
      clear fz
      go_wp2
      refine bodyPost_ret (v := .agg #[.int .i64 acc.cnt, .int .i64 acc.sum, .int .i64 acc.mn, .int .i64 acc.mx, .int .i64 acc.fst, .int .i64 acc.lst]) (by simp [results, Tryz.results84, go_sem, *]) rfl ⟨acc, rfl, HG.out, ?_⟩
      rw [Hx0.out]
      exact setAgg_below hb (Nat.le_refl _) acc

/-- what l04Ask answers -/
def AskR (xs : List GBkt) (f t : Int) (cd : Int) : Prop :=
  (4096 < xs.length ∧ cd = 2) ∨ (xs.length ≤ 4096 ∧ ¬ BktP xs ∧ cd = 1) ∨ (BktP xs ∧ rngB f t = false ∧ cd = 4) ∨
  (BktP xs ∧ rngB f t = true ∧ 100000 < tot (xs.map (·.agg)) ∧ cd = 6) ∨ (BktP xs ∧ rngB f t = true ∧ tot (xs.map (·.agg)) ≤ 100000 ∧ cd = 0)

end Go.Proofs.YtpackpocnonpiaaGreatDoor
