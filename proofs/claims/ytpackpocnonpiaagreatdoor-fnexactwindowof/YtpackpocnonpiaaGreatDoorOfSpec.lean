/-
  Contracts of the models l02Of and AggOf: the aggregate of samples, and the code. Conditions: values in their bounds (l02Of); none beside a length's own bound (AggOf).
-/
import Derived.Test.YtpackpocnonpiaaGreatDoorAggOf
namespace Go.Proofs.YtpackpocnonpiaaGreatDoor
open Go.ChangeShapes Go.WideShapes Go.ChangeAt Go.RowKit
set_option linter.unusedVariables false

/-- so many, and a sum that they can make -/
def Part (acc : GAgg) (k : Nat) : Prop := acc.cnt = k ∧ -((k : Int) * 1000000) ≤ acc.sum ∧ acc.sum ≤ (k : Int) * 1000000

theorem Part.step {acc : GAgg} {k : Nat} (h : Part acc k) {s : GSam} (h1 : -1000000 ≤ s.v) (h2 : s.v ≤ 1000000) : Part (gMerge acc (one s)) (k + 1) := by
  obtain ⟨a, b, c⟩ := h
  refine ⟨by rw [gMerge_cnt, a]; simp [one], ?_⟩
  by_cases h0 : acc.cnt = 0
  · have e : gMerge acc (one s) = one s := by simp [gMerge, h0]
    rw [e]
    simp only [one]
    omega
  · have e : (gMerge acc (one s)).sum = acc.sum + s.v := by simp [gMerge, h0, one]
    rw [e]
    omega

theorem Part.small {acc : GAgg} {k : Nat} (h : Part acc k) (hk : k ≤ 1048576) : acc.small := by
  obtain ⟨a, b, c⟩ := h
  unfold GAgg.small
  omega

theorem one_small {s : GSam} (h1 : -1000000 ≤ s.v) (h2 : s.v ≤ 1000000) : (one s).small := by
  unfold GAgg.small one
  dsimp only
  omega

set_option maxRecDepth 100000 in
theorem l02Of_any (A : Option Addr) (c : Nat) (xs : List GSam) (B : Nat) (w : World) (h : SamsAt w B A xs) (hB : B ≤ w.heap.size) (hl : xs.length ≤ 1048576) (hv : ∀ s ∈ xs, -1000000 ≤ s.v ∧ s.v ≤ 1000000) :
    Calls Tryz.prog 82 #[.slice A xs.length c] w fun e w' => e = .returned (.agg #[.int .i64 (gOf xs).cnt, .int .i64 (gOf xs).sum, .int .i64 (gOf xs).mn, .int .i64 (gOf xs).mx, .int .i64 (gOf xs).fst, .int .i64 (gOf xs).lst]) ∧ Below w.heap.size w w' := by
  have H := Lib.hid h; clear h
  have Hv := Lib.hid hv; clear hv
  go_enter Tryz.func82, Tryz.ntmps82
  go_wp2_with fail
  obtain ⟨W, hW⟩ : ∃ W, W = (w.alloc (.cells #[.int .i64 0, .int .i64 0, .int .i64 0, .int .i64 0, .int .i64 0, .int .i64 0] 26)).alloc (.cells #[.int .i64 0, .int .i64 0, .int .i64 0, .int .i64 0, .int .i64 0, .int .i64 0] 26) := ⟨_, rfl⟩
  have t0 : Six W w.heap.size zAgg ∧ Free W (some ⟨w.heap.size, 0, none⟩) := by
    rw [hW]
    exact ⟨(Six.new w zAgg _).alloc (by simp) _, (free_alloc w _ _ 0).below (bal (Below.refl _ _) _) (fun b e => by simp [blk] at e; subst e; simp)⟩
  have t1 : Six W (w.heap.size + 1) zAgg ∧ Free W (some ⟨w.heap.size + 1, 0, none⟩) := by
    rw [hW]
    have := Six.new (w.alloc (.cells #[.int .i64 0, .int .i64 0, .int .i64 0, .int .i64 0, .int .i64 0, .int .i64 0] 26)) zAgg 26
    have g := free_alloc (w.alloc (.cells #[.int .i64 0, .int .i64 0, .int .i64 0, .int .i64 0, .int .i64 0, .int .i64 0] 26)) #[.int .i64 0, .int .i64 0, .int .i64 0, .int .i64 0, .int .i64 0, .int .i64 0] 26 0
    exact ⟨by simpa [zAgg] using this, by simpa using g⟩
  have b0 : Below w.heap.size w W := by rw [hW]; exact bal (bal (Below.refl _ _) _) _
  have s0 : w.heap.size + 1 < W.heap.size := by rw [hW]; simp
  rw [← hW]
  clear hW
  have T0 := Lib.hid t0; clear t0
  have T1 := Lib.hid t1; clear t1
  generalize hx0 : w.heap.size = x0 at *
  have Hx0 := Lib.hid hx0; clear hx0
  go_loopw [4] (fun i wr => ∃ (k : Nat) (acc : GAgg), k ≤ xs.length ∧ i = .int .i64 k ∧ Hid (acc = ((xs.take k).map one).foldl gMerge zAgg) ∧ Hid (Part acc k) ∧ Hid (Six wr (x0 + 1) acc ∧ Free wr (some ⟨x0 + 1, 0, none⟩)) ∧ Hid (Six wr x0 zAgg ∧ Free wr (some ⟨x0, 0, none⟩)) ∧ Below x0 w wr ∧ x0 + 1 < wr.heap.size) (fun i _ => xs.length - (intOf i).toNat)
  case atStart => exact ⟨0, zAgg, by omega, rfl, Lib.hid (by simp), Lib.hid ⟨rfl, by simp [zAgg], by simp [zAgg]⟩, T1, T0, b0, s0⟩
  case round =>
    clear T0 T1 b0 s0
    obtain ⟨k, acc, hk, rfl, Hm, Ha, Hacc, Hz, hb, hs⟩ := hrel
    by_cases hlt : k < xs.length
    · obtain ⟨b1, o1, rfl, hb1, p0, p1⟩ := SamsAt.sam (Sl.below H.out hb hB) hlt
      obtain ⟨⟨q0, q1, q2, q3, q4, q5⟩, _⟩ := Hacc.out
      have hvk := Hv.out xs[k] (List.getElem_mem hlt)
      have HO := Lib.hid (one_small hvk.1 hvk.2)
      have HP := Lib.hid (Ha.out.step hvk.1 hvk.2)
      have HF := Lib.hid (show gMerge acc (one xs[k]) = ((xs.take (k + 1)).map one).foldl gMerge zAgg by rw [List.take_succ_eq_append_getElem hlt, List.map_append, List.foldl_append, Hm.out]; rfl)
      clear hvk
      go_wp2_with fail
      refine (l02Merge_m acc (one xs[k]) (Ha.out.small (by omega)) HO.out _).mono ?_
      rintro e w2 ⟨m, rfl, hm, hb2⟩
      have hb3 : Below x0 w w2 := hb.trans (hb2.mono (by omega))
      have hs2 : x0 + 1 < w2.heap.size := by have := hb2.size; omega
      have Hacc2 := Lib.hid (And.intro (Hacc.out.1.below hb2 (by omega)) (Hacc.out.2.below hb2 (fun b e => by simp [blk] at e; omega)))
      have Hz2 := Lib.hid (And.intro (Hz.out.1.below hb2 (by omega)) (Hz.out.2.below hb2 (fun b e => by simp [blk] at e; omega)))
      rw [← hm] at HP HF
      clear Hacc Hz p0 p1 q0 q1 q2 q3 q4 q5 hb2 hb hm
      obtain ⟨⟨q0, q1, q2, q3, q4, q5⟩, fz⟩ := Hacc2.out
      have y0 := fz _ rfl 0
      have y1 := fz _ rfl 1
      have y2 := fz _ rfl 2
      have y3 := fz _ rfl 3
      have y4 := fz _ rfl 4
      have y5 := fz _ rfl 5
      clear fz
      go_wp2
      go_roundw
      case rel => exact ⟨k + 1, m, by omega, by go_num, HF, HP, Lib.hid ⟨setAgg_six Hacc2.out.1 m, setAgg_free Hacc2.out.2 _ m⟩, Lib.hid ⟨setAgg_other Hz2.out.1 (by omega) m, setAgg_free Hz2.out.2 _ m⟩, setAgg_below hb3 (by omega) m, by exact (setAgg_size w2 (x0 + 1) m).symm ▸ hs2⟩
      case measure => simp [intOf]; omega
    · obtain rfl : k = xs.length := by omega
      have HG := Lib.hid (show acc = gOf xs by rw [Hm.out, List.take_of_length_le (Nat.le_refl _)]; rfl)
      clear Hm
      obtain ⟨⟨q0, q1, q2, q3, q4, q5⟩, _⟩ := Hacc.out
      obtain ⟨z0, z1, z2, z3, z4, z5⟩ : (wr.cell? ⟨x0, 0, none⟩ = some (.int .i64 0) ∧ wr.cell? ⟨x0, 1, none⟩ = some (.int .i64 0) ∧ wr.cell? ⟨x0, 2, none⟩ = some (.int .i64 0) ∧ wr.cell? ⟨x0, 3, none⟩ = some (.int .i64 0) ∧ wr.cell? ⟨x0, 4, none⟩ = some (.int .i64 0) ∧ wr.cell? ⟨x0, 5, none⟩ = some (.int .i64 0)) := Hz.out.1
      have fz := Hz.out.2
      have y0 := fz _ rfl 0
      have y1 := fz _ rfl 1
      have y2 := fz _ rfl 2
      have y3 := fz _ rfl 3
      have y4 := fz _ rfl 4
      have y5 := fz _ rfl 5
      clear fz
      go_wp2
      refine bodyPost_ret (v := .agg #[.int .i64 acc.cnt, .int .i64 acc.sum, .int .i64 acc.mn, .int .i64 acc.mx, .int .i64 acc.fst, .int .i64 acc.lst]) (by simp [results, Tryz.results82, go_sem, *]) rfl ⟨by rw [HG.out], ?_⟩
      rw [Hx0.out]
      exact setAgg_below hb (Nat.le_refl _) acc

theorem l02Of_m (A : Option Addr) (c : Nat) (xs : List GSam) (B : Nat) (w : World) (h : SamsAt w B A xs) (hB : B ≤ w.heap.size) (hl : xs.length ≤ 1048576) (hv : ∀ s ∈ xs, -1000000 ≤ s.v ∧ s.v ≤ 1000000) :
    Calls Tryz.prog 82 #[.slice A xs.length c] w fun e w' => ∃ r, e = .returned (.agg #[.int .i64 r.cnt, .int .i64 r.sum, .int .i64 r.mn, .int .i64 r.mx, .int .i64 r.fst, .int .i64 r.lst]) ∧ r = gOf xs ∧ Below w.heap.size w w' :=
  (l02Of_any A c xs B w h hB hl hv).mono fun e w' ⟨he, hb⟩ => ⟨_, he, rfl, hb⟩

theorem SamP.vals {xs : List GSam} (h : SamP xs) : ∀ s ∈ xs, -1000000 ≤ s.v ∧ s.v ≤ 1000000 := fun s hs => by
  obtain ⟨i, hi, rfl⟩ := List.mem_iff_getElem.1 hs
  have := samB_iff.1 (h.2 i hi hi).1
  omega

end Go.Proofs.YtpackpocnonpiaaGreatDoor
