/-
  Contract of merge: aggregates put together in order. Conditions: those that are handed to it are right.
-/
import Derived.Test.YtpackpocnonpiaaGreatDoorMergeAll
namespace Go.Proofs.YtpackpocnonpiaaGreatDoor
open Go.ChangeShapes Go.WideShapes Go.ChangeAt Go.RowKit
set_option linter.unusedVariables false

theorem aggP_z : AggP zAgg := Or.inl rfl

theorem then_m (a b : GAgg) (ha : a.small) (hb : b.small) (w : World) : Calls Tryz.prog 201 #[.agg #[.int .i64 a.cnt, .int .i64 a.sum, .int .i64 a.mn, .int .i64 a.mx, .int .i64 a.fst, .int .i64 a.lst], .agg #[.int .i64 b.cnt, .int .i64 b.sum, .int .i64 b.mn, .int .i64 b.mx, .int .i64 b.fst, .int .i64 b.lst]] w fun e w' => ∃ m, e = .returned (.agg #[.int .i64 m.cnt, .int .i64 m.sum, .int .i64 m.mn, .int .i64 m.mx, .int .i64 m.fst, .int .i64 m.lst]) ∧ m = gMerge a b ∧ Below w.heap.size w w' :=
  (then_any a b ha hb w).mono fun e w' ⟨he, hB⟩ => ⟨gMerge a b, he, rfl, hB⟩

theorem l02Merge_m (a b : GAgg) (ha : a.small) (hb : b.small) (w : World) : Calls Tryz.prog 147 #[.agg #[.int .i64 a.cnt, .int .i64 a.sum, .int .i64 a.mn, .int .i64 a.mx, .int .i64 a.fst, .int .i64 a.lst], .agg #[.int .i64 b.cnt, .int .i64 b.sum, .int .i64 b.mn, .int .i64 b.mx, .int .i64 b.fst, .int .i64 b.lst]] w fun e w' => ∃ m, e = .returned (.agg #[.int .i64 m.cnt, .int .i64 m.sum, .int .i64 m.mn, .int .i64 m.mx, .int .i64 m.fst, .int .i64 m.lst]) ∧ m = gMerge a b ∧ Below w.heap.size w w' :=
  (l02Merge_any a b ha hb w).mono fun e w' ⟨he, hB⟩ => ⟨gMerge a b, he, rfl, hB⟩

set_option maxRecDepth 100000 in
theorem merge_any (A : Option Addr) (c : Nat) (xs : List GAgg) (B : Nat) (w : World) (h : AggsAt w B A xs) (hB : B ≤ w.heap.size) (hp : ∀ x ∈ xs, AggP x) (hl : xs.length ≤ 1048576) :
    Calls Tryz.prog 159 #[.slice A xs.length c] w fun e w' => e = .returned (.tuple #[(mergeAll zAgg xs).1.val, .int .i64 (mergeAll zAgg xs).2]) ∧ Below w.heap.size w w' := by
  have H := Lib.hid h; clear h
  have Hp := Lib.hid hp; clear hp
  go_enter Tryz.func159, Tryz.ntmps159
  go_wp2_with fail
  obtain ⟨W, hW⟩ : ∃ W, W = (w.alloc (.cells #[.int .i64 0, .int .i64 0, .int .i64 0, .int .i64 0, .int .i64 0, .int .i64 0] 26)).alloc (.cells #[.int .i64 0, .int .i64 0, .int .i64 0, .int .i64 0, .int .i64 0, .int .i64 0] 26) := ⟨_, rfl⟩
  have t0 : Six W w.heap.size zAgg ∧ Free W (some ⟨w.heap.size, 0, none⟩) := by
    rw [hW]
    exact ⟨(Six.new w zAgg _).alloc (by simp) _, (free_alloc w _ _ 0).below (bal (Below.refl _ _) _) (fun b e => by simp [blk] at e; subst e; simp)⟩
  have t1 : Six W (w.heap.size + 1) zAgg ∧ Free W (some ⟨w.heap.size + 1, 0, none⟩) := by
    rw [hW]
    have := Six.new (w.alloc (.cells #[.int .i64 0, .int .i64 0, .int .i64 0, .int .i64 0, .int .i64 0, .int .i64 0] 26)) zAgg 26
    have g := free_alloc (w.alloc (.cells #[.int .i64 0, .int .i64 0, .int .i64 0, .int .i64 0, .int .i64 0, .int .i64 0] 26)) #[.int .i64 0, .int .i64 0, .int .i64 0, .int .i64 0, .int .i64 0, .int .i64 0] 26 0
    exact ⟨by simpa [zAgg] using this, by simpa using g⟩
  have b0 : Below w.heap.size w W := by rw [hW]; exact bal (bal (Below.refl _ _) _) _
  have s0 : w.heap.size + 1 < W.heap.size := by rw [hW]; simp
  rw [← hW]
  clear hW
  have T0 := Lib.hid t0; clear t0
  have T1 := Lib.hid t1; clear t1
  generalize hx0 : w.heap.size = x0 at *
  have Hx0 := Lib.hid hx0; clear hx0
  go_loopw [9] (fun i wr => ∃ (k : Nat) (acc : GAgg), k ≤ xs.length ∧ i = .int .i64 k ∧ Hid (mergeAll zAgg xs = mergeAll acc (xs.drop k)) ∧ Hid (AggP acc) ∧ Hid (Six wr (x0 + 1) acc ∧ Free wr (some ⟨x0 + 1, 0, none⟩)) ∧ Hid (Six wr x0 zAgg ∧ Free wr (some ⟨x0, 0, none⟩)) ∧ Below x0 w wr ∧ x0 + 1 < wr.heap.size) (fun i _ => xs.length - (intOf i).toNat)
  case atStart => exact ⟨0, zAgg, by omega, rfl, Lib.hid rfl, Lib.hid aggP_z, T1, T0, b0, s0⟩
  case round =>
    clear T0 T1 b0 s0
    obtain ⟨k, acc, hk, rfl, Hm, Ha, Hacc, Hz, hb, hs⟩ := hrel
    by_cases hlt : k < xs.length
    · obtain ⟨b1, o1, rfl, hb1, p0, p1, p2, p3, p4, p5⟩ := AggsAt.agg (Sl.below H.out hb hB) hlt
      obtain ⟨⟨q0, q1, q2, q3, q4, q5⟩, _⟩ := Hacc.out
      go_wp2_with fail
      have hxp : AggP xs[k] := Hp.out _ (List.getElem_mem hlt)
      have Hxp := Lib.hid hxp; clear hxp
      refine (then_m acc xs[k] Ha.out.tiny Hxp.out.tiny _).mono ?_
      rintro e w2 ⟨m, rfl, hm, hb2⟩
      have HM := Lib.hid hm; clear hm
      have hb3 : Below x0 w w2 := (hb.alloc (by omega) _).trans (hb2.mono (by simp; omega))
      have hs2 : x0 + 1 < w2.heap.size := by have := hb2.size; simp at this; omega
      have hcc : Below (x0 + 2) wr w2 := ((Below.refl _ _).alloc (by omega) _).trans (hb2.mono (by simp; omega))
      have Hacc2 := Lib.hid (And.intro (Hacc.out.1.below hcc (by omega)) (Hacc.out.2.below hcc (fun b e => by simp [blk] at e; omega)))
      have Hz2 := Lib.hid (And.intro (Hz.out.1.below hcc (by omega)) (Hz.out.2.below hcc (fun b e => by simp [blk] at e; omega)))
      clear Hacc Hz p0 p1 p2 p3 p4 p5 q0 q1 q2 q3 q4 q5 hb2 hcc hb
      obtain ⟨⟨q0, q1, q2, q3, q4, q5⟩, fz⟩ := Hacc2.out
      have y0 := fz _ rfl 0
      have y1 := fz _ rfl 1
      have y2 := fz _ rfl 2
      have y3 := fz _ rfl 3
      have y4 := fz _ rfl 4
      have y5 := fz _ rfl 5
      have hdr : xs.drop k = xs[k] :: xs.drop (k + 1) := List.drop_eq_getElem_cons hlt
      by_cases hmany : 100000 < m.cnt
      · have hm2 : mergeAll zAgg xs = (zAgg, 6) := by rw [Hm.out, hdr]; simp [mergeAll, ← HM.out, hmany]
        have Hm2 := Lib.hid hm2; clear hm2 hdr Hm
        clear HM
        obtain ⟨z0, z1, z2, z3, z4, z5⟩ : (w2.cell? ⟨x0, 0, none⟩ = some (.int .i64 0) ∧ w2.cell? ⟨x0, 1, none⟩ = some (.int .i64 0) ∧ w2.cell? ⟨x0, 2, none⟩ = some (.int .i64 0) ∧ w2.cell? ⟨x0, 3, none⟩ = some (.int .i64 0) ∧ w2.cell? ⟨x0, 4, none⟩ = some (.int .i64 0) ∧ w2.cell? ⟨x0, 5, none⟩ = some (.int .i64 0)) := Hz2.out.1
        have fx := Hz2.out.2
        have x0' := fx _ rfl 0
        have x1' := fx _ rfl 1
        have x2' := fx _ rfl 2
        have x3' := fx _ rfl 3
        have x4' := fx _ rfl 4
        have x5' := fx _ rfl 5
        clear fx fz
        go_wp2
        refine bodyPost_ret (v := .tuple #[.agg #[.int .i64 0, .int .i64 0, .int .i64 0, .int .i64 0, .int .i64 0, .int .i64 0], .int .i64 6]) (by simp [results, Tryz.results159, go_sem, *]) rfl ⟨by rw [Hm2.out]; rfl, ?_⟩
        rw [Hx0.out]
        exact setAgg_below (setAgg_below hb3 (by omega) m) (Nat.le_refl _) zAgg
      · have hm2 : mergeAll zAgg xs = mergeAll m (xs.drop (k + 1)) := by rw [Hm.out, hdr]; simp [mergeAll, ← HM.out, hmany]
        have Hm2 := Lib.hid hm2; clear hm2 hdr Hm
        have hma : AggP m := by rw [HM.out]; exact Ha.out.merge Hxp.out (by rw [← HM.out]; omega)
        have Hma := Lib.hid hma; clear hma
        clear HM
        go_wp2
        go_roundw
        case rel => exact ⟨k + 1, m, by omega, by go_num, Hm2, Hma, Lib.hid ⟨setAgg_six Hacc2.out.1 m, setAgg_free Hacc2.out.2 _ m⟩, Lib.hid ⟨setAgg_other Hz2.out.1 (by omega) m, setAgg_free Hz2.out.2 _ m⟩, setAgg_below hb3 (by omega) m, by exact (setAgg_size w2 (x0 + 1) m).symm ▸ hs2⟩
        case measure => simp [intOf]; omega
    · obtain rfl : k = xs.length := by omega
      have hm2 : mergeAll zAgg xs = (acc, 0) := by rw [Hm.out, List.drop_length]; rfl
      have Hm2 := Lib.hid hm2; clear hm2 Hm
      obtain ⟨⟨q0, q1, q2, q3, q4, q5⟩, _⟩ := Hacc.out
      obtain ⟨z0, z1, z2, z3, z4, z5⟩ : (wr.cell? ⟨x0, 0, none⟩ = some (.int .i64 0) ∧ wr.cell? ⟨x0, 1, none⟩ = some (.int .i64 0) ∧ wr.cell? ⟨x0, 2, none⟩ = some (.int .i64 0) ∧ wr.cell? ⟨x0, 3, none⟩ = some (.int .i64 0) ∧ wr.cell? ⟨x0, 4, none⟩ = some (.int .i64 0) ∧ wr.cell? ⟨x0, 5, none⟩ = some (.int .i64 0)) := Hz.out.1
      have fz := Hz.out.2
      have y0 := fz _ rfl 0
      have y1 := fz _ rfl 1
      have y2 := fz _ rfl 2
      have y3 := fz _ rfl 3
      have y4 := fz _ rfl 4
      have y5 := fz _ rfl 5
      go_wp2
      refine bodyPost_ret (v := .tuple #[.agg #[.int .i64 acc.cnt, .int .i64 acc.sum, .int .i64 acc.mn, .int .i64 acc.mx, .int .i64 acc.fst, .int .i64 acc.lst], .int .i64 0]) (by simp [results, Tryz.results159, go_sem, *]) rfl ⟨by rw [Hm2.out]; rfl, ?_⟩
      rw [Hx0.out]
      exact setAgg_below hb (Nat.le_refl _) acc

end Go.Proofs.YtpackpocnonpiaaGreatDoor
