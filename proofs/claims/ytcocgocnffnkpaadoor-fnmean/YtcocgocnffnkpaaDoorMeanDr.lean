/-
  Contracts of the model's drawn aggregates: (*l00Src).agg and AggDrawn: what is drawn is a right aggregate. No conditions beside a code's length.
-/
import Derived.Test.YtcocgocnffnkpaaDoorSrcSam
import Derived.Test.YtcocgocnffnkpaaDoorOfSpec
import Derived.Test.YtcocgocnffnkpaaDoorAggMath
import Derived.Test.YtcocgocnffnkpaaDoorSpecRd
namespace Go.Proofs.YtcocgocnffnkpaaDoor
open Go.ChangeShapes Go.WideShapes Go.ChangeAt Go.RowKit
set_option linter.unusedVariables false

theorem gOf_right {fr F : Int} {xs : List GSam} (h : RiseT fr F xs) (h0 : 0 ≤ fr) (h1 : F ≤ 100000) (hl : (xs.length : Int) ≤ 100) : AggP (gOf xs) :=
  aggP_fold xs zAgg (Or.inl rfl) (fun s hs => by
    obtain ⟨a1, a2, a3, a4⟩ := h.1 s hs
    simp [samB, inB]
    omega) (by simp [zAgg]; omega)

set_option maxRecDepth 100000 in
theorem srcAgg_any (b q : Nat) (w : World) (h : Src w b q) (hb : b < w.heap.size) (hq : q ≤ 1000000) : Calls Tryd.prog 37 #[.pointer (some ⟨b, 0, none⟩)] w fun e w' => ∃ a, e = .returned (.agg #[.int .i64 a.cnt, .int .i64 a.sum, .int .i64 a.mn, .int .i64 a.mx, .int .i64 a.fst, .int .i64 a.lst]) ∧ AggP a ∧ a.cnt ≤ 6 ∧ Src w' b (q + 1000) ∧ w.grownBy w' (some b) := by
  have H := Lib.hid h; clear h
  go_enter Tryd.func37, Tryd.ntmps37
  go_wp2_with fail
  have hZ := ZeroAt.new w 24
  have hbw : Below w.heap.size w (w.alloc (.cells #[.int .i64 0, .int .i64 0, .int .i64 0, .int .i64 0, .int .i64 0, .int .i64 0] 24)) := bal (Below.refl _ _) _
  generalize w.alloc (.cells #[.int .i64 0, .int .i64 0, .int .i64 0, .int .i64 0, .int .i64 0, .int .i64 0] 24) = w0 at *
  have HS0 := Lib.hid (H.out.keep (hbw.mono (by omega)))
  have hz0 : w.heap.size < w0.heap.size := hZ.2.2
  have HZ := Lib.hid hZ
  refine (srcSamples_any 0 6 b q w0 HS0.out (by omega) (by omega) (by omega) (by omega) (by omega) (by omega)).mono ?_
  rintro e w1 ⟨A, c, xs, F, rfl, hO, hR, hlen, hS1, hg1⟩
  have HR := Lib.hid (show AggP (gOf xs) ∧ (gOf xs).cnt ≤ 6 from ⟨gOf_right hR (by omega) (by have := hR.2.2.2; omega) (by omega), by rw [gOf_cnt]; exact hlen⟩)
  have HV := Lib.hid (show ∀ s ∈ xs, -1000000 ≤ s.v ∧ s.v ≤ 1000000 from fun s hs => (hR.1 s hs).2.2)
  have HS1 := Lib.hid hS1
  obtain ⟨hsl, _, _, _⟩ := OwnSl.sl hO (fun x => rfl)
  have Hsl := Lib.hid hsl
  have HG1 := Lib.hid (grown_trans (grown_of_below hbw (some b)) hg1)
  have hxb : w.heap.size ≠ b := by omega
  have hZ1 : ZeroAt w1 w.heap.size := by
    have hblk := hg1.block w.heap.size hz0 (fun e => hxb (by injection e))
    refine ⟨?_, fun b' e i => ?_, Nat.lt_of_lt_of_le hz0 hg1.size⟩
    · obtain ⟨z0, z1, z2, z3, z4, z5⟩ := HZ.out.1
      exact ⟨(World.cell?_of_block (a := ⟨w.heap.size, 0, none⟩) hblk).trans z0, (World.cell?_of_block (a := ⟨w.heap.size, 1, none⟩) hblk).trans z1, (World.cell?_of_block (a := ⟨w.heap.size, 2, none⟩) hblk).trans z2, (World.cell?_of_block (a := ⟨w.heap.size, 3, none⟩) hblk).trans z3, (World.cell?_of_block (a := ⟨w.heap.size, 4, none⟩) hblk).trans z4, (World.cell?_of_block (a := ⟨w.heap.size, 5, none⟩) hblk).trans z5⟩
    · simp [blk] at e
      subst e
      have := HZ.out.2.1 w.heap.size rfl i
      unfold World.frozen? at this ⊢
      rw [hblk]
      exact this
  have HZ1 := Lib.hid hZ1
  clear hO hR hS1 hsl hg1 hbw hZ HZ hZ1 HS0
  generalize hx0 : w.heap.size = x0 at *
  have Hx0 := Lib.hid hx0; clear hx0
  go_wp2_with fail
  refine (l02Of_m A c xs w1.heap.size w1 Hsl.out (Nat.le_refl _) (by omega) HV.out).mono ?_
  rintro e w2 ⟨r, rfl, hr, hb2⟩
  rw [← hr] at HR
  have HZ2 := HZ1.out.below hb2 HZ1.out.2.2
  have HS2 := Lib.hid (HS1.out.keep (hb2.mono (by have := HS1.out.lt; omega)))
  have HG2 := Lib.hid (grown_trans HG1.out (grown_of_below hb2 (some b)))
  obtain ⟨⟨z0, z1, z2, z3, z4, z5⟩, y0', y1', y2', y3', y4', y5'⟩ := HZ2.cells
  clear HZ1 HZ2 HS1 HG1 hb2 hr Hsl HV
  go_wp2
  refine bodyPost_ret (v := .agg #[.int .i64 r.cnt, .int .i64 r.sum, .int .i64 r.mn, .int .i64 r.mx, .int .i64 r.fst, .int .i64 r.lst]) (by simp [results, Tryd.results37, go_sem, *]) rfl ⟨r, rfl, HR.out.1, HR.out.2, ?_, ?_⟩
  · refine HS2.out.keep (setAgg_below (Below.refl _ _) (by omega) r)
  · have hg := HG2.out
    have hx := Hx0.out
    exact grown_setCell (grown_setCell (grown_setCell (grown_setCell (grown_setCell (grown_setCell hg _ (Or.inr (by simp; omega)) _) _ (Or.inr (by simp; omega)) _) _ (Or.inr (by simp; omega)) _) _ (Or.inr (by simp; omega)) _) _ (Or.inr (by simp; omega)) _) _ (Or.inr (by simp; omega)) _

set_option maxRecDepth 100000 in
theorem aggDrawn_any (A : Option Addr) (bs : List Int) (c : Nat) (w : World) (h : BytesAt w w.heap.size A bs) (hx : ∀ x ∈ bs, 0 ≤ x ∧ x ≤ 255) (hl : bs.length ≤ 1048576) : Calls Tryd.prog 10 #[.slice A bs.length c] w fun e w' => ∃ a, e = .returned (.agg #[.int .i64 a.cnt, .int .i64 a.sum, .int .i64 a.mn, .int .i64 a.mx, .int .i64 a.fst, .int .i64 a.lst]) ∧ AggP a ∧ Below w.heap.size w w' := by
  have H := Lib.hid h; clear h
  have HX := Lib.hid hx; clear hx
  go_enter Tryd.func10, Tryd.ntmps10
  go_wp2_with fail
  have hZ := ZeroAt.new w 24
  have hbw : Below w.heap.size w (w.alloc (.cells #[.int .i64 0, .int .i64 0, .int .i64 0, .int .i64 0, .int .i64 0, .int .i64 0] 24)) := bal (Below.refl _ _) _
  generalize w.alloc (.cells #[.int .i64 0, .int .i64 0, .int .i64 0, .int .i64 0, .int .i64 0, .int .i64 0] 24) = w0 at *
  have hz0 : w.heap.size < w0.heap.size := hZ.2.2
  have H0 := Lib.hid (Sl.more (Sl.below H.out hbw (Nat.le_refl _)) (Nat.le_of_lt hz0))
  have HZ := Lib.hid hZ; clear hZ
  generalize hx0 : w.heap.size = x0 at *
  have Hx0 := Lib.hid hx0; clear hx0
  refine (srcSource_any A bs c w0 H0.out HX.out hl).mono ?_
  rintro e w1 ⟨rfl, hs, hb1⟩
  have HS := Lib.hid hs; clear hs H H0 HX
  have HZ1 := Lib.hid (HZ.out.below hb1 hz0)
  have hc1 : Below x0 w w1 := hbw.trans (hb1.mono (by omega))
  have hlt : w0.heap.size < w1.heap.size := HS.out.lt
  clear HZ hb1 hbw
  generalize w0.heap.size = g at *
  go_wp2_with fail
  refine (srcAgg_any g 0 w1 HS.out hlt (by omega)).mono ?_
  rintro e w2 ⟨a, rfl, hP, _, _, hg⟩
  have HP := Lib.hid hP; clear hP
  have hxg : x0 ≠ g := by omega
  have hblk := hg.block x0 HZ1.out.2.2 (fun e => hxg (by injection e))
  have hZ2 : ZeroAt w2 x0 := by
    refine ⟨?_, fun b' e i => ?_, Nat.lt_of_lt_of_le HZ1.out.2.2 hg.size⟩
    · obtain ⟨z0, z1, z2, z3, z4, z5⟩ := HZ1.out.1
      exact ⟨(World.cell?_of_block (a := ⟨x0, 0, none⟩) hblk).trans z0, (World.cell?_of_block (a := ⟨x0, 1, none⟩) hblk).trans z1, (World.cell?_of_block (a := ⟨x0, 2, none⟩) hblk).trans z2, (World.cell?_of_block (a := ⟨x0, 3, none⟩) hblk).trans z3, (World.cell?_of_block (a := ⟨x0, 4, none⟩) hblk).trans z4, (World.cell?_of_block (a := ⟨x0, 5, none⟩) hblk).trans z5⟩
    · simp [blk] at e
      subst e
      have := HZ1.out.2.1 x0 rfl i
      unfold World.frozen? at this ⊢
      rw [hblk]
      exact this
  have hc2 : Below x0 w w2 := hc1.trans (below_of_grown hg (by omega) (fun g' e => by injection e; omega))
  obtain ⟨⟨z0, z1, z2, z3, z4, z5⟩, y0', y1', y2', y3', y4', y5'⟩ := hZ2.cells
  clear HZ1 hZ2 HS hg hc1 hblk
  go_wp2
  refine bodyPost_ret (v := .agg #[.int .i64 a.cnt, .int .i64 a.sum, .int .i64 a.mn, .int .i64 a.mx, .int .i64 a.fst, .int .i64 a.lst]) (by simp [results, Tryd.results10, go_sem, *]) rfl ⟨a, rfl, HP.out, ?_⟩
  rw [Hx0.out]
  exact setAgg_below hc2 (Nat.le_refl _) a

end Go.Proofs.YtcocgocnffnkpaaDoor
