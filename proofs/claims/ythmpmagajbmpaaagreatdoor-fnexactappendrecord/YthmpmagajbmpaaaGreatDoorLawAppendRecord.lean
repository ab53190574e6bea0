/-
  'laws.FnExactAppendRecord' answers true at every argument: AppendRecord answers as its model does, writes into no argument, and its store lies in new memory. Conditions: none.
-/
import Derived.Test.YthmpmagajbmpaaaGreatDoorM4
import Derived.Test.YthmpmagajbmpaaaGreatDoorM5
import Derived.Deep.RegionHeld3
import Derived.Deep.DeepCutAuto
import Derived.Test.YthmpmagajbmpaaaGreatDoorCards
import Derived.Test.YthmpmagajbmpaaaGreatDoorTie
import Derived.ProofKit
import Derived.OpenShut
import Derived.Deep.DeepHandedRow
import Derived.Lib.LaidTab
import Derived.Outline
import Derived.ShutString
namespace Go.Proofs.YthmpmagajbmpaaaGreatDoor.fnExactAppendRecord
open Go.ChangeShapes Go.WideShapes Go.ChangeAt Go.RowKit
set_option linter.unusedVariables false


set_option maxRecDepth 100000 in
set_option maxHeartbeats 2000000 in
theorem walk (A : Option Addr) (c : Nat) (nx : Int) (xs : List GObj) (seq : Int) (r : GRec) (w : World) (h : ObjsAt w w.heap.size A xs) (hf : ∀ o ∈ xs, o.fit) (hl : xs.length ≤ maxLen) (hr : r.fit) (hT : Paths w) (hz : 1 < w.heap.size) (hP : Pow w) :
    Calls Tryz.prog 5 #[.agg #[.slice A xs.length c, .int .i64 nx], .int .i64 seq, .agg #[.int .i64 r.kind, .int .i64 r.tok, .int .i64 r.tier, .int .i64 r.beg, .int .i64 r.fin, .string r.key]] w fun e w' => e = .returned (.bool true) ∧ Below w.heap.size w w' := by
  have H := Lib.hid h; clear h
  have Hf := Lib.hid hf; clear hf
  have Hr := Lib.hid hr; clear hr
  have HEP : Hid (∀ w', Below w.heap.size w w' → Paths w' ∧ 1 < w'.heap.size ∧ Pow w') := Lib.hid (fun w' h => ⟨hT.below h hz, Nat.lt_of_lt_of_le hz h.size, hP.below h (Nat.le_refl _)⟩)
  clear hT hP hz
  go_enter Tryz.func5, Tryz.ntmps5
  go_wp2_with fail
  obtain ⟨W, hW⟩ : ∃ W, W = (w.alloc (.cells #[.slice A xs.length c, .int .i64 nx] 45)).alloc (.cells #[.int .i64 r.kind, .int .i64 r.tok, .int .i64 r.tier, .int .i64 r.beg, .int .i64 r.fin, .string r.key] 28) := ⟨_, rfl⟩
  have t0 : TwoR W w.heap.size (.slice A xs.length c) (.int .i64 nx) r := by
    rw [hW]
    have h1 := (Two.new w (.slice A xs.length c) (.int .i64 nx) 45).alloc (by simp) (.cells #[.int .i64 r.kind, .int .i64 r.tok, .int .i64 r.tier, .int .i64 r.beg, .int .i64 r.fin, .string r.key] 28)
    have h2 := RecAt.new (w.alloc (.cells #[.slice A xs.length c, .int .i64 nx] 45)) r 28
    exact ⟨h1, by simpa using h2⟩
  have b0 : Below w.heap.size w W := by rw [hW]; exact bal (bal (Below.refl _ _) _) _
  have s0 : w.heap.size + 1 < W.heap.size := by rw [hW]; simp
  rw [← hW]
  clear hW
  have T0 := Lib.hid t0; clear t0
  generalize hx0 : w.heap.size = x0 at *
  have Hx0 := Lib.hid hx0; clear hx0
  refine (szStore_any A c nx xs 1048576 x0 W (Sl.below H.out b0 (Nat.le_refl _)) (by omega) (fun o ho => (Hf.out o ho).1) hl (by omega) (by omega)).mono ?_
  rintro e w1 ⟨v, hv, hv1, hv2, rfl, hb1⟩
  have Hv := Lib.hid hv; clear hv
  have b1 : Below x0 w w1 := b0.trans (hb1.mono (by omega))
  by_cases hneg : v < 0
  · have d : decide (v < 0) = true := by simpa using hneg
    go_wp2
    go_ret
    exact ⟨rfl, by rw [Hx0.out]; exact b1⟩
  have d : decide (v < 0) = false := by simpa using hneg
  have hlen : xs.length ≤ 1048576 := (Hv.out (by omega)).1.1
  have T1 := Lib.hid (T0.out.below hb1 s0)
  have s1 : x0 + 1 < w1.heap.size := Nat.lt_of_lt_of_le s0 hb1.size
  clear Hv T0 hb1 b0 s0
  obtain ⟨u0, u1, u2, u3, u4, u5⟩ := T1.out.2.cells
  go_wp2_with fail
  refine (szRecord_any r v w1 Hr.out.2.2.2.2.2 (by omega) (by omega)).mono ?_
  rintro e w1' ⟨v', hv', hv1', hv2', rfl, hb1'⟩
  have Hv := Lib.hid hv'; clear hv'
  have b1' : Below x0 w w1' := b1.trans (hb1'.mono (by omega))
  have T1' := Lib.hid (T1.out.below hb1' s1)
  have s1' : x0 + 1 < w1'.heap.size := Nat.lt_of_lt_of_le s1 hb1'.size
  clear u0 u1 u2 u3 u4 u5 T1 b1 hb1' s1 d hneg
  by_cases hneg : v' < 0
  · have d : decide (v' < 0) = true := by simpa using hneg
    go_wp2
    go_ret
    exact ⟨rfl, by rw [Hx0.out]; exact b1'⟩
  have d : decide (v' < 0) = false := by simpa using hneg
  have hsm : r.key.size ≤ 1048576 := (Hv.out (by omega)).1
  clear Hv
  generalize hV : w1' = V at *
  clear hV
  go_wp2_with fail
  go_cut [8, 9] (fun p q wx => ∃ (nb : Nat) (L : List GObj) (nx3 code : Int) (A' : Option Addr) (c' : Nat), p = .pointer (some ⟨nb, 0, none⟩) ∧ q = .int .i64 code ∧ Hid (AppR xs nx seq r L nx3 code) ∧ Hid (CutA V wx nb A' c' L nx3))
  case first =>
    have K0 := Lib.hid (show KeptR V x0 (.slice A xs.length c) (.int .i64 nx) r none [] V from ⟨Below.refl _ _, T1'.out, Sl.nil⟩)
    have K := Lib.hid (show KeptR V x0 (.slice A xs.length c) (.int .i64 nx) r none [] V.drew from ⟨(Below.refl _ _).drew, T1'.out, Sl.nil⟩)
    have sx := s1'
    obtain ⟨p0, p1, u0, u1, u2, u3, u4, u5⟩ := KeptR.cells K0.out
    go_region_held3 (fun w' => w'.cell? ⟨x0, 0, none⟩ = some (.slice A xs.length c) ∧ w'.cell? ⟨x0, 1, none⟩ = some (.int .i64 nx) ∧ w'.cell? ⟨x0 + 1, 0, none⟩ = some (.int .i64 r.kind) ∧ w'.cell? ⟨x0 + 1, 1, none⟩ = some (.int .i64 r.tok) ∧ w'.cell? ⟨x0 + 1, 2, none⟩ = some (.int .i64 r.tier) ∧ w'.cell? ⟨x0 + 1, 3, none⟩ = some (.int .i64 r.beg) ∧ w'.cell? ⟨x0 + 1, 4, none⟩ = some (.int .i64 r.fin) ∧ w'.cell? ⟨x0 + 1, 5, none⟩ = some (.string r.key))
      (first | exact ⟨p0, p1, u0, u1, u2, u3, u4, u5⟩ | (with_reducible exact keptR_cells K.out (ZedA.base Z.out) sx _ _) | (go_keep; done) | (simp only [*]; done))
      (first
        | (go_at_call 17; refine (toStore_at A c nx xs x0 _ (by first | (with_reducible exact (KeptR.objs K.out H.out b1' (by omega)).1) | (with_reducible exact (KeptR.objs (KeptR.alloc K.out sx _) H.out b1' (by omega)).1) | (with_reducible exact (KeptR.objs (keptR_first K0.out sx _) H.out b1' (by omega)).1)) (by first | (with_reducible exact (KeptR.objs K.out H.out b1' (by omega)).2) | (with_reducible exact (KeptR.objs (KeptR.alloc K.out sx _) H.out b1' (by omega)).2) | (with_reducible exact (KeptR.objs (keptR_first K0.out sx _) H.out b1' (by omega)).2)) hlen).mono ?_; rintro e w7 ⟨g2, c2, rfl, ho2, hf2, hbl2, hc2, hb7⟩; have HO2 := Lib.hid ho2; have HC2 := Lib.hid hc2; clear ho2 hf2 hbl2 hc2; (first | (with_reducible (replace K := Lib.hid (KeptR.step K.out sx hb7)); (try (with_reducible (replace Z := Lib.hid (ZedA.step Z.out hb7))))) | (with_reducible (have Z := Lib.hid (ZedA.step (zedA_new (B := V.heap.size) (KeptR.size K.out) _) hb7)); with_reducible (replace K := Lib.hid (KeptR.step (KeptR.alloc K.out sx _) sx hb7))) | (with_reducible (have Z := Lib.hid (ZedA.step (zedA_first _ _) hb7)); with_reducible (replace K := Lib.hid (KeptR.step (keptR_first K0.out sx _) sx hb7)))); (try (obtain ⟨⟨z0, z1⟩, y0, y1⟩ := Z.out.cells; have ne1 := Nat.ne_of_lt (Nat.lt_of_lt_of_le (Nat.lt_of_succ_lt sx) (ZedA.base Z.out)); have ne2 := Nat.ne_of_lt (Nat.lt_of_lt_of_le sx (ZedA.base Z.out)))); clear hb7; obtain ⟨p0, p1, u0, u1, u2, u3, u4, u5⟩ := KeptR.cells K.out; replace K := Lib.hid (KeptR.withO K.out HO2.out); clear HO2)
        | (go_at_call 10; refine (toRecord_any r _).mono ?_; rintro e w7 ⟨rfl, hb7⟩; (first | (with_reducible (replace K := Lib.hid (KeptR.step K.out sx hb7)); (try (with_reducible (replace Z := Lib.hid (ZedA.step Z.out hb7))))) | (with_reducible (have Z := Lib.hid (ZedA.step (zedA_new (B := V.heap.size) (KeptR.size K.out) _) hb7)); with_reducible (replace K := Lib.hid (KeptR.step (KeptR.alloc K.out sx _) sx hb7))) | (with_reducible (have Z := Lib.hid (ZedA.step (zedA_first _ _) hb7)); with_reducible (replace K := Lib.hid (KeptR.step (keptR_first K0.out sx _) sx hb7)))); (try (obtain ⟨⟨z0, z1⟩, y0, y1⟩ := Z.out.cells; have ne1 := Nat.ne_of_lt (Nat.lt_of_lt_of_le (Nat.lt_of_succ_lt sx) (ZedA.base Z.out)); have ne2 := Nat.ne_of_lt (Nat.lt_of_lt_of_le sx (ZedA.base Z.out)))); clear hb7; obtain ⟨p0, p1, u0, u1, u2, u3, u4, u5⟩ := KeptR.cells K.out)
        | (go_at_call 21; refine (specAppendRecord_any g2 0 c2 nx xs seq r _ _ (by first | (with_reducible exact KeptR.held K.out) | (with_reducible exact KeptR.held (KeptR.alloc K.out sx _)) | (with_reducible exact KeptR.held (keptR_first K0.out sx _))) (Nat.le_refl _) Hf.out hlen HC2.out Hr.out hsm).mono ?_; rintro e w7 ⟨L, nx3, code, A', c', hR, rfl, hsl, hfr, hbl, hcc, hb7⟩; have HR := Lib.hid hR; have HSL := Lib.hid hsl; have HFR := Lib.hid hfr; have HBL := Lib.hid (cutA_low (V := V) (by first | (with_reducible exact KeptR.size K.out) | (with_reducible exact KeptR.size (KeptR.alloc K.out sx _)) | (with_reducible exact KeptR.size (keptR_first K0.out sx _))) hbl); have HCC := Lib.hid hcc; clear hR hsl hfr hbl hcc; (first | (with_reducible (replace K := Lib.hid (KeptR.step K.out sx hb7)); (try (with_reducible (replace Z := Lib.hid (ZedA.step Z.out hb7))))) | (with_reducible (have Z := Lib.hid (ZedA.step (zedA_new (B := V.heap.size) (KeptR.size K.out) _) hb7)); with_reducible (replace K := Lib.hid (KeptR.step (KeptR.alloc K.out sx _) sx hb7))) | (with_reducible (have Z := Lib.hid (ZedA.step (zedA_first _ _) hb7)); with_reducible (replace K := Lib.hid (KeptR.step (keptR_first K0.out sx _) sx hb7)))); (try (obtain ⟨⟨z0, z1⟩, y0, y1⟩ := Z.out.cells; have ne1 := Nat.ne_of_lt (Nat.lt_of_lt_of_le (Nat.lt_of_succ_lt sx) (ZedA.base Z.out)); have ne2 := Nat.ne_of_lt (Nat.lt_of_lt_of_le sx (ZedA.base Z.out)))); clear hb7; obtain ⟨p0, p1, u0, u1, u2, u3, u4, u5⟩ := KeptR.cells K.out))
    all_goals (go_wp2_with fail; go_meet)
    all_goals first | (with_reducible exact ⟨_, L, nx3, code, A', c', rfl, rfl, HR, Lib.hid (cutA_new (KeptR.toA K.out) HSL.out HFR.out HBL.out _)⟩) | (with_reducible exact ⟨_, L, nx3, code, A', c', rfl, rfl, HR, Lib.hid (cutA_set (KeptR.toA K.out) Z.out HSL.out HFR.out HBL.out)⟩)
  case rest =>
    obtain ⟨nb, L, nx3, code, A3, c3, rfl, rfl, Hr0, HCut⟩ := hcut
    have hLl := AppR.len Hr0.out
    generalize hwc : wc = V3 at *
    clear hwc
    obtain ⟨wb3, sv, _, _, hBx, hnb, sv3⟩ := HCut.out
    have WB3 := Lib.hid wb3; have SV3 := Lib.hid sv
    have TV3 := Lib.hid (T1'.out.below hBx s1')
    have sT : x0 + 1 < V3.heap.size := Nat.lt_of_lt_of_le s1' hBx.size
    have bV3 : Below x0 w V3 := b1'.trans (hBx.mono (by omega))
    clear wb3 sv hBx HCut T1' b1'
    generalize hxb : nb = xb at *
    clear hxb
    obtain ⟨t10, t11⟩ := TV3.out.1
    go_wp2_with fail
    refine (toStore_any A c nx xs x0 V3 (Sl.below H.out bV3 (Nat.le_refl _)) (by omega) hlen).mono ?_
    rintro e w4 ⟨A4, c4, rfl, ho4, hf4, hbl4, hc4, hb4⟩
    have Ho4 := Lib.hid ho4; clear ho4 hc4
    have Hf4 := Lib.hid hf4; clear hf4
    have Hbl4 := Lib.hid hbl4; clear hbl4
    have b4 : Below x0 w w4 := bV3.trans (hb4.mono (by omega))
    have T4 := Lib.hid (TV3.out.below hb4 (by omega))
    have WB4 := Lib.hid (WB3.out.below hb4 sv3)
    have S4 := Lib.hid (Sl.below SV3.out hb4 (by omega))
    have s4 : V3.heap.size ≤ w4.heap.size := hb4.size
    clear TV3 WB3 SV3 hb4 bV3
    generalize V3.heap.size = x3 at *
    go_wp2_with fail
    obtain ⟨W5, hW5⟩ : ∃ W5, W5 = w4.alloc (.cells #[.slice A4 xs.length c4, .int .i64 nx] 51) := ⟨_, rfl⟩
    have t5 : Two W5 w4.heap.size (.slice A4 xs.length c4) (.int .i64 nx) := by rw [hW5]; exact Two.new _ _ _ _
    have bb5 : Below w4.heap.size w4 W5 := by rw [hW5]; exact bal (Below.refl _ _) _
    have s5 : w4.heap.size < W5.heap.size := by rw [hW5]; simp
    rw [← hW5]
    clear hW5
    have V5 := Lib.hid t5; clear t5
    have T5 := Lib.hid (T4.out.below bb5 (by omega))
    have WB5 := Lib.hid (WB4.out.below bb5 (by omega))
    have S5 := Lib.hid (Sl.below S4.out bb5 (by omega))
    have O5 := Lib.hid (Sl.below Ho4.out bb5 (Nat.le_refl _))
    have F5 := Lib.hid (Hf4.out.below bb5 (fun b e => (Hbl4.out b e).2))
    have b5 : Below x0 w W5 := b4.trans (bb5.mono (by omega))
    clear T4 WB4 S4 Ho4 Hf4 bb5 b4
    generalize w4.heap.size = x4 at *
    have sx : x0 + 1 < W5.heap.size := by omega
    have sy : x4 < W5.heap.size := s5
    have HEV := Lib.hid (fun (W' : World) (h : Below W5.heap.size W5 W') => HEP.out W' (b5.trans (h.mono (by omega))))
    go_cut [11, 12] (fun p q wx => ∃ (nb : Nat) (L : List GObj) (nx3 code : Int) (A' : Option Addr) (c' : Nat), p = .pointer (some ⟨nb, 0, none⟩) ∧ q = .int .i64 code ∧ Hid (AppR xs nx seq r L nx3 code) ∧ Hid (CutA W5 wx nb A' c' L nx3) ∧ Hid (∀ b, blk A' = some b → b ≠ nb))
    case first =>
      have K0 := Lib.hid (show KeptQ W5 x0 x4 (.slice A xs.length c) (.int .i64 nx) (.slice A4 xs.length c4) (.int .i64 nx) r A4 xs W5 from ⟨⟨Below.refl _ _, T5.out, Sl.more O5.out (by omega)⟩, V5.out⟩)
      have K := Lib.hid (show KeptQ W5 x0 x4 (.slice A xs.length c) (.int .i64 nx) (.slice A4 xs.length c4) (.int .i64 nx) r A4 xs W5.drew from ⟨⟨(Below.refl _ _).drew, T5.out, Sl.more O5.out (by show x4 ≤ W5.heap.size; omega)⟩, V5.out⟩)
      obtain ⟨p0, p1, u0, u1, u2, u3, u4, u5⟩ := KeptQ.cells K0.out
      go_region_held3 (fun w' => w'.cell? ⟨x4, 0, none⟩ = some (.slice A4 xs.length c4) ∧ w'.cell? ⟨x4, 1, none⟩ = some (.int .i64 nx) ∧ w'.cell? ⟨x0 + 1, 0, none⟩ = some (.int .i64 r.kind) ∧ w'.cell? ⟨x0 + 1, 1, none⟩ = some (.int .i64 r.tok) ∧ w'.cell? ⟨x0 + 1, 2, none⟩ = some (.int .i64 r.tier) ∧ w'.cell? ⟨x0 + 1, 3, none⟩ = some (.int .i64 r.beg) ∧ w'.cell? ⟨x0 + 1, 4, none⟩ = some (.int .i64 r.fin) ∧ w'.cell? ⟨x0 + 1, 5, none⟩ = some (.string r.key))
        (first | exact ⟨p0, p1, u0, u1, u2, u3, u4, u5⟩ | (with_reducible exact keptQ_cells K.out (ZedA.base Z.out) sx sy _ _) | (go_keep; done) | (simp only [*]; done))
        (first
          | (go_at_call 10; refine (toRecord_any r _).mono ?_; rintro e w7 ⟨rfl, hb7⟩; (first | (with_reducible (replace K := Lib.hid (KeptQ.step K.out sx sy hb7)); (try (with_reducible (replace Z := Lib.hid (ZedA.step Z.out hb7))))) | (with_reducible (have Z := Lib.hid (ZedA.step (zedA_new (B := W5.heap.size) (KeptQ.size K.out) _) hb7)); with_reducible (replace K := Lib.hid (KeptQ.step (KeptQ.alloc K.out sx sy _) sx sy hb7))) | (with_reducible (have Z := Lib.hid (ZedA.step (zedA_first _ _) hb7)); with_reducible (replace K := Lib.hid (KeptQ.step (keptQ_first K0.out sx sy _) sx sy hb7)))); (try (obtain ⟨⟨z0, z1⟩, y0, y1⟩ := Z.out.cells; have ne1 := Nat.ne_of_lt (Nat.lt_of_lt_of_le sy (ZedA.base Z.out)); have ne2 := Nat.ne_of_lt (Nat.lt_of_lt_of_le sx (ZedA.base Z.out)))); clear hb7; obtain ⟨p0, p1, u0, u1, u2, u3, u4, u5⟩ := KeptQ.cells K.out)
          | (go_at_call 22; refine (appendRecord_any A4 c4 nx xs seq r _ _ (by first | (with_reducible exact KeptR.held (KeptQ.toR K.out)) | (with_reducible exact KeptR.held (KeptQ.toR (KeptQ.alloc K.out sx sy _))) | (with_reducible exact KeptR.held (KeptQ.toR (keptQ_first K0.out sx sy _)))) (Nat.le_refl _) Hf.out hlen Hr.out hsm (by first | (with_reducible exact (HEV.out _ (KeptQ.low K.out)).1) | (with_reducible exact (HEV.out _ (KeptQ.low (KeptQ.alloc K.out sx sy _))).1) | (with_reducible exact (HEV.out _ (KeptQ.low (keptQ_first K0.out sx sy _))).1)) (by first | (with_reducible exact (HEV.out _ (KeptQ.low K.out)).2.1) | (with_reducible exact (HEV.out _ (KeptQ.low (KeptQ.alloc K.out sx sy _))).2.1) | (with_reducible exact (HEV.out _ (KeptQ.low (keptQ_first K0.out sx sy _))).2.1)) (by first | (with_reducible exact (HEV.out _ (KeptQ.low K.out)).2.2) | (with_reducible exact (HEV.out _ (KeptQ.low (KeptQ.alloc K.out sx sy _))).2.2) | (with_reducible exact (HEV.out _ (KeptQ.low (keptQ_first K0.out sx sy _))).2.2))).mono ?_; rintro e w7 ⟨L2, nx2, code2, A', c', hR, rfl, hsl, hfr, hbl, hcc, hb7⟩; have HR := Lib.hid hR; have HSL := Lib.hid hsl; have HFR := Lib.hid hfr; have HBL := Lib.hid (cutA_low (V := W5) (by first | (with_reducible exact KeptQ.size K.out) | (with_reducible exact KeptQ.size (KeptQ.alloc K.out sx sy _)) | (with_reducible exact KeptQ.size (keptQ_first K0.out sx sy _))) hbl); (first | (with_reducible have HNZ := Lib.hid (zlow Z.out hbl)) | (with_reducible have HNZ := Lib.hid (alow hbl)) | (with_reducible have HNZ := Lib.hid (alowD hbl)) | skip); clear hR hsl hfr hbl hcc; (first | (with_reducible (replace K := Lib.hid (KeptQ.step K.out sx sy hb7)); (try (with_reducible (replace Z := Lib.hid (ZedA.step Z.out hb7))))) | (with_reducible (have Z := Lib.hid (ZedA.step (zedA_new (B := W5.heap.size) (KeptQ.size K.out) _) hb7)); with_reducible (replace K := Lib.hid (KeptQ.step (KeptQ.alloc K.out sx sy _) sx sy hb7))) | (with_reducible (have Z := Lib.hid (ZedA.step (zedA_first _ _) hb7)); with_reducible (replace K := Lib.hid (KeptQ.step (keptQ_first K0.out sx sy _) sx sy hb7)))); (try (obtain ⟨⟨z0, z1⟩, y0, y1⟩ := Z.out.cells; have ne1 := Nat.ne_of_lt (Nat.lt_of_lt_of_le sy (ZedA.base Z.out)); have ne2 := Nat.ne_of_lt (Nat.lt_of_lt_of_le sx (ZedA.base Z.out)))); clear hb7; obtain ⟨p0, p1, u0, u1, u2, u3, u4, u5⟩ := KeptQ.cells K.out))
      all_goals (go_wp2_with fail; go_meet)
      all_goals first | (with_reducible exact ⟨_, L2, nx2, code2, A', c', rfl, rfl, HR, Lib.hid (cutA_new (KeptR.toA (KeptQ.toR K.out)) HSL.out HFR.out HBL.out _), Lib.hid (fun b e => Nat.ne_of_lt (HBL.out b e).2)⟩) | (with_reducible exact ⟨_, L2, nx2, code2, A', c', rfl, rfl, HR, Lib.hid (cutA_set (KeptR.toA (KeptQ.toR K.out)) Z.out HSL.out HFR.out HBL.out), HNZ⟩)
    case rest =>
    obtain ⟨nb7, L', nx6, code', A6, c6, rfl, rfl, hr', HCut, HNE⟩ := hcut
    obtain ⟨e0, e1, e2⟩ := AppR.one Hr0.out hr'.out
    subst e0 e1 e2
    generalize hwc : wc = W7 at *
    clear hwc
    obtain ⟨gb7, g7, e7, hbl6, hBx, hn5, hn7⟩ := HCut.out
    obtain ⟨x6, hx6⟩ : ∃ x6, x6 = W7.heap.size := ⟨_, rfl⟩
    rw [← hx6] at g7 hbl6 hn7
    have GB7 := Lib.hid gb7; have G7 := Lib.hid g7; have E7 := Lib.hid e7; have Hbl6 := Lib.hid hbl6
    have V7 := Lib.hid (V5.out.below hBx s5)
    have T7 := Lib.hid (T5.out.below hBx (by omega))
    have WB7 := Lib.hid (WB5.out.below hBx (by omega))
    have S7 := Lib.hid (Sl.below S5.out hBx (by omega))
    have O7 := Lib.hid (Sl.below O5.out hBx (by omega))
    have F7 := Lib.hid (F5.out.below hBx (fun b e => by have := (Hbl4.out b e).2; omega))
    have b7 : Below x0 w W7 := b5.trans (hBx.mono (by omega))
    have s7 : x6 ≤ W7.heap.size := by omega
    have s57 : W5.heap.size ≤ x6 := by have := hBx.size; omega
    clear gb7 g7 e7 hbl6 hBx hx6 HCut V5 T5 WB5 S5 O5 F5 hr' b5 HEV
    generalize W5.heap.size = x5 at *
    obtain ⟨q0, q1⟩ := GB7.out
    obtain ⟨p0, p1⟩ := WB7.out
    go_wp2_with fail
    refine (eqStore_any A6 A3 c6 c3 nx6 nx6 L' L' x6 W7 G7.out (Sl.more S7.out (by omega)) (by omega) (by omega) (by omega)).mono ?_
    rintro e w8 ⟨be, hbe, rfl, hb8⟩
    obtain rfl : be = true := hbe.2 ⟨rfl, rfl⟩
    clear hbe
    have b8 : Below x0 w w8 := b7.trans (hb8.mono (by omega))
    have GB8 := Lib.hid (GB7.out.below hb8 (by omega))
    have V8 := Lib.hid (V7.out.below hb8 (by omega))
    have T8 := Lib.hid (T7.out.below hb8 (by omega))
    have WB8 := Lib.hid (WB7.out.below hb8 (by omega))
    have S8 := Lib.hid (Sl.below S7.out hb8 (by omega))
    have O8 := Lib.hid (Sl.below O7.out hb8 (by omega))
    have F8 := Lib.hid (F7.out.below hb8 (fun b e => by have := (Hbl4.out b e).2; omega))
    have G8 := Lib.hid (Sl.below G7.out hb8 (by omega))
    have E8 := Lib.hid (E7.out.below hb8 (fun b e => by have := (Hbl6.out b e).2; omega))
    have s8 : x6 ≤ w8.heap.size := Nat.le_trans s7 hb8.size
    clear GB7 V7 T7 WB7 S7 O7 F7 G7 E7 hb8 b7 s7
    obtain ⟨t10, t11⟩ := T8.out.1
    obtain ⟨v10, v11⟩ := V8.out
    have s74 : x4 < w8.heap.size := by omega
    have s70 : x0 < w8.heap.size := by omega
    go_wp2_with fail
    go_region_held3 (fun w' => w'.cell? ⟨x4, 0, none⟩ = some (.slice A4 xs.length c4) ∧ w'.cell? ⟨x4, 1, none⟩ = some (.int .i64 nx) ∧ w'.cell? ⟨x0, 0, none⟩ = some (.slice A xs.length c) ∧ w'.cell? ⟨x0, 1, none⟩ = some (.int .i64 nx))
      (first | go_keep | exact ⟨(hb9.cell s74).trans v10, (hb9.cell s74).trans v11, (hb9.cell s70).trans t10, (hb9.cell s70).trans t11⟩ | exact ⟨(hb10.cell s84).trans ((hb9.cell s74).trans v10), (hb10.cell s84).trans ((hb9.cell s74).trans v11), (hb10.cell s80).trans ((hb9.cell s70).trans t10), (hb10.cell s80).trans ((hb9.cell s70).trans t11)⟩)
      (first
        | (go_at_call 17; refine (toStore_any A c nx xs x0 w8.drew (by exact Sl.below H.out b8.drew (Nat.le_refl _)) (by exact Nat.le_of_lt s70) hlen).mono ?_; rintro e w9 ⟨A9, c9, rfl, ho9, hf9, hbl9, hc9, hb9'⟩; have Ho9 := Lib.hid ho9; clear ho9 hf9 hbl9 hc9; have hb9 : Below w8.heap.size w8 w9 := (Below.refl _ _).drew.trans hb9'; clear hb9'; have s84 : x4 < w9.heap.size := Nat.lt_of_lt_of_le s74 hb9.size; have s80 : x0 < w9.heap.size := Nat.lt_of_lt_of_le s70 hb9.size)
        | (go_at_call 19; refine (eqStore_any A4 A9 c4 c9 nx nx xs xs w9.heap.size w9 (by exact Sl.more (Sl.below O8.out hb9 (Nat.le_of_lt s74)) (Nat.le_of_lt s84)) Ho9.out (Nat.le_refl _) (by omega) (by omega)).mono ?_; rintro e w10 ⟨be, hbe, rfl, hb10⟩; obtain rfl : be = true := hbe.2 ⟨rfl, rfl⟩; clear hbe))
    have hbA : Below w8.heap.size w8 w10 := bnext hb9 hb10
    clear t10 t11 v10 v11 hb9 hb10 Ho9 s84 s80
    have b10 : Below x0 w w10 := b8.trans (hbA.mono (by omega))
    have GB10 := Lib.hid (GB8.out.below hbA (by omega))
    have V10 := Lib.hid (V8.out.below hbA (by omega))
    have T10 := Lib.hid (T8.out.below hbA (by omega))
    have WB10 := Lib.hid (WB8.out.below hbA (by omega))
    have S10 := Lib.hid (Sl.below S8.out hbA (by omega))
    have O10 := Lib.hid (Sl.below O8.out hbA (by omega))
    have F10 := Lib.hid (F8.out.below hbA (fun b e => by have := (Hbl4.out b e).2; omega))
    have G10 := Lib.hid (Sl.below G8.out hbA (by omega))
    have E10 := Lib.hid (E8.out.below hbA (fun b e => by have := (Hbl6.out b e).2; omega))
    have s10 : x6 ≤ w10.heap.size := Nat.le_trans s8 hbA.size
    clear GB8 V8 T8 WB8 S8 O8 F8 G8 E8 hbA b8 s74 s70 s8
    obtain ⟨v10, v11⟩ := V10.out
    go_wp2_with fail
    refine (markStore_any A4 c4 nx 1 xs x4 w10 O10.out F10.out (fun b e => by have := (Hbl4.out b e).2; omega) (by omega) (by omega) (by omega) (by omega)).mono ?_
    rintro e w11 ⟨rfl, _, hg11, _⟩
    have bb11 : Below x3 w10 w11 := below_of_grown hg11 (by omega) (fun g e => (Hbl4.out g e).1)
    have b11 : Below x0 w w11 := b10.trans (bb11.mono (by omega))
    have T11 := Lib.hid (T10.out.below bb11 (by omega))
    have WB11 := Lib.hid (WB10.out.below bb11 (by omega))
    have S11 := Lib.hid (Sl.below S10.out bb11 (by omega))
    have GB11 := Lib.hid (GB10.out.grown hg11 (by omega) (fun g e => by have := (Hbl4.out g e).2; omega))
    have ne46 : blk A6 = none ∨ blk A6 ≠ blk A4 := by
      cases hq : blk A6 with
      | none => exact .inl rfl
      | some b6 => exact .inr (fun e => by have h1 := (Hbl6.out b6 hq).1; have h2 := (Hbl4.out b6 e.symm).2; omega)
    have G11 := Lib.hid (Sl.grown G10.out hg11 (by omega) ne46)
    have E11 := Lib.hid (show Free w11 A6 from fun b e i => by
      have hne : some b ≠ blk A4 := fun e4 => by rcases ne46 with h | h; (· rw [h] at e; cases e); (· exact h (e.trans e4))
      exact (World.frozen?_of_block (a := ⟨b, i, none⟩) (hg11.block b (by have := (Hbl6.out b e).2; omega) hne)).trans (E10.out b e i))
    have s11 : x6 ≤ w11.heap.size := Nat.le_trans s10 hg11.size
    have dk : decide (1 + 3 * (xs.length : Int) < 0) = false := by simp; omega
    clear GB10 V10 T10 WB10 S10 O10 F10 G10 E10 hg11 bb11 b10 v10 v11 ne46 s10
    obtain ⟨q0, q1⟩ := GB11.out
    obtain ⟨p0, p1⟩ := WB11.out
    go_wp2_with fail
    refine (eqStore_any A6 A3 c6 c3 nx6 nx6 L' L' x6 w11 G11.out (Sl.more S11.out (by omega)) (by omega) (by omega) (by omega)).mono ?_
    rintro e w12 ⟨be, hbe, rfl, hb12⟩
    obtain rfl : be = true := hbe.2 ⟨rfl, rfl⟩
    clear hbe q0 q1 p0 p1
    have b12 : Below x0 w w12 := b11.trans (hb12.mono (by omega))
    have T12 := Lib.hid (T11.out.below hb12 (by omega))
    have WB12 := Lib.hid (WB11.out.below hb12 (by omega))
    have GB12 := Lib.hid (GB11.out.below hb12 (by omega))
    have S12 := Lib.hid (Sl.below S11.out hb12 (by omega))
    have G12 := Lib.hid (Sl.below G11.out hb12 (by omega))
    have E12 := Lib.hid (E11.out.below hb12 (fun b e => by have := (Hbl6.out b e).2; omega))
    have s12 : x6 ≤ w12.heap.size := Nat.le_trans s11 hb12.size
    clear T11 WB11 GB11 S11 G11 E11 hb12 b11 s11
    obtain ⟨q0, q1⟩ := GB12.out
    go_wp2_with fail
    refine (markStore_any A6 c6 nx6 1 L' x6 w12 G12.out E12.out (fun b e => by have := (Hbl6.out b e).2; omega) (by omega) (by omega) (by omega) (by omega)).mono ?_
    rintro e w13 ⟨rfl, hs13, hg13, _⟩
    have G13 := Lib.hid hs13; clear hs13
    have bb13 : Below x5 w12 w13 := below_of_grown hg13 (by omega) (fun g e => (Hbl6.out g e).1)
    have b13 : Below x0 w w13 := b12.trans (bb13.mono (by omega))
    have T13 := Lib.hid (T12.out.below bb13 (by omega))
    have WB13 := Lib.hid (WB12.out.below bb13 (by omega))
    have S13 := Lib.hid (Sl.below S12.out bb13 (by omega))
    have GB13 := Lib.hid (GB12.out.grown hg13 (by omega) (fun g e => HNE.out g e))
    have s13 : x6 ≤ w13.heap.size := Nat.le_trans s12 hg13.size
    clear T12 WB12 GB12 S12 G12 E12 hg13 bb13 b12 s12 dk q0 q1
    have dq : decide (1 + 3 * (L'.length : Int) < 0) = false := by simp; omega
    obtain ⟨q0, q1⟩ := GB13.out
    go_wp2_with fail
    refine (heldStore_any A6 c6 L'.length nx6 1 x6 w13 G13.out (by omega) (by omega) (by omega) (by omega)).mono ?_
    rintro e w14 ⟨rfl, hb14⟩
    have b14 : Below x0 w w14 := b13.trans (hb14.mono (by omega))
    have T14 := Lib.hid (T13.out.below hb14 (by omega))
    have WB14 := Lib.hid (WB13.out.below hb14 (by omega))
    have GB14 := Lib.hid (GB13.out.below hb14 (by omega))
    have S14 := Lib.hid (Sl.below S13.out hb14 (by omega))
    have G14 := Lib.hid (Sl.below G13.out hb14 (by omega))
    have s14 : x6 ≤ w14.heap.size := Nat.le_trans s13 hb14.size
    clear T13 WB13 GB13 S13 G13 hb14 b13 s13 q0 q1
    obtain ⟨t10, t11⟩ := T14.out
    go_wp2_with fail
    have sx : x0 + 1 < w14.heap.size := by omega
    have HEV := Lib.hid (fun (W' : World) (h : Below w14.heap.size w14 W') => HEP.out W' (b14.trans (h.mono (by omega))))
    go_cut [16, 17] (fun p q wx => ∃ (nb : Nat) (L : List GObj) (nx3 code : Int) (A' : Option Addr) (c' : Nat), p = .pointer (some ⟨nb, 0, none⟩) ∧ q = .int .i64 code ∧ Hid (AppR xs nx seq r L nx3 code) ∧ Hid (CutA w14 wx nb A' c' L nx3))
    case first =>
      have K0 := Lib.hid (show KeptR w14 x0 (.slice A xs.length c) (.int .i64 nx) r none [] w14 from ⟨Below.refl _ _, T14.out, Sl.nil⟩)
      have K := Lib.hid (show KeptR w14 x0 (.slice A xs.length c) (.int .i64 nx) r none [] w14.drew from ⟨(Below.refl _ _).drew, T14.out, Sl.nil⟩)
      obtain ⟨p0, p1, u0, u1, u2, u3, u4, u5⟩ := KeptR.cells K0.out
      go_region_held3 (fun w' => w'.cell? ⟨x0, 0, none⟩ = some (.slice A xs.length c) ∧ w'.cell? ⟨x0, 1, none⟩ = some (.int .i64 nx) ∧ w'.cell? ⟨x0 + 1, 0, none⟩ = some (.int .i64 r.kind) ∧ w'.cell? ⟨x0 + 1, 1, none⟩ = some (.int .i64 r.tok) ∧ w'.cell? ⟨x0 + 1, 2, none⟩ = some (.int .i64 r.tier) ∧ w'.cell? ⟨x0 + 1, 3, none⟩ = some (.int .i64 r.beg) ∧ w'.cell? ⟨x0 + 1, 4, none⟩ = some (.int .i64 r.fin) ∧ w'.cell? ⟨x0 + 1, 5, none⟩ = some (.string r.key))
        (first | exact ⟨p0, p1, u0, u1, u2, u3, u4, u5⟩ | (with_reducible exact keptR_cells K.out (ZedA.base Z.out) sx _ _) | (go_keep; done) | (simp only [*]; done))
        (first
          | (go_at_call 17; refine (toStore_at A c nx xs x0 _ (by first | (with_reducible exact (KeptR.objs K.out H.out b14 (by omega)).1) | (with_reducible exact (KeptR.objs (KeptR.alloc K.out sx _) H.out b14 (by omega)).1) | (with_reducible exact (KeptR.objs (keptR_first K0.out sx _) H.out b14 (by omega)).1)) (by first | (with_reducible exact (KeptR.objs K.out H.out b14 (by omega)).2) | (with_reducible exact (KeptR.objs (KeptR.alloc K.out sx _) H.out b14 (by omega)).2) | (with_reducible exact (KeptR.objs (keptR_first K0.out sx _) H.out b14 (by omega)).2)) hlen).mono ?_; rintro e w7 ⟨g2, c2, rfl, ho2, hf2, hbl2, hc2, hb7⟩; have HO2 := Lib.hid ho2; have HC2 := Lib.hid hc2; clear ho2 hf2 hbl2 hc2; (first | (with_reducible (replace K := Lib.hid (KeptR.step K.out sx hb7)); (try (with_reducible (replace Z := Lib.hid (ZedA.step Z.out hb7))))) | (with_reducible (have Z := Lib.hid (ZedA.step (zedA_new (B := w14.heap.size) (KeptR.size K.out) _) hb7)); with_reducible (replace K := Lib.hid (KeptR.step (KeptR.alloc K.out sx _) sx hb7))) | (with_reducible (have Z := Lib.hid (ZedA.step (zedA_first _ _) hb7)); with_reducible (replace K := Lib.hid (KeptR.step (keptR_first K0.out sx _) sx hb7)))); (try (obtain ⟨⟨z0, z1⟩, y0, y1⟩ := Z.out.cells; have ne1 := Nat.ne_of_lt (Nat.lt_of_lt_of_le (Nat.lt_of_succ_lt sx) (ZedA.base Z.out)); have ne2 := Nat.ne_of_lt (Nat.lt_of_lt_of_le sx (ZedA.base Z.out)))); clear hb7; obtain ⟨p0, p1, u0, u1, u2, u3, u4, u5⟩ := KeptR.cells K.out; replace K := Lib.hid (KeptR.withO K.out HO2.out); clear HO2)
          | (go_at_call 10; refine (toRecord_any r _).mono ?_; rintro e w7 ⟨rfl, hb7⟩; (first | (with_reducible (replace K := Lib.hid (KeptR.step K.out sx hb7)); (try (with_reducible (replace Z := Lib.hid (ZedA.step Z.out hb7))))) | (with_reducible (have Z := Lib.hid (ZedA.step (zedA_new (B := w14.heap.size) (KeptR.size K.out) _) hb7)); with_reducible (replace K := Lib.hid (KeptR.step (KeptR.alloc K.out sx _) sx hb7))) | (with_reducible (have Z := Lib.hid (ZedA.step (zedA_first _ _) hb7)); with_reducible (replace K := Lib.hid (KeptR.step (keptR_first K0.out sx _) sx hb7)))); (try (obtain ⟨⟨z0, z1⟩, y0, y1⟩ := Z.out.cells; have ne1 := Nat.ne_of_lt (Nat.lt_of_lt_of_le (Nat.lt_of_succ_lt sx) (ZedA.base Z.out)); have ne2 := Nat.ne_of_lt (Nat.lt_of_lt_of_le sx (ZedA.base Z.out)))); clear hb7; obtain ⟨p0, p1, u0, u1, u2, u3, u4, u5⟩ := KeptR.cells K.out)
          | (go_at_call 22; refine (appendRecord_any (some ⟨g2, 0, none⟩) c2 nx xs seq r _ _ (by first | (with_reducible exact KeptR.held K.out) | (with_reducible exact KeptR.held (KeptR.alloc K.out sx _)) | (with_reducible exact KeptR.held (keptR_first K0.out sx _))) (Nat.le_refl _) Hf.out hlen Hr.out hsm (by first | (with_reducible exact (HEV.out _ (KeptA.low (KeptR.toA K.out))).1) | (with_reducible exact (HEV.out _ (KeptA.low (KeptR.toA (KeptR.alloc K.out sx _)))).1) | (with_reducible exact (HEV.out _ (KeptA.low (KeptR.toA (keptR_first K0.out sx _)))).1)) (by first | (with_reducible exact (HEV.out _ (KeptA.low (KeptR.toA K.out))).2.1) | (with_reducible exact (HEV.out _ (KeptA.low (KeptR.toA (KeptR.alloc K.out sx _)))).2.1) | (with_reducible exact (HEV.out _ (KeptA.low (KeptR.toA (keptR_first K0.out sx _)))).2.1)) (by first | (with_reducible exact (HEV.out _ (KeptA.low (KeptR.toA K.out))).2.2) | (with_reducible exact (HEV.out _ (KeptA.low (KeptR.toA (KeptR.alloc K.out sx _)))).2.2) | (with_reducible exact (HEV.out _ (KeptA.low (KeptR.toA (keptR_first K0.out sx _)))).2.2))).mono ?_; rintro e w7 ⟨L2, nx2, code2, A', c', hR, rfl, hsl, hfr, hbl, hcc, hb7⟩; have HR := Lib.hid hR; have HSL := Lib.hid hsl; have HFR := Lib.hid hfr; have HBL := Lib.hid (cutA_low (V := w14) (by first | (with_reducible exact KeptR.size K.out) | (with_reducible exact KeptR.size (KeptR.alloc K.out sx _)) | (with_reducible exact KeptR.size (keptR_first K0.out sx _))) hbl); clear hR hsl hfr hbl hcc; (first | (with_reducible (replace K := Lib.hid (KeptR.step K.out sx hb7)); (try (with_reducible (replace Z := Lib.hid (ZedA.step Z.out hb7))))) | (with_reducible (have Z := Lib.hid (ZedA.step (zedA_new (B := w14.heap.size) (KeptR.size K.out) _) hb7)); with_reducible (replace K := Lib.hid (KeptR.step (KeptR.alloc K.out sx _) sx hb7))) | (with_reducible (have Z := Lib.hid (ZedA.step (zedA_first _ _) hb7)); with_reducible (replace K := Lib.hid (KeptR.step (keptR_first K0.out sx _) sx hb7)))); (try (obtain ⟨⟨z0, z1⟩, y0, y1⟩ := Z.out.cells; have ne1 := Nat.ne_of_lt (Nat.lt_of_lt_of_le (Nat.lt_of_succ_lt sx) (ZedA.base Z.out)); have ne2 := Nat.ne_of_lt (Nat.lt_of_lt_of_le sx (ZedA.base Z.out)))); clear hb7; obtain ⟨p0, p1, u0, u1, u2, u3, u4, u5⟩ := KeptR.cells K.out))
      all_goals (go_wp2_with fail; go_meet)
      all_goals first | (with_reducible exact ⟨_, L2, nx2, code2, A', c', rfl, rfl, HR, Lib.hid (cutA_new (KeptR.toA K.out) HSL.out HFR.out HBL.out _)⟩) | (with_reducible exact ⟨_, L2, nx2, code2, A', c', rfl, rfl, HR, Lib.hid (cutA_set (KeptR.toA K.out) Z.out HSL.out HFR.out HBL.out)⟩)
    case rest =>
    obtain ⟨nb9, L2, nx16, code2, A16, c16, rfl, rfl, hr2, HCut⟩ := hcut
    obtain ⟨e0, e1, e2⟩ := AppR.one Hr0.out hr2.out
    subst e0 e1 e2
    generalize hwc : wc = W17 at *
    clear hwc
    obtain ⟨gb9, g9, _, _, hBx, hn9, hn19⟩ := HCut.out
    have H17 := Lib.hid g9
    have b17 : Below x0 w W17 := b14.trans (hBx.mono (by omega))
    have WB17 := Lib.hid (WB14.out.below hBx (by omega))
    have GB17 := Lib.hid (GB14.out.below hBx (by omega))
    have S17 := Lib.hid (Sl.below S14.out hBx (by omega))
    have G17 := Lib.hid (Sl.below G14.out hBx (by omega))
    have s17 : W17.heap.size ≤ W17.heap.size := Nat.le_refl _
    have s17' : w14.heap.size ≤ W17.heap.size := hBx.size
    obtain ⟨p0, p1⟩ := WB17.out
    obtain ⟨q0, q1⟩ := gb9
    clear WB14 GB14 S14 G14 g9 hBx HCut hr2 HEV
    go_wp2_with fail
    refine (eqStore_any A16 A3 c16 c3 nx16 nx16 L2 L2 W17.heap.size W17 H17.out (Sl.more S17.out (by omega)) s17 (by omega) (by omega)).mono ?_
    rintro e w18 ⟨be, hbe, rfl, hb18⟩
    obtain rfl : be = true := hbe.2 ⟨rfl, rfl⟩
    clear hbe
    have b18 : Below x0 w w18 := b17.trans (hb18.mono (by omega))
    have GB18 := Lib.hid (GB17.out.below hb18 (by omega))
    have G18 := Lib.hid (Sl.below G17.out hb18 (by omega))
    have s18 : x6 ≤ w18.heap.size := by have := hb18.size; omega
    clear GB17 S17 G17 H17 hb18 b17
    obtain ⟨q0, q1⟩ := GB18.out
    go_wp2_with fail
    refine (heldStore_any A6 c6 L2.length nx16 1 x6 w18 G18.out (by omega) (by omega) (by omega) (by omega)).mono ?_
    rintro e w19 ⟨rfl, hb19⟩
    have b19 : Below x0 w w19 := b18.trans (hb19.mono (by omega))
    clear G18 GB18 hb19 b18 q0 q1
    go_wp2
    go_ret
    exact ⟨rfl, by rw [Hx0.out]; exact b19⟩

set_option maxRecDepth 100000 in
theorem contract (H : Type) (enc : TypeId × Value → H) (W : World) (base : Nat) (args : Array Value) (ds gs : List (DataW H)) (before : List MemPlace)
    (hval0 : ∀ (j : Nat) t v, Tryz.f5.params[j]? = some t → args[j]? = some v → Value.okWide Tryz.prog W .any base t v)
    (hW : DataW.Whole enc Tryz.prog Tryz.f5.params.toList Rows.fnExactAppendRecordSpec.vars false W args.toList ds gs before) (hL : laidMetH Tryz.prog Rows.fnExactAppendRecordRow.laid W) :
    Calls Tryz.prog 5 args W fun e W' => ∃ v, e = .returned v ∧ Rows.fnExactAppendRecordSpec.post enc Tryz.prog Tryz.f5 false true false false W args v W' := by
  obtain ⟨hQ, hz⟩ := paths_in hL (List.mem_cons_of_mem _ (List.mem_cons_of_mem _ (List.mem_cons_of_mem _ List.mem_cons_self)))
  obtain ⟨_, hz2⟩ := wid_in hL (List.mem_cons_of_mem _ (List.mem_cons_of_mem _ (List.mem_cons_of_mem _ (List.mem_cons_of_mem _ List.mem_cons_self))))
  have hT := pow_in hL (List.mem_cons_of_mem _ (List.mem_cons_of_mem _ List.mem_cons_self))
  have hval : ∀ (j : Nat) t v, Tryz.f5.params[j]? = some t → args[j]? = some v → Value.okWide Tryz.prog W .any base t v := hval0
  have hW' := hW
  have hlt : ∀ p ∈ before, p.block < W.heap.size := fun p hp => hW.lt p hp
  obtain ⟨p, q, hA0, hV, rfl, hfz, hnd⟩ := hW
  have hA : DataW.TrodAll enc Tryz.prog W 0 (fun _ => true) true Tryz.f5.params.toList args.toList ds p := hA0
  rw [Tryz.params5] at hA hval
  obtain ⟨v0, vs0, d0, ds0, p0, q0, hargs, rfl, rfl, h0, r0⟩ := trodAll_cons hA
  obtain ⟨v1, vs1, d1, ds1, p1, q1, rfl, rfl, rfl, h1, r1⟩ := trodAll_cons r0
  obtain ⟨v2, vs2, d2, ds2, p2, q2, rfl, rfl, rfl, h2, r2⟩ := trodAll_cons r1
  obtain ⟨rfl, rfl, rfl⟩ := trodAll_nil r2
  obtain rfl : args = #[v0, v1, v2] := by cases args; simp_all
  have hV1 : DataW.TrodVars enc Tryz.prog W (fun _ => true) ["loop.example/g00601/impl.tierPaths", "loop.example/g00601/impl.tierWidths"] gs q := hV
  obtain ⟨dg, dh, rfl⟩ : ∃ d e, gs = [d, e] := by
    rcases gs with _ | ⟨d, _ | ⟨e, _ | ⟨f, r⟩⟩⟩
    · cases hV1
    · obtain ⟨_, _, _, _, _, _, _, _, _, _, h, _⟩ := hV1; cases h
    · exact ⟨d, e, rfl⟩
    · obtain ⟨_, _, _, _, _, _, _, _, _, _, ⟨_, _, _, _, _, _, _, _, _, _, h, _⟩, _⟩ := hV1; cases h
  have k0 := h0
  have lt0 : ∀ x ∈ p0, x.block < W.heap.size := by obtain ⟨m, hm⟩ := k0; exact DataW.trod_lt m _ _ _ hm
  obtain ⟨A0, c0, xs0, nx0, rfl, ob0, ft0, ln0, wn0⟩ := open_store (hval 0 45 v0 rfl rfl) h0
  have k1 := h1
  have lt1 : ∀ x ∈ p1, x.block < W.heap.size := by obtain ⟨m, hm⟩ := k1; exact DataW.trod_lt m _ _ _ hm
  obtain ⟨i1, rfl, hd1, hp1, wi1⟩ := open_int Tryz.underlying3 (hval 1 3 v1 rfl rfl) h1
  have k2 := h2
  have lt2 : ∀ x ∈ p2, x.block < W.heap.size := by obtain ⟨m, hm⟩ := k2; exact DataW.trod_lt m _ _ _ hm
  obtain ⟨r2, rfl, ft2⟩ := open_lrec (hval 2 28 v2 rfl rfl) h2
  clear hA0 hval0
  refine (walk A0 c0 nx0 xs0 i1 r2 W ob0 ft0 ln0 ft2 hQ hz hT).mono fun e W' ⟨he, bel⟩ => ?_
  subst he
  exact ⟨_, rfl, _, _, _, [], _, _, hW', trodAll_mk1 (shut_bool Tryz.underlying4 _), (trodAll_cons_mk (Below.trod laidOut (by kernel_rfl) (of_decide_eq_true (by kernel_rfl)) k0 bel lt0) (trodAll_cons_mk (Below.trod laidOut (by kernel_rfl) (of_decide_eq_true (by kernel_rfl)) k1 bel lt1) (trodAll_cons_mk (Below.trod laidOut (by kernel_rfl) (of_decide_eq_true (by kernel_rfl)) k2 bel lt2) trodAll_mk0))), vars_backs bel ["loop.example/g00601/impl.tierPaths", "loop.example/g00601/impl.tierWidths"] _ _ (by
    intro n hn
    simp only [List.mem_cons, List.not_mem_nil, or_false] at hn
    rcases hn with rfl | rfl
    · exact ⟨_, _, gTab, gTabType, Or.inl rfl, hz⟩
    · exact ⟨_, _, gWidA, gWidTypeA, Or.inr rfl, hz2⟩) hV1 (fun x hx => hlt x (List.mem_append_right _ hx)), bel.frame _, fun h => by cases h⟩

theorem laid_met (os : Os) : laidMet Tryz.prog Rows.fnExactAppendRecordRow.laid ((laidWorldD os).forCall (fun _ _ => 0) ⟨#[], #[.agg #[.slice none 0 0, .int .i64 0], .int .i64 0, .agg #[.int .i64 0, .int .i64 0, .int .i64 0, .int .i64 0, .int .i64 0, .string ByteArray.empty]], []⟩).memory :=
  laidMet_of_run' 8 (by kernel_rfl) (by kernel_rfl)

theorem reads (os : Os) {H : Type} (enc : TypeId × Value → H) : ∃ places, DataW.whole enc Tryz.prog ((laidWorldD os).forCall (fun _ _ => 0) ⟨#[], #[.agg #[.slice none 0 0, .int .i64 0], .int .i64 0, .agg #[.int .i64 0, .int .i64 0, .int .i64 0, .int .i64 0, .int .i64 0, .string ByteArray.empty]], []⟩).memory Tryz.f5.params.toList Rows.fnExactAppendRecordSpec.vars false (#[.agg #[.slice none 0 0, .int .i64 0], .int .i64 0, .agg #[.int .i64 0, .int .i64 0, .int .i64 0, .int .i64 0, .int .i64 0, .string ByteArray.empty]] : Array Value).toList 8 = some ([.agg [.nil, .lit (.int .i64 0)], .lit (.int .i64 0), .agg [.lit (.int .i64 0), .lit (.int .i64 0), .lit (.int .i64 0), .lit (.int .i64 0), .lit (.int .i64 0), .lit (.string [])]], [.agg (pl.map fun z => .lit (.string z)), Lib.tabData .i64 [1, 5, 20]], places) :=
  ⟨MemPlace.row ⟨1, 0, none⟩ 3 ++ MemPlace.row ⟨0, 0, none⟩ 3, by kernel_rfl⟩

set_option maxRecDepth 100000 in
theorem lifted (os : Os) (started : os.Started) (H : Type) (enc : TypeId × Value → H) (F : Stop.Interp) :
    ReturnsInHanded {} Tryz.checked os 5 .any ((OpenSpec.ofChange Rows.fnExactAppendRecordSpec).preRow enc Tryz.prog Tryz.f5 Rows.fnExactAppendRecordRow.domain false Rows.fnExactAppendRecordRow.laid) (((OpenSpec.ofChange Rows.fnExactAppendRecordSpec).at F).post enc Tryz.prog Tryz.f5 false true false false) := by
  obtain ⟨places, hx⟩ := reads os enc
  refine returnsInHanded_of_row (C := Tryz.checked) (s := OpenSpec.ofChange Rows.fnExactAppendRecordSpec) own started (by kernel_rfl) Tryz.func5
    (witness_row_at (enc := enc) (C := Tryz.checked) false (laidWorldD os) #[.agg #[.slice none 0 0, .int .i64 0], .int .i64 0, .agg #[.int .i64 0, .int .i64 0, .int .i64 0, .int .i64 0, .int .i64 0, .string ByteArray.empty]] rfl (by kernel_rfl) (by kernel_rfl) (by kernel_rfl)
      (OpenSpec.preRow_of_cond 8 hx (by kernel_rfl) (fun k hk => by cases hk) (by kernel_rfl) (laid_met os))) ?_
  intro W base args ds gs before hval hW _ _ _ hL _ _
  exact contract H enc W base args ds gs before hval hW hL

theorem said : Rows.FnExactAppendRecordSaid :=
  OpenClaim.holds_of_cond 5 Tryz.f5 rfl rfl rfl rfl rfl rfl rfl ⟨rfl, rfl, rfl, rfl, rfl⟩ rfl rfl rfl rfl rfl (by kernel_rfl) Tryz.func5 (by kernel_rfl)
    (of_decide_eq_true (by kernel_rfl)) (by unfold Func.isWrapper; first | (rw [if_pos (by decide +kernel)]; kernel_rfl) | (rw [if_neg (by decide +kernel)]; exact ⟨rfl, rfl⟩))
    (fun os started H enc _ F => by rw [OpenClaim.pre_eq_preRow]; exact lifted os started H enc F)

theorem plain (f : FuncId) (fn : Func) (hf : Tryz.pinned.checked.prog.funcNamed "loop.example/g00601/laws.FnExactAppendRecord" = some f) (hfn : Tryz.pinned.checked.prog.funcs[f]? = some fn) :
    true = Tryz.pinned.checked.prog.looks [] ∧ ∀ (j : Nat) t, fn.params[j]? = some t → Tryz.pinned.checked.prog.wantsStandIn t = false := by
  obtain rfl : f = 5 := Option.some.inj ((show Tryz.prog.funcNamed "loop.example/g00601/laws.FnExactAppendRecord" = some 5 by kernel_rfl).symm.trans hf) |>.symm
  obtain rfl : fn = Tryz.f5 := (Option.some.inj (Tryz.func5.symm.trans hfn)).symm
  refine ⟨by kernel_rfl, fun j t ht => ?_⟩
  rw [Tryz.params5] at ht
  have hm := Array.mem_of_getElem? ht
  simp at hm
  rcases hm with rfl | rfl | rfl
  · exact (show Tryz.prog.wantsStandIn 45 = false by kernel_rfl)
  · exact (show Tryz.prog.wantsStandIn 3 = false by kernel_rfl)
  · exact (show Tryz.prog.wantsStandIn 28 = false by kernel_rfl)

theorem proved : Rows.FnExactAppendRecordCardSaid :=
  Claim7.holds_tied_plain_at .later [] _ _ _ _ said (fun _ h => by cases h) (by kernel_rfl) (fun _ h => by cases h) fnExactAppendRecord_row_tie rfl ⟨rfl, rfl⟩ (by kernel_rfl) rfl plain (by kernel_rfl)
#print axioms proved
end Go.Proofs.YthmpmagajbmpaaaGreatDoor.fnExactAppendRecord
