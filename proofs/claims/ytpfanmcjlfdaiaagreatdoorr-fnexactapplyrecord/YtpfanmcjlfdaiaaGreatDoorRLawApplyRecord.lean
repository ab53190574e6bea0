/-
  'laws.FnExactApplyRecord' answers true at every input: ApplyRecord answers as its model does, writes into no argument, and answers memory of its own. Conditions: the library's tables hold what its text lays there (tied by the card).
-/
import Derived.Test.YtpfanmcjlfdaiaaGreatDoorRTk
import Derived.Test.YtpfanmcjlfdaiaaGreatDoorRN14
import Derived.Test.YtpfanmcjlfdaiaaGreatDoorRN16
import Derived.Deep.RegionHeld3
import Derived.Deep.DeepCutAuto
import Derived.Test.YtpfanmcjlfdaiaaGreatDoorROpenStt
import Derived.Test.YtpfanmcjlfdaiaaGreatDoorRCards
import Derived.Test.YtpfanmcjlfdaiaaGreatDoorRTie
import Derived.ProofKit
import Derived.OpenShut
import Derived.Deep.DeepHandedRow
import Derived.Lib.LaidTab
import Derived.Outline
import Derived.ShutString
namespace Go.Proofs.YtpfanmcjlfdaiaaGreatDoorR.fnExactApplyRecord
open Go.ChangeShapes Go.WideShapes Go.ChangeAt Go.RowKit
set_option linter.unusedVariables false

set_option maxRecDepth 100000 in
set_option maxHeartbeats 8000000 in
theorem walk (A : Option Addr) (c : Nat) (A2 : Option Addr) (c2 : Nat) (s : GSt) (r : GRec) (w : World) (h : StAt w w.heap.size A A2 s) (hf : s.fit) (hr : r.fit) (hp : Paths w) (hz : 1 < w.heap.size) (hw : Tab3 0 wid w) (hz2 : 0 < w.heap.size) :
    Calls Tryz.prog 3 #[.agg #[.int .i64 s.sq, .int .i64 s.fe, .slice A s.ents.length c, .slice A2 s.tmbs.length c2, .int .i64 s.lo.a, .int .i64 s.lo.b, .int .i64 s.lo.c, .int .i64 s.hi.a, .int .i64 s.hi.b, .int .i64 s.hi.c], .agg #[.int .i64 r.kind, .int .i64 r.tok, .int .i64 r.tier, .int .i64 r.beg, .int .i64 r.fin, .string r.key]] w fun e w' => e = .returned (.bool true) ∧ Below w.heap.size w w' := by
  have H := Lib.hid h; clear h
  have Hf := Lib.hid hf; clear hf
  have Hr := Lib.hid hr; clear hr
  have HP : Hid (∀ w', Below w.heap.size w w' → Paths w' ∧ 1 < w'.heap.size ∧ Tab3 0 wid w' ∧ 0 < w'.heap.size) := Lib.hid (fun w' h => ⟨hp.below h hz, Nat.lt_of_lt_of_le hz h.size, hw.below h hz2, Nat.lt_of_lt_of_le hz2 h.size⟩)
  clear hp hw hz hz2
  go_enter Tryz.func3, Tryz.ntmps3
  go_wp2_with fail
  obtain ⟨w0, hw0⟩ : ∃ w0, w0 = (w.alloc (.cells #[.int .i64 s.sq, .int .i64 s.fe, .slice A s.ents.length c, .slice A2 s.tmbs.length c2, .int .i64 s.lo.a, .int .i64 s.lo.b, .int .i64 s.lo.c, .int .i64 s.hi.a, .int .i64 s.hi.b, .int .i64 s.hi.c] 26)).alloc (.cells #[.int .i64 r.kind, .int .i64 r.tok, .int .i64 r.tier, .int .i64 r.beg, .int .i64 r.fin, .string r.key] 28) := ⟨_, rfl⟩
  have T0 : Hid (Cells w0 w.heap.size 0 [.int .i64 s.sq, .int .i64 s.fe, .slice A s.ents.length c, .slice A2 s.tmbs.length c2, .int .i64 s.lo.a, .int .i64 s.lo.b, .int .i64 s.lo.c, .int .i64 s.hi.a, .int .i64 s.hi.b, .int .i64 s.hi.c]) := Lib.hid (by rw [hw0]; exact (Cells.new w _ _).below (bal (Below.refl _ _) _) (by simp))
  have R0 : Hid (Cells w0 (w.heap.size + 1) 0 [.int .i64 r.kind, .int .i64 r.tok, .int .i64 r.tier, .int .i64 r.beg, .int .i64 r.fin, .string r.key]) := Lib.hid (by rw [hw0]; have := Cells.new (w.alloc (.cells #[.int .i64 s.sq, .int .i64 s.fe, .slice A s.ents.length c, .slice A2 s.tmbs.length c2, .int .i64 s.lo.a, .int .i64 s.lo.b, .int .i64 s.lo.c, .int .i64 s.hi.a, .int .i64 s.hi.b, .int .i64 s.hi.c] 26)) [.int .i64 r.kind, .int .i64 r.tok, .int .i64 r.tier, .int .i64 r.beg, .int .i64 r.fin, .string r.key] 28; simpa using this)
  have b0 : Below w.heap.size w w0 := by rw [hw0]; exact bal (bal (Below.refl _ _) _) _
  have s0 : w.heap.size + 1 < w0.heap.size := by rw [hw0]; simp
  rw [← hw0]
  clear hw0
  generalize hx0 : w.heap.size = x0 at *
  have Hx0 := Lib.hid hx0; clear hx0
  have HS : Hid (∀ w', Below x0 w w' → StAt w' x0 A A2 s) := Lib.hid fun w' hb => (H.out.below hb (by have := Hx0.out; omega)).more (by have := Hx0.out; omega)
  clear H
  refine (szState_any A c A2 c2 s 1048576 x0 w0 (HS.out _ b0) (by omega) Hf.out.2.2.2.2.1 Hf.out.2.2.2.2.2.1 Hf.out.2.2.2.2.2.2.1 Hf.out.2.2.2.2.2.2.2 (by omega) (by omega)).mono ?_
  rintro e w1 ⟨v, hv, hv1, hv2, rfl, hb1⟩
  have Hv := Lib.hid hv; clear hv
  have b1 : Below x0 w w1 := b0.trans (hb1.mono (by omega))
  by_cases hneg : v < 0
  · have d : decide (v < 0) = true := by simpa using hneg
    go_wp2
    go_ret
    exact ⟨rfl, by rw [Hx0.out]; exact b1⟩
  have d : decide (v < 0) = false := by simpa using hneg
  have hlen : s.ents.length ≤ 1048576 := (Hv.out (by omega)).1.1.1
  have hlen2 : s.tmbs.length ≤ 1048576 := (Hv.out (by omega)).1.2.1
  have HSE := Lib.hid (Hv.out (by omega)).1.1.2
  have HST := Lib.hid (Hv.out (by omega)).1.2.2
  have HFE := Lib.hid Hf.out.2.2.2.2.1
  have HFT := Lib.hid Hf.out.2.2.2.2.2.1
  clear Hv Hf
  have T1 := Lib.hid (T0.out.below hb1 (by omega))
  have R1 := Lib.hid (R0.out.below hb1 (by omega))
  have s1 : x0 + 1 < w1.heap.size := by have := hb1.size; omega
  clear T0 R0 hb1 b0 s0
  obtain ⟨u0, u1, u2, u3, u4, u5⟩ := (show RecAt w1 (x0 + 1) r from R1.out).cells
  go_wp2_with fail
  refine (szRecord_any r v w1 Hr.out.2.2.2.2.2 (by omega) (by omega)).mono ?_
  rintro e w2 ⟨v', hv', hv1', hv2', rfl, hb2⟩
  have Hv := Lib.hid hv'; clear hv'
  have b2 : Below x0 w w2 := b1.trans (hb2.mono (by omega))
  by_cases hneg2 : v' < 0
  · have d2 : decide (v' < 0) = true := by simpa using hneg2
    go_wp2
    go_ret
    exact ⟨rfl, by rw [Hx0.out]; exact b2⟩
  have d2 : decide (v' < 0) = false := by simpa using hneg2
  have hsm : r.key.size ≤ 1048576 := (Hv.out (by omega)).1
  clear Hv Hr
  have T2 := Lib.hid (T1.out.below hb2 (by omega))
  have R2 := Lib.hid (R1.out.below hb2 (by omega))
  have s2 : x0 + 1 < w2.heap.size := by have := hb2.size; omega
  clear T1 R1 hb2 b1 s1 hv1 hv2 hv1' hv2' u0 u1 u2 u3 u4 u5
  obtain ⟨LR, hLR⟩ : ∃ L : List Value, L = [.int .i64 r.kind, .int .i64 r.tok, .int .i64 r.tier, .int .i64 r.beg, .int .i64 r.fin, .string r.key] := ⟨_, rfl⟩
  obtain ⟨LT, hLT⟩ : ∃ L : List Value, L = [.int .i64 s.sq, .int .i64 s.fe, .slice A s.ents.length c, .slice A2 s.tmbs.length c2, .int .i64 s.lo.a, .int .i64 s.lo.b, .int .i64 s.lo.c, .int .i64 s.hi.a, .int .i64 s.hi.b, .int .i64 s.hi.c] := ⟨_, rfl⟩
  have HNR : Hid (LR.length = 6) := Lib.hid (by rw [hLR]; rfl)
  have HNT : Hid (LT.length = 10) := Lib.hid (by rw [hLT]; rfl)
  have ER : Hid (Value.agg LR.toArray = .agg #[.int .i64 r.kind, .int .i64 r.tok, .int .i64 r.tier, .int .i64 r.beg, .int .i64 r.fin, .string r.key]) := Lib.hid (by rw [hLR])
  have ET : Hid (Value.agg LT.toArray = .agg #[.int .i64 s.sq, .int .i64 s.fe, .slice A s.ents.length c, .slice A2 s.tmbs.length c2, .int .i64 s.lo.a, .int .i64 s.lo.b, .int .i64 s.lo.c, .int .i64 s.hi.a, .int .i64 s.hi.b, .int .i64 s.hi.c]) := Lib.hid (by rw [hLT])
  have HLR := Lib.hid hLR; have HLT := Lib.hid hLT; clear hLR hLT
  have CT : Hid (Cells w2 x0 0 LT) := Lib.hid (by rw [HLT.out]; exact T2.out)
  have slT : x0 < w2.heap.size := by omega
  have CR : Hid (Cells w2 (x0 + 1) 0 LR) := Lib.hid (by rw [HLR.out]; exact R2.out)
  have slR : (x0 + 1) < w2.heap.size := by omega
  have hbd : Below w2.heap.size w2 w2.drew := (Below.refl _ _).drew
  go_upto_region 8 with fail
  go_cut [6, 7, 8] (fun p q z wx => ∃ (nb : Nat) (A' : Option Addr) (c' : Nat) (B' : Option Addr) (d' : Nat) (x : GSt) (b : Bool) (zz : Int), p = .pointer (some ⟨nb, 0, none⟩) ∧ q = .bool b ∧ z = .int .i64 zz ∧ Hid (AplVal s r x b zz) ∧ Hid (AnsC w2 wx nb A' c' B' d' x))
  case first =>
    refine wp_region_noPanic ?_
    refine wp_region_held_drew (S := fun w' => w'.rangeAt x0 0 LT ∧ w'.rangeAt (x0 + 1) 0 LR) (by kernel_rfl) (by exact ⟨rngC CT.out hbd slT, rngC CR.out hbd slR⟩) (fun hHeld => ?_)
    generalize hVd : w2.drew = y0 at hHeld hbd ⊢
    clear hVd
    refine' wpAnyH_take (i := 0) (oi := { dst := some 30, op := Op.load 26 (Operand.tmp 2), type := 26, pos := "exact.go:3038", after := #[], guard := none }) (v := _) rfl (by kernel_rfl) (by kernel_rfl) (by kernel_rfl) (fun _ _ _ h => h) (yieldsIf_load_mid (by rfl) _ _ rfl _ _ rfl LT _ ?hSq8_0 ?huq8_0 ?hdq8_0 ?hiq8_0) (by assumption) ?restq8_0
    case hSq8_0 => exact fun w hSw => hSw.1
    case huq8_0 => exact Tryz.underlying26
    case hdq8_0 => rfl
    case hiq8_0 => exact infoLS.trans (by rw [HNT.out])
    try simp only [Act.put, List.setIfInBounds_toArray, List.set_cons_zero, List.set_cons_succ]
    refine' wpAnyH_take (i := 2) (oi := { dst := some 32, op := Op.load 28 (Operand.tmp 3), type := 28, pos := "exact.go:3038", after := #[], guard := none }) (v := _) rfl (by kernel_rfl) (by kernel_rfl) (by kernel_rfl) (fun _ _ _ h => h) (yieldsIf_load_mid (by rfl) _ _ rfl _ _ rfl LR _ ?hSq8_2 ?huq8_2 ?hdq8_2 ?hiq8_2) (by assumption) ?restq8_2
    case hSq8_2 => exact fun w hSw => hSw.2
    case huq8_2 => exact Tryz.underlying28
    case hdq8_2 => rfl
    case hiq8_2 => exact infoLR.trans (by rw [HNR.out])
    try simp only [Act.put, List.setIfInBounds_toArray, List.set_cons_zero, List.set_cons_succ]
    refine wpAnyH_ready (rs := [1, 9]) (by kernel_rfl) (by simp) ?_
    refine AllReadyH.cons (o := { dst := some 31, op := Op.call { callee := Callee.value (Operand.func 8), args := #[Operand.tmp 30], argTypes := #[26] }, type := 34, pos := "exact.go:3038", after := #[{ on := 0, ground := Ground.data }], guard := none }) rfl (fun K hK => ?_) (AllReadyH.cons (o := { dst := some 6, op := Op.alloc 34, type := 0, pos := "exact.go:3038", after := #[], guard := none }) rfl (fun K hK => ?_) AllReadyH.nil)
    · go_simp
      have hqz : Calls Tryz.prog 8 #[.agg LT.toArray] y0 (NewStt s y0) := by rw [ET.out]; exact toState_any A c A2 c2 s x0 y0 (HS.out _ (b2.trans (hbd.mono (by omega)))) (by have := hbd.size; omega) hlen hlen2
      refine hqz.mono ?_
      rintro q y1 ⟨A3, c3, B3, d3, rfl, ho3, _, _, _, hbn⟩
      clear hqz
      have HO := Lib.hid ho3; clear ho3
      have hy1 : Below w2.heap.size w2 y1 := hbd.trans (hbn.mono hbd.size)
      refine hK.out _ _ (by exact ⟨rngC CT.out hy1 slT, rngC CR.out hy1 slR⟩) (fun hHeld => ?_)
      clear hK K
      try simp only [Act.put, List.setIfInBounds_toArray, List.set_cons_zero, List.set_cons_succ]
      clear hbn
      refine wpAnyH_ready (rs := [3, 9]) (by kernel_rfl) (by simp) ?_
      refine AllReadyH.cons (o := { dst := some 33, op := Op.call { callee := Callee.value (Operand.func 9), args := #[Operand.tmp 32], argTypes := #[28] }, type := 38, pos := "exact.go:3038", after := #[{ on := 2, ground := Ground.data }, { on := 1, ground := Ground.chain }], guard := none }) rfl (fun K hK => ?_) (AllReadyH.cons (o := { dst := some 6, op := Op.alloc 34, type := 0, pos := "exact.go:3038", after := #[], guard := none }) rfl (fun K hK => ?_) AllReadyH.nil)
      · go_simp
        have hqr : Calls Tryz.prog 9 #[.agg LR.toArray] y1 (fun e w' => e = .returned (.agg LR.toArray) ∧ Below y1.heap.size y1 w') := by rw [ER.out]; exact toRecord_any r y1
        refine hqr.mono ?_
        rintro q y2 ⟨rfl, hbn⟩
        clear hqr
        have HO := Lib.hid ((HO.out.below hbn (Nat.le_refl _)).more hbn.size)
        have hy2 : Below w2.heap.size w2 y2 := hy1.trans (hbn.mono hy1.size)
        refine hK.out _ _ (by exact ⟨rngC CT.out hy2 slT, rngC CR.out hy2 slR⟩) (fun hHeld => ?_)
        clear hK K
        try simp only [Act.put, List.setIfInBounds_toArray, List.set_cons_zero, List.set_cons_succ]
        clear hbn
        refine wpAnyH_ready (rs := [4, 9]) (by kernel_rfl) (by simp) ?_
        refine AllReadyH.cons (o := { dst := some 34, op := Op.call { callee := Callee.value (Operand.func 7), args := #[Operand.tmp 31, Operand.tmp 33], argTypes := #[34, 38] }, type := 35, pos := "exact.go:3038", after := #[{ on := 1, ground := Ground.data }, { on := 3, ground := Ground.data }, { on := 3, ground := Ground.chain }], guard := none }) rfl (fun K hK => ?_) (AllReadyH.cons (o := { dst := some 6, op := Op.alloc 34, type := 0, pos := "exact.go:3038", after := #[], guard := none }) rfl (fun K hK => ?_) AllReadyH.nil)
        · go_simp
          have hqa : Calls Tryz.prog 7 #[.agg #[.int .i64 s.sq, .int .i64 s.fe, .slice A3 s.ents.length c3, .slice B3 s.tmbs.length d3, .int .i64 s.lo.a, .int .i64 s.lo.b, .int .i64 s.lo.c, .int .i64 s.hi.a, .int .i64 s.hi.b, .int .i64 s.hi.c], .agg LR.toArray] y2 (AplAns s r y2) := by rw [ER.out]; exact specApplyRecord_any A3 c3 B3 d3 s r y2.heap.size y2 HO.out (Nat.le_refl _) HSE.out HST.out hlen hlen2 hsm
          refine hqa.mono ?_
          rintro q y3 ⟨x, bq, zz, A5, c5, B5, d5, hv5, rfl, hs5, ho5, _, _, hbn⟩
          clear hqa
          have HV := Lib.hid hv5; have HA := Lib.hid hs5; clear hv5 hs5
          have HW : Hid (StOwn w2.heap.size y3 A5 B5) := Lib.hid (own_more ho5 hy2.size)
          have HBL : Hid ((∀ b, blk A5 = some b → b < y3.heap.size) ∧ ∀ b, blk B5 = some b → b < y3.heap.size) := Lib.hid ⟨fun b e => (ho5.2.2.1 b e).2, fun b e => (ho5.2.2.2.1 b e).2⟩
          clear ho5
          have hy3 : Below w2.heap.size w2 y3 := hy2.trans (hbn.mono hy2.size)
          refine hK.out _ _ (by exact ⟨rngC CT.out hy3 slT, rngC CR.out hy3 slR⟩) (fun hHeld => ?_)
          clear hK K
          try simp only [Act.put, List.setIfInBounds_toArray, List.set_cons_zero, List.set_cons_succ]
          clear hbn
          refine kT 5 ?_
          go_frame
          refine kT 6 ?_
          go_frame
          refine kT 7 ?_
          go_frame
          refine kT 8 ?_
          go_frame
          refine wpAnyH_ready (rs := [9]) (by kernel_rfl) (by simp) ?_
          refine AllReadyH.cons (o := { dst := some 6, op := Op.alloc 34, type := 0, pos := "exact.go:3038", after := #[], guard := none }) rfl (fun K hK => ?_) AllReadyH.nil
          go_simp
          have hy4 : Below w2.heap.size w2 (y3.alloc (.cells #[.int .i64 0, .int .i64 0, .slice none 0 0, .slice none 0 0, .int .i64 0, .int .i64 0, .int .i64 0, .int .i64 0, .int .i64 0, .int .i64 0] 34)) := hy3.alloc hy3.size _
          refine hK.out _ _ (by exact ⟨rngC CT.out hy4 slT, rngC CR.out hy4 slR⟩) (fun hHeld => ?_)
          clear hK K
          try simp only [Act.put, List.setIfInBounds_toArray, List.set_cons_zero, List.set_cons_succ]
          have ZC := Lib.hid (Cells.new y3 [.int .i64 0, .int .i64 0, .slice none 0 0, .slice none 0 0, .int .i64 0, .int .i64 0, .int .i64 0, .int .i64 0, .int .i64 0, .int .i64 0] 34)
          have ZF : Hid (∀ i, (y3.alloc (.cells #[.int .i64 0, .int .i64 0, .slice none 0 0, .slice none 0 0, .int .i64 0, .int .i64 0, .int .i64 0, .int .i64 0, .int .i64 0, .int .i64 0] 34)).frozen? ⟨y3.heap.size, i, none⟩ = false) := Lib.hid (fun i => by simp [go_sem])
          have zn1 : w2.heap.size ≤ y3.heap.size := hy3.size
          have zn2 : y3.heap.size < (y3.alloc (.cells #[.int .i64 0, .int .i64 0, .slice none 0 0, .slice none 0 0, .int .i64 0, .int .i64 0, .int .i64 0, .int .i64 0, .int .i64 0, .int .i64 0] 34)).heap.size := by simp
          have zk : Below y3.heap.size y3 (y3.alloc (.cells #[.int .i64 0, .int .i64 0, .slice none 0 0, .slice none 0 0, .int .i64 0, .int .i64 0, .int .i64 0, .int .i64 0, .int .i64 0, .int .i64 0] 34)) := bal (Below.refl _ _) _
          have HA := Lib.hid ((HA.out.below zk (Nat.le_refl _)).more zk.size)
          have HW := Lib.hid (HW.out.below zk (Nat.le_refl _))
          clear zk
          obtain ⟨zb, hzb⟩ : ∃ z, z = y3.heap.size := ⟨_, rfl⟩
          have nz1 : Hid (blk A5 ≠ some zb) := Lib.hid (fun e => by have := HBL.out.1 _ e; omega)
          have nz2 : Hid (blk B5 ≠ some zb) := Lib.hid (fun e => by have := HBL.out.2 _ e; omega)
          rw [← hzb] at ZC ZF zn1 zn2 ⊢
          generalize y3.alloc (.cells #[.int .i64 0, .int .i64 0, .slice none 0 0, .slice none 0 0, .int .i64 0, .int .i64 0, .int .i64 0, .int .i64 0, .int .i64 0, .int .i64 0] 34) = y4 at *
          clear hzb
          obtain ⟨z0, z1, z2, z3, z4, z5, z6, z7, z8, z9⟩ := ZC.out.ten
          have yf0 := ZF.out 0
          have yf1 := ZF.out 1
          have yf2 := ZF.out 2
          have yf3 := ZF.out 3
          have yf4 := ZF.out 4
          have yf5 := ZF.out 5
          have yf6 := ZF.out 6
          have yf7 := ZF.out 7
          have yf8 := ZF.out 8
          have yf9 := ZF.out 9
          have FINA : Hid (AnsC w2 ((((((((((y4.setCell ⟨zb, 0, none⟩ (.int .i64 x.sq)).setCell ⟨zb, 1, none⟩ (.int .i64 x.fe)).setCell ⟨zb, 2, none⟩ (.slice A5 x.ents.length c5)).setCell ⟨zb, 3, none⟩ (.slice B5 x.tmbs.length d5)).setCell ⟨zb, 4, none⟩ (.int .i64 x.lo.a)).setCell ⟨zb, 5, none⟩ (.int .i64 x.lo.b)).setCell ⟨zb, 6, none⟩ (.int .i64 x.lo.c)).setCell ⟨zb, 7, none⟩ (.int .i64 x.hi.a)).setCell ⟨zb, 8, none⟩ (.int .i64 x.hi.b)).setCell ⟨zb, 9, none⟩ (.int .i64 x.hi.c)) zb A5 c5 B5 d5 x) := Lib.hid (ansC_set rfl hy4 zn1 zn2 ZC.out HA.out HW.out nz1.out nz2.out)
          refine wpAnyH_ready (rs := [10]) (by kernel_rfl) (by simp) ?_
          refine AllReadyH.cons (o := { dst := none, op := Op.store 34 (Operand.tmp 6) (Operand.tmp 35), type := 0, pos := "exact.go:3038", after := #[{ on := 9, ground := Ground.data }, { on := 6, ground := Ground.data }, { on := 4, ground := Ground.chain }, { on := 0, ground := Ground.phase }, { on := 1, ground := Ground.phase }, { on := 2, ground := Ground.phase }, { on := 3, ground := Ground.phase }, { on := 4, ground := Ground.phase }, { on := 5, ground := Ground.phase }, { on := 6, ground := Ground.phase }, { on := 7, ground := Ground.textOnly Departure.lateStores }, { on := 8, ground := Ground.textOnly Departure.lateStores }, { on := 9, ground := Ground.phase }], guard := none }) rfl (fun K hK => ?_) AllReadyH.nil
          go_simp
          refine hK.out _ _ (by exact ⟨rngC CT.out FINA.out.be slT, rngC CR.out FINA.out.be slR⟩) (fun hHeld => ?_)
          clear hK K
          try simp only [Act.put, List.setIfInBounds_toArray, List.set_cons_zero, List.set_cons_succ]
          refine kT 11 ?_
          go_frame
          refine kT 12 ?_
          go_frame
          refine wpAnyH_done (by kernel_rfl) ?_ _
          refine NoPanic.normal ?_
          clear hHeld
          go_wp2_with fail
          go_meet
          exact ⟨zb, A5, c5, B5, d5, x, bq, zz, rfl, rfl, rfl, HV, FINA⟩
        · go_simp
          have hy3 : Below w2.heap.size w2 (y2.alloc (.cells #[.int .i64 0, .int .i64 0, .slice none 0 0, .slice none 0 0, .int .i64 0, .int .i64 0, .int .i64 0, .int .i64 0, .int .i64 0, .int .i64 0] 34)) := hy2.alloc hy2.size _
          refine hK.out _ _ (by exact ⟨rngC CT.out hy3 slT, rngC CR.out hy3 slR⟩) (fun hHeld => ?_)
          clear hK K
          try simp only [Act.put, List.setIfInBounds_toArray, List.set_cons_zero, List.set_cons_succ]
          have ZC := Lib.hid (Cells.new y2 [.int .i64 0, .int .i64 0, .slice none 0 0, .slice none 0 0, .int .i64 0, .int .i64 0, .int .i64 0, .int .i64 0, .int .i64 0, .int .i64 0] 34)
          have ZF : Hid (∀ i, (y2.alloc (.cells #[.int .i64 0, .int .i64 0, .slice none 0 0, .slice none 0 0, .int .i64 0, .int .i64 0, .int .i64 0, .int .i64 0, .int .i64 0, .int .i64 0] 34)).frozen? ⟨y2.heap.size, i, none⟩ = false) := Lib.hid (fun i => by simp [go_sem])
          have zn1 : w2.heap.size ≤ y2.heap.size := hy2.size
          have zn2 : y2.heap.size < (y2.alloc (.cells #[.int .i64 0, .int .i64 0, .slice none 0 0, .slice none 0 0, .int .i64 0, .int .i64 0, .int .i64 0, .int .i64 0, .int .i64 0, .int .i64 0] 34)).heap.size := by simp
          have zk : Below y2.heap.size y2 (y2.alloc (.cells #[.int .i64 0, .int .i64 0, .slice none 0 0, .slice none 0 0, .int .i64 0, .int .i64 0, .int .i64 0, .int .i64 0, .int .i64 0, .int .i64 0] 34)) := bal (Below.refl _ _) _
          have HO := Lib.hid ((HO.out.below zk (Nat.le_refl _)).more zk.size)
          clear zk
          obtain ⟨zb, hzb⟩ : ∃ z, z = y2.heap.size := ⟨_, rfl⟩
          rw [← hzb] at ZC ZF zn1 zn2 ⊢
          generalize y2.alloc (.cells #[.int .i64 0, .int .i64 0, .slice none 0 0, .slice none 0 0, .int .i64 0, .int .i64 0, .int .i64 0, .int .i64 0, .int .i64 0, .int .i64 0] 34) = y3 at *
          clear hzb
          refine wpAnyH_ready (rs := [4]) (by kernel_rfl) (by simp) ?_
          refine AllReadyH.cons (o := { dst := some 34, op := Op.call { callee := Callee.value (Operand.func 7), args := #[Operand.tmp 31, Operand.tmp 33], argTypes := #[34, 38] }, type := 35, pos := "exact.go:3038", after := #[{ on := 1, ground := Ground.data }, { on := 3, ground := Ground.data }, { on := 3, ground := Ground.chain }], guard := none }) rfl (fun K hK => ?_) AllReadyH.nil
          go_simp
          have hqa : Calls Tryz.prog 7 #[.agg #[.int .i64 s.sq, .int .i64 s.fe, .slice A3 s.ents.length c3, .slice B3 s.tmbs.length d3, .int .i64 s.lo.a, .int .i64 s.lo.b, .int .i64 s.lo.c, .int .i64 s.hi.a, .int .i64 s.hi.b, .int .i64 s.hi.c], .agg LR.toArray] y3 (AplAns s r y3) := by rw [ER.out]; exact specApplyRecord_any A3 c3 B3 d3 s r y3.heap.size y3 HO.out (Nat.le_refl _) HSE.out HST.out hlen hlen2 hsm
          refine hqa.mono ?_
          rintro q y4 ⟨x, bq, zz, A5, c5, B5, d5, hv5, rfl, hs5, ho5, _, _, hbn⟩
          clear hqa
          have HV := Lib.hid hv5; have HA := Lib.hid hs5; clear hv5 hs5
          have HW : Hid (StOwn w2.heap.size y4 A5 B5) := Lib.hid (own_more ho5 hy3.size)
          have HBL : Hid ((∀ b, blk A5 = some b → b < y4.heap.size) ∧ ∀ b, blk B5 = some b → b < y4.heap.size) := Lib.hid ⟨fun b e => (ho5.2.2.1 b e).2, fun b e => (ho5.2.2.2.1 b e).2⟩
          have nz1 : Hid (blk A5 ≠ some zb) := Lib.hid (fun e => by have := (ho5.2.2.1 _ e).1; omega)
          have nz2 : Hid (blk B5 ≠ some zb) := Lib.hid (fun e => by have := (ho5.2.2.2.1 _ e).1; omega)
          clear ho5
          have hy4 : Below w2.heap.size w2 y4 := hy3.trans (hbn.mono hy3.size)
          refine hK.out _ _ (by exact ⟨rngC CT.out hy4 slT, rngC CR.out hy4 slR⟩) (fun hHeld => ?_)
          clear hK K
          try simp only [Act.put, List.setIfInBounds_toArray, List.set_cons_zero, List.set_cons_succ]
          have ZC := Lib.hid (ZC.out.below hbn zn2)
          have ZF : Hid (∀ i, y4.frozen? ⟨zb, i, none⟩ = false) := Lib.hid (fun i => (hbn.frozen (p := ⟨zb, i, none⟩) zn2).trans (ZF.out i))
          have zn2 : zb < y4.heap.size := Nat.lt_of_lt_of_le zn2 hbn.size
          clear hbn
          refine kT 5 ?_
          go_frame
          refine kT 6 ?_
          go_frame
          refine kT 7 ?_
          go_frame
          refine kT 8 ?_
          go_frame
          obtain ⟨z0, z1, z2, z3, z4, z5, z6, z7, z8, z9⟩ := ZC.out.ten
          have yf0 := ZF.out 0
          have yf1 := ZF.out 1
          have yf2 := ZF.out 2
          have yf3 := ZF.out 3
          have yf4 := ZF.out 4
          have yf5 := ZF.out 5
          have yf6 := ZF.out 6
          have yf7 := ZF.out 7
          have yf8 := ZF.out 8
          have yf9 := ZF.out 9
          have FINA : Hid (AnsC w2 ((((((((((y4.setCell ⟨zb, 0, none⟩ (.int .i64 x.sq)).setCell ⟨zb, 1, none⟩ (.int .i64 x.fe)).setCell ⟨zb, 2, none⟩ (.slice A5 x.ents.length c5)).setCell ⟨zb, 3, none⟩ (.slice B5 x.tmbs.length d5)).setCell ⟨zb, 4, none⟩ (.int .i64 x.lo.a)).setCell ⟨zb, 5, none⟩ (.int .i64 x.lo.b)).setCell ⟨zb, 6, none⟩ (.int .i64 x.lo.c)).setCell ⟨zb, 7, none⟩ (.int .i64 x.hi.a)).setCell ⟨zb, 8, none⟩ (.int .i64 x.hi.b)).setCell ⟨zb, 9, none⟩ (.int .i64 x.hi.c)) zb A5 c5 B5 d5 x) := Lib.hid (ansC_set rfl hy4 zn1 zn2 ZC.out HA.out HW.out nz1.out nz2.out)
          refine wpAnyH_ready (rs := [10]) (by kernel_rfl) (by simp) ?_
          refine AllReadyH.cons (o := { dst := none, op := Op.store 34 (Operand.tmp 6) (Operand.tmp 35), type := 0, pos := "exact.go:3038", after := #[{ on := 9, ground := Ground.data }, { on := 6, ground := Ground.data }, { on := 4, ground := Ground.chain }, { on := 0, ground := Ground.phase }, { on := 1, ground := Ground.phase }, { on := 2, ground := Ground.phase }, { on := 3, ground := Ground.phase }, { on := 4, ground := Ground.phase }, { on := 5, ground := Ground.phase }, { on := 6, ground := Ground.phase }, { on := 7, ground := Ground.textOnly Departure.lateStores }, { on := 8, ground := Ground.textOnly Departure.lateStores }, { on := 9, ground := Ground.phase }], guard := none }) rfl (fun K hK => ?_) AllReadyH.nil
          go_simp
          refine hK.out _ _ (by exact ⟨rngC CT.out FINA.out.be slT, rngC CR.out FINA.out.be slR⟩) (fun hHeld => ?_)
          clear hK K
          try simp only [Act.put, List.setIfInBounds_toArray, List.set_cons_zero, List.set_cons_succ]
          refine kT 11 ?_
          go_frame
          refine kT 12 ?_
          go_frame
          refine wpAnyH_done (by kernel_rfl) ?_ _
          refine NoPanic.normal ?_
          clear hHeld
          go_wp2_with fail
          go_meet
          exact ⟨zb, A5, c5, B5, d5, x, bq, zz, rfl, rfl, rfl, HV, FINA⟩
      · go_simp
        have hy2 : Below w2.heap.size w2 (y1.alloc (.cells #[.int .i64 0, .int .i64 0, .slice none 0 0, .slice none 0 0, .int .i64 0, .int .i64 0, .int .i64 0, .int .i64 0, .int .i64 0, .int .i64 0] 34)) := hy1.alloc hy1.size _
        refine hK.out _ _ (by exact ⟨rngC CT.out hy2 slT, rngC CR.out hy2 slR⟩) (fun hHeld => ?_)
        clear hK K
        try simp only [Act.put, List.setIfInBounds_toArray, List.set_cons_zero, List.set_cons_succ]
        have ZC := Lib.hid (Cells.new y1 [.int .i64 0, .int .i64 0, .slice none 0 0, .slice none 0 0, .int .i64 0, .int .i64 0, .int .i64 0, .int .i64 0, .int .i64 0, .int .i64 0] 34)
        have ZF : Hid (∀ i, (y1.alloc (.cells #[.int .i64 0, .int .i64 0, .slice none 0 0, .slice none 0 0, .int .i64 0, .int .i64 0, .int .i64 0, .int .i64 0, .int .i64 0, .int .i64 0] 34)).frozen? ⟨y1.heap.size, i, none⟩ = false) := Lib.hid (fun i => by simp [go_sem])
        have zn1 : w2.heap.size ≤ y1.heap.size := hy1.size
        have zn2 : y1.heap.size < (y1.alloc (.cells #[.int .i64 0, .int .i64 0, .slice none 0 0, .slice none 0 0, .int .i64 0, .int .i64 0, .int .i64 0, .int .i64 0, .int .i64 0, .int .i64 0] 34)).heap.size := by simp
        have zk : Below y1.heap.size y1 (y1.alloc (.cells #[.int .i64 0, .int .i64 0, .slice none 0 0, .slice none 0 0, .int .i64 0, .int .i64 0, .int .i64 0, .int .i64 0, .int .i64 0, .int .i64 0] 34)) := bal (Below.refl _ _) _
        have HO := Lib.hid ((HO.out.below zk (Nat.le_refl _)).more zk.size)
        clear zk
        obtain ⟨zb, hzb⟩ : ∃ z, z = y1.heap.size := ⟨_, rfl⟩
        rw [← hzb] at ZC ZF zn1 zn2 ⊢
        generalize y1.alloc (.cells #[.int .i64 0, .int .i64 0, .slice none 0 0, .slice none 0 0, .int .i64 0, .int .i64 0, .int .i64 0, .int .i64 0, .int .i64 0, .int .i64 0] 34) = y2 at *
        clear hzb
        refine wpAnyH_ready (rs := [3]) (by kernel_rfl) (by simp) ?_
        refine AllReadyH.cons (o := { dst := some 33, op := Op.call { callee := Callee.value (Operand.func 9), args := #[Operand.tmp 32], argTypes := #[28] }, type := 38, pos := "exact.go:3038", after := #[{ on := 2, ground := Ground.data }, { on := 1, ground := Ground.chain }], guard := none }) rfl (fun K hK => ?_) AllReadyH.nil
        go_simp
        have hqr : Calls Tryz.prog 9 #[.agg LR.toArray] y2 (fun e w' => e = .returned (.agg LR.toArray) ∧ Below y2.heap.size y2 w') := by rw [ER.out]; exact toRecord_any r y2
        refine hqr.mono ?_
        rintro q y3 ⟨rfl, hbn⟩
        clear hqr
        have HO := Lib.hid ((HO.out.below hbn (Nat.le_refl _)).more hbn.size)
        have hy3 : Below w2.heap.size w2 y3 := hy2.trans (hbn.mono hy2.size)
        refine hK.out _ _ (by exact ⟨rngC CT.out hy3 slT, rngC CR.out hy3 slR⟩) (fun hHeld => ?_)
        clear hK K
        try simp only [Act.put, List.setIfInBounds_toArray, List.set_cons_zero, List.set_cons_succ]
        have ZC := Lib.hid (ZC.out.below hbn zn2)
        have ZF : Hid (∀ i, y3.frozen? ⟨zb, i, none⟩ = false) := Lib.hid (fun i => (hbn.frozen (p := ⟨zb, i, none⟩) zn2).trans (ZF.out i))
        have zn2 : zb < y3.heap.size := Nat.lt_of_lt_of_le zn2 hbn.size
        clear hbn
        refine wpAnyH_ready (rs := [4]) (by kernel_rfl) (by simp) ?_
        refine AllReadyH.cons (o := { dst := some 34, op := Op.call { callee := Callee.value (Operand.func 7), args := #[Operand.tmp 31, Operand.tmp 33], argTypes := #[34, 38] }, type := 35, pos := "exact.go:3038", after := #[{ on := 1, ground := Ground.data }, { on := 3, ground := Ground.data }, { on := 3, ground := Ground.chain }], guard := none }) rfl (fun K hK => ?_) AllReadyH.nil
        go_simp
        have hqa : Calls Tryz.prog 7 #[.agg #[.int .i64 s.sq, .int .i64 s.fe, .slice A3 s.ents.length c3, .slice B3 s.tmbs.length d3, .int .i64 s.lo.a, .int .i64 s.lo.b, .int .i64 s.lo.c, .int .i64 s.hi.a, .int .i64 s.hi.b, .int .i64 s.hi.c], .agg LR.toArray] y3 (AplAns s r y3) := by rw [ER.out]; exact specApplyRecord_any A3 c3 B3 d3 s r y3.heap.size y3 HO.out (Nat.le_refl _) HSE.out HST.out hlen hlen2 hsm
        refine hqa.mono ?_
        rintro q y4 ⟨x, bq, zz, A5, c5, B5, d5, hv5, rfl, hs5, ho5, _, _, hbn⟩
        clear hqa
        have HV := Lib.hid hv5; have HA := Lib.hid hs5; clear hv5 hs5
        have HW : Hid (StOwn w2.heap.size y4 A5 B5) := Lib.hid (own_more ho5 hy3.size)
        have HBL : Hid ((∀ b, blk A5 = some b → b < y4.heap.size) ∧ ∀ b, blk B5 = some b → b < y4.heap.size) := Lib.hid ⟨fun b e => (ho5.2.2.1 b e).2, fun b e => (ho5.2.2.2.1 b e).2⟩
        have nz1 : Hid (blk A5 ≠ some zb) := Lib.hid (fun e => by have := (ho5.2.2.1 _ e).1; omega)
        have nz2 : Hid (blk B5 ≠ some zb) := Lib.hid (fun e => by have := (ho5.2.2.2.1 _ e).1; omega)
        clear ho5
        have hy4 : Below w2.heap.size w2 y4 := hy3.trans (hbn.mono hy3.size)
        refine hK.out _ _ (by exact ⟨rngC CT.out hy4 slT, rngC CR.out hy4 slR⟩) (fun hHeld => ?_)
        clear hK K
        try simp only [Act.put, List.setIfInBounds_toArray, List.set_cons_zero, List.set_cons_succ]
        have ZC := Lib.hid (ZC.out.below hbn zn2)
        have ZF : Hid (∀ i, y4.frozen? ⟨zb, i, none⟩ = false) := Lib.hid (fun i => (hbn.frozen (p := ⟨zb, i, none⟩) zn2).trans (ZF.out i))
        have zn2 : zb < y4.heap.size := Nat.lt_of_lt_of_le zn2 hbn.size
        clear hbn
        refine kT 5 ?_
        go_frame
        refine kT 6 ?_
        go_frame
        refine kT 7 ?_
        go_frame
        refine kT 8 ?_
        go_frame
        obtain ⟨z0, z1, z2, z3, z4, z5, z6, z7, z8, z9⟩ := ZC.out.ten
        have yf0 := ZF.out 0
        have yf1 := ZF.out 1
        have yf2 := ZF.out 2
        have yf3 := ZF.out 3
        have yf4 := ZF.out 4
        have yf5 := ZF.out 5
        have yf6 := ZF.out 6
        have yf7 := ZF.out 7
        have yf8 := ZF.out 8
        have yf9 := ZF.out 9
        have FINA : Hid (AnsC w2 ((((((((((y4.setCell ⟨zb, 0, none⟩ (.int .i64 x.sq)).setCell ⟨zb, 1, none⟩ (.int .i64 x.fe)).setCell ⟨zb, 2, none⟩ (.slice A5 x.ents.length c5)).setCell ⟨zb, 3, none⟩ (.slice B5 x.tmbs.length d5)).setCell ⟨zb, 4, none⟩ (.int .i64 x.lo.a)).setCell ⟨zb, 5, none⟩ (.int .i64 x.lo.b)).setCell ⟨zb, 6, none⟩ (.int .i64 x.lo.c)).setCell ⟨zb, 7, none⟩ (.int .i64 x.hi.a)).setCell ⟨zb, 8, none⟩ (.int .i64 x.hi.b)).setCell ⟨zb, 9, none⟩ (.int .i64 x.hi.c)) zb A5 c5 B5 d5 x) := Lib.hid (ansC_set rfl hy4 zn1 zn2 ZC.out HA.out HW.out nz1.out nz2.out)
        refine wpAnyH_ready (rs := [10]) (by kernel_rfl) (by simp) ?_
        refine AllReadyH.cons (o := { dst := none, op := Op.store 34 (Operand.tmp 6) (Operand.tmp 35), type := 0, pos := "exact.go:3038", after := #[{ on := 9, ground := Ground.data }, { on := 6, ground := Ground.data }, { on := 4, ground := Ground.chain }, { on := 0, ground := Ground.phase }, { on := 1, ground := Ground.phase }, { on := 2, ground := Ground.phase }, { on := 3, ground := Ground.phase }, { on := 4, ground := Ground.phase }, { on := 5, ground := Ground.phase }, { on := 6, ground := Ground.phase }, { on := 7, ground := Ground.textOnly Departure.lateStores }, { on := 8, ground := Ground.textOnly Departure.lateStores }, { on := 9, ground := Ground.phase }], guard := none }) rfl (fun K hK => ?_) AllReadyH.nil
        go_simp
        refine hK.out _ _ (by exact ⟨rngC CT.out FINA.out.be slT, rngC CR.out FINA.out.be slR⟩) (fun hHeld => ?_)
        clear hK K
        try simp only [Act.put, List.setIfInBounds_toArray, List.set_cons_zero, List.set_cons_succ]
        refine kT 11 ?_
        go_frame
        refine kT 12 ?_
        go_frame
        refine wpAnyH_done (by kernel_rfl) ?_ _
        refine NoPanic.normal ?_
        clear hHeld
        go_wp2_with fail
        go_meet
        exact ⟨zb, A5, c5, B5, d5, x, bq, zz, rfl, rfl, rfl, HV, FINA⟩
    · go_simp
      have hy1 : Below w2.heap.size w2 (y0.alloc (.cells #[.int .i64 0, .int .i64 0, .slice none 0 0, .slice none 0 0, .int .i64 0, .int .i64 0, .int .i64 0, .int .i64 0, .int .i64 0, .int .i64 0] 34)) := hbd.alloc hbd.size _
      refine hK.out _ _ (by exact ⟨rngC CT.out hy1 slT, rngC CR.out hy1 slR⟩) (fun hHeld => ?_)
      clear hK K
      try simp only [Act.put, List.setIfInBounds_toArray, List.set_cons_zero, List.set_cons_succ]
      have ZC := Lib.hid (Cells.new y0 [.int .i64 0, .int .i64 0, .slice none 0 0, .slice none 0 0, .int .i64 0, .int .i64 0, .int .i64 0, .int .i64 0, .int .i64 0, .int .i64 0] 34)
      have ZF : Hid (∀ i, (y0.alloc (.cells #[.int .i64 0, .int .i64 0, .slice none 0 0, .slice none 0 0, .int .i64 0, .int .i64 0, .int .i64 0, .int .i64 0, .int .i64 0, .int .i64 0] 34)).frozen? ⟨y0.heap.size, i, none⟩ = false) := Lib.hid (fun i => by simp [go_sem])
      have zn1 : w2.heap.size ≤ y0.heap.size := hbd.size
      have zn2 : y0.heap.size < (y0.alloc (.cells #[.int .i64 0, .int .i64 0, .slice none 0 0, .slice none 0 0, .int .i64 0, .int .i64 0, .int .i64 0, .int .i64 0, .int .i64 0, .int .i64 0] 34)).heap.size := by simp
      have zk : Below y0.heap.size y0 (y0.alloc (.cells #[.int .i64 0, .int .i64 0, .slice none 0 0, .slice none 0 0, .int .i64 0, .int .i64 0, .int .i64 0, .int .i64 0, .int .i64 0, .int .i64 0] 34)) := bal (Below.refl _ _) _
      clear zk
      obtain ⟨zb, hzb⟩ : ∃ z, z = y0.heap.size := ⟨_, rfl⟩
      rw [← hzb] at ZC ZF zn1 zn2 ⊢
      generalize y0.alloc (.cells #[.int .i64 0, .int .i64 0, .slice none 0 0, .slice none 0 0, .int .i64 0, .int .i64 0, .int .i64 0, .int .i64 0, .int .i64 0, .int .i64 0] 34) = y1 at *
      clear hzb
      refine wpAnyH_ready (rs := [1]) (by kernel_rfl) (by simp) ?_
      refine AllReadyH.cons (o := { dst := some 31, op := Op.call { callee := Callee.value (Operand.func 8), args := #[Operand.tmp 30], argTypes := #[26] }, type := 34, pos := "exact.go:3038", after := #[{ on := 0, ground := Ground.data }], guard := none }) rfl (fun K hK => ?_) AllReadyH.nil
      go_simp
      have hqz : Calls Tryz.prog 8 #[.agg LT.toArray] y1 (NewStt s y1) := by rw [ET.out]; exact toState_any A c A2 c2 s x0 y1 (HS.out _ (b2.trans (hy1.mono (by omega)))) (by have := hy1.size; omega) hlen hlen2
      refine hqz.mono ?_
      rintro q y2 ⟨A3, c3, B3, d3, rfl, ho3, _, _, _, hbn⟩
      clear hqz
      have HO := Lib.hid ho3; clear ho3
      have hy2 : Below w2.heap.size w2 y2 := hy1.trans (hbn.mono hy1.size)
      refine hK.out _ _ (by exact ⟨rngC CT.out hy2 slT, rngC CR.out hy2 slR⟩) (fun hHeld => ?_)
      clear hK K
      try simp only [Act.put, List.setIfInBounds_toArray, List.set_cons_zero, List.set_cons_succ]
      have ZC := Lib.hid (ZC.out.below hbn zn2)
      have ZF : Hid (∀ i, y2.frozen? ⟨zb, i, none⟩ = false) := Lib.hid (fun i => (hbn.frozen (p := ⟨zb, i, none⟩) zn2).trans (ZF.out i))
      have zn2 : zb < y2.heap.size := Nat.lt_of_lt_of_le zn2 hbn.size
      clear hbn
      refine wpAnyH_ready (rs := [3]) (by kernel_rfl) (by simp) ?_
      refine AllReadyH.cons (o := { dst := some 33, op := Op.call { callee := Callee.value (Operand.func 9), args := #[Operand.tmp 32], argTypes := #[28] }, type := 38, pos := "exact.go:3038", after := #[{ on := 2, ground := Ground.data }, { on := 1, ground := Ground.chain }], guard := none }) rfl (fun K hK => ?_) AllReadyH.nil
      go_simp
      have hqr : Calls Tryz.prog 9 #[.agg LR.toArray] y2 (fun e w' => e = .returned (.agg LR.toArray) ∧ Below y2.heap.size y2 w') := by rw [ER.out]; exact toRecord_any r y2
      refine hqr.mono ?_
      rintro q y3 ⟨rfl, hbn⟩
      clear hqr
      have HO := Lib.hid ((HO.out.below hbn (Nat.le_refl _)).more hbn.size)
      have hy3 : Below w2.heap.size w2 y3 := hy2.trans (hbn.mono hy2.size)
      refine hK.out _ _ (by exact ⟨rngC CT.out hy3 slT, rngC CR.out hy3 slR⟩) (fun hHeld => ?_)
      clear hK K
      try simp only [Act.put, List.setIfInBounds_toArray, List.set_cons_zero, List.set_cons_succ]
      have ZC := Lib.hid (ZC.out.below hbn zn2)
      have ZF : Hid (∀ i, y3.frozen? ⟨zb, i, none⟩ = false) := Lib.hid (fun i => (hbn.frozen (p := ⟨zb, i, none⟩) zn2).trans (ZF.out i))
      have zn2 : zb < y3.heap.size := Nat.lt_of_lt_of_le zn2 hbn.size
      clear hbn
      refine wpAnyH_ready (rs := [4]) (by kernel_rfl) (by simp) ?_
      refine AllReadyH.cons (o := { dst := some 34, op := Op.call { callee := Callee.value (Operand.func 7), args := #[Operand.tmp 31, Operand.tmp 33], argTypes := #[34, 38] }, type := 35, pos := "exact.go:3038", after := #[{ on := 1, ground := Ground.data }, { on := 3, ground := Ground.data }, { on := 3, ground := Ground.chain }], guard := none }) rfl (fun K hK => ?_) AllReadyH.nil
      go_simp
      have hqa : Calls Tryz.prog 7 #[.agg #[.int .i64 s.sq, .int .i64 s.fe, .slice A3 s.ents.length c3, .slice B3 s.tmbs.length d3, .int .i64 s.lo.a, .int .i64 s.lo.b, .int .i64 s.lo.c, .int .i64 s.hi.a, .int .i64 s.hi.b, .int .i64 s.hi.c], .agg LR.toArray] y3 (AplAns s r y3) := by rw [ER.out]; exact specApplyRecord_any A3 c3 B3 d3 s r y3.heap.size y3 HO.out (Nat.le_refl _) HSE.out HST.out hlen hlen2 hsm
      refine hqa.mono ?_
      rintro q y4 ⟨x, bq, zz, A5, c5, B5, d5, hv5, rfl, hs5, ho5, _, _, hbn⟩
      clear hqa
      have HV := Lib.hid hv5; have HA := Lib.hid hs5; clear hv5 hs5
      have HW : Hid (StOwn w2.heap.size y4 A5 B5) := Lib.hid (own_more ho5 hy3.size)
      have HBL : Hid ((∀ b, blk A5 = some b → b < y4.heap.size) ∧ ∀ b, blk B5 = some b → b < y4.heap.size) := Lib.hid ⟨fun b e => (ho5.2.2.1 b e).2, fun b e => (ho5.2.2.2.1 b e).2⟩
      have nz1 : Hid (blk A5 ≠ some zb) := Lib.hid (fun e => by have := (ho5.2.2.1 _ e).1; omega)
      have nz2 : Hid (blk B5 ≠ some zb) := Lib.hid (fun e => by have := (ho5.2.2.2.1 _ e).1; omega)
      clear ho5
      have hy4 : Below w2.heap.size w2 y4 := hy3.trans (hbn.mono hy3.size)
      refine hK.out _ _ (by exact ⟨rngC CT.out hy4 slT, rngC CR.out hy4 slR⟩) (fun hHeld => ?_)
      clear hK K
      try simp only [Act.put, List.setIfInBounds_toArray, List.set_cons_zero, List.set_cons_succ]
      have ZC := Lib.hid (ZC.out.below hbn zn2)
      have ZF : Hid (∀ i, y4.frozen? ⟨zb, i, none⟩ = false) := Lib.hid (fun i => (hbn.frozen (p := ⟨zb, i, none⟩) zn2).trans (ZF.out i))
      have zn2 : zb < y4.heap.size := Nat.lt_of_lt_of_le zn2 hbn.size
      clear hbn
      refine kT 5 ?_
      go_frame
      refine kT 6 ?_
      go_frame
      refine kT 7 ?_
      go_frame
      refine kT 8 ?_
      go_frame
      obtain ⟨z0, z1, z2, z3, z4, z5, z6, z7, z8, z9⟩ := ZC.out.ten
      have yf0 := ZF.out 0
      have yf1 := ZF.out 1
      have yf2 := ZF.out 2
      have yf3 := ZF.out 3
      have yf4 := ZF.out 4
      have yf5 := ZF.out 5
      have yf6 := ZF.out 6
      have yf7 := ZF.out 7
      have yf8 := ZF.out 8
      have yf9 := ZF.out 9
      have FINA : Hid (AnsC w2 ((((((((((y4.setCell ⟨zb, 0, none⟩ (.int .i64 x.sq)).setCell ⟨zb, 1, none⟩ (.int .i64 x.fe)).setCell ⟨zb, 2, none⟩ (.slice A5 x.ents.length c5)).setCell ⟨zb, 3, none⟩ (.slice B5 x.tmbs.length d5)).setCell ⟨zb, 4, none⟩ (.int .i64 x.lo.a)).setCell ⟨zb, 5, none⟩ (.int .i64 x.lo.b)).setCell ⟨zb, 6, none⟩ (.int .i64 x.lo.c)).setCell ⟨zb, 7, none⟩ (.int .i64 x.hi.a)).setCell ⟨zb, 8, none⟩ (.int .i64 x.hi.b)).setCell ⟨zb, 9, none⟩ (.int .i64 x.hi.c)) zb A5 c5 B5 d5 x) := Lib.hid (ansC_set rfl hy4 zn1 zn2 ZC.out HA.out HW.out nz1.out nz2.out)
      refine wpAnyH_ready (rs := [10]) (by kernel_rfl) (by simp) ?_
      refine AllReadyH.cons (o := { dst := none, op := Op.store 34 (Operand.tmp 6) (Operand.tmp 35), type := 0, pos := "exact.go:3038", after := #[{ on := 9, ground := Ground.data }, { on := 6, ground := Ground.data }, { on := 4, ground := Ground.chain }, { on := 0, ground := Ground.phase }, { on := 1, ground := Ground.phase }, { on := 2, ground := Ground.phase }, { on := 3, ground := Ground.phase }, { on := 4, ground := Ground.phase }, { on := 5, ground := Ground.phase }, { on := 6, ground := Ground.phase }, { on := 7, ground := Ground.textOnly Departure.lateStores }, { on := 8, ground := Ground.textOnly Departure.lateStores }, { on := 9, ground := Ground.phase }], guard := none }) rfl (fun K hK => ?_) AllReadyH.nil
      go_simp
      refine hK.out _ _ (by exact ⟨rngC CT.out FINA.out.be slT, rngC CR.out FINA.out.be slR⟩) (fun hHeld => ?_)
      clear hK K
      try simp only [Act.put, List.setIfInBounds_toArray, List.set_cons_zero, List.set_cons_succ]
      refine kT 11 ?_
      go_frame
      refine kT 12 ?_
      go_frame
      refine wpAnyH_done (by kernel_rfl) ?_ _
      refine NoPanic.normal ?_
      clear hHeld
      go_wp2_with fail
      go_meet
      exact ⟨zb, A5, c5, B5, d5, x, bq, zz, rfl, rfl, rfl, HV, FINA⟩
  case rest =>
  clear CT slT CR slR hbd
  obtain ⟨nm, A5, c5, B5, d5, x, bm, zm, rfl, rfl, rfl, Hv5, HC5⟩ := hcut
  obtain ⟨hxl, hxl2⟩ := Hv5.out.lens hlen hlen2
  generalize hwc : wc = w5 at *
  clear hwc
  have hb5 := HC5.out.be
  have M5 := Lib.hid HC5.out.bx
  have S5 := Lib.hid HC5.out.st
  have nm1 := HC5.out.n1
  have nm2 := HC5.out.n2
  have T5 := Lib.hid (T2.out.below hb5 (by omega))
  have R5 := Lib.hid (R2.out.below hb5 (by omega))
  have b5 : Below x0 w w5 := b2.trans (hb5.mono (by omega))
  have s5 : w2.heap.size ≤ w5.heap.size := hb5.size
  clear T2 R2 b2 hb5 HC5
  generalize w2.heap.size = x2 at *
  obtain ⟨t0, t1, t2, t3, t4, t5, t6, t7, t8, t9⟩ := T5.out.ten
  go_wp2_with fail
  refine (toState_any A c A2 c2 s x0 w5 (HS.out _ b5) (by omega) hlen hlen2).mono ?_
  rintro e w6 ⟨A6, c6, B6, d6, rfl, ho6, hw6, _, _, hb6⟩
  have O6 := Lib.hid ho6; clear ho6
  have W6 := Lib.hid hw6; clear hw6
  have T6 := Lib.hid (T5.out.below hb6 (by omega))
  have R6 := Lib.hid (R5.out.below hb6 (by omega))
  have M6 := Lib.hid (M5.out.below hb6 (by omega))
  have S6 := Lib.hid (S5.out.below hb6 (by omega))
  have b6 : Below x0 w w6 := b5.trans (hb6.mono (by omega))
  have s6 : w5.heap.size ≤ w6.heap.size := hb6.size
  clear T5 R5 M5 S5 hb6 b5 t0 t1 t2 t3 t4 t5 t6 t7 t8 t9
  generalize w5.heap.size = x5 at *
  go_upto_region 10 with fail
  have V7 : Hid (Cells (w6.alloc (.cells #[.int .i64 s.sq, .int .i64 s.fe, .slice A6 s.ents.length c6, .slice B6 s.tmbs.length d6, .int .i64 s.lo.a, .int .i64 s.lo.b, .int .i64 s.lo.c, .int .i64 s.hi.a, .int .i64 s.hi.b, .int .i64 s.hi.c] 34)) w6.heap.size 0 [.int .i64 s.sq, .int .i64 s.fe, .slice A6 s.ents.length c6, .slice B6 s.tmbs.length d6, .int .i64 s.lo.a, .int .i64 s.lo.b, .int .i64 s.lo.c, .int .i64 s.hi.a, .int .i64 s.hi.b, .int .i64 s.hi.c]) := Lib.hid (Cells.new _ _ _)
  have hb7 : Below w6.heap.size w6 (w6.alloc (.cells #[.int .i64 s.sq, .int .i64 s.fe, .slice A6 s.ents.length c6, .slice B6 s.tmbs.length d6, .int .i64 s.lo.a, .int .i64 s.lo.b, .int .i64 s.lo.c, .int .i64 s.hi.a, .int .i64 s.hi.b, .int .i64 s.hi.c] 34)) := bal (Below.refl _ _) _
  have y7 : w6.heap.size < (w6.alloc (.cells #[.int .i64 s.sq, .int .i64 s.fe, .slice A6 s.ents.length c6, .slice B6 s.tmbs.length d6, .int .i64 s.lo.a, .int .i64 s.lo.b, .int .i64 s.lo.c, .int .i64 s.hi.a, .int .i64 s.hi.b, .int .i64 s.hi.c] 34)).heap.size := by simp
  have Hbl6 : Hid (∀ b, (blk A6 = some b ∨ blk B6 = some b) → b < w6.heap.size) := Lib.hid (fun b e => e.elim (fun e => (W6.out.2.2.1 b e).2) (fun e => (W6.out.2.2.2.1 b e).2))
  generalize w6.alloc (.cells #[.int .i64 s.sq, .int .i64 s.fe, .slice A6 s.ents.length c6, .slice B6 s.tmbs.length d6, .int .i64 s.lo.a, .int .i64 s.lo.b, .int .i64 s.lo.c, .int .i64 s.hi.a, .int .i64 s.hi.b, .int .i64 s.hi.c] 34) = w7 at *
  have T7 := Lib.hid (T6.out.below hb7 (by omega))
  have R7 := Lib.hid (R6.out.below hb7 (by omega))
  have M7 := Lib.hid (M6.out.below hb7 (by omega))
  have S7 := Lib.hid (S6.out.below hb7 (by omega))
  have O7 := Lib.hid (O6.out.below hb7 (by omega))
  have W7 := Lib.hid (W6.out.below hb7 (Nat.le_refl _))
  have b7 : Below x0 w w7 := b6.trans (hb7.mono (by omega))
  have s7 : w6.heap.size ≤ w7.heap.size := hb7.size
  clear T6 R6 M6 S6 O6 W6 hb7 b6
  generalize w6.heap.size = x6 at *
  obtain ⟨LV, hLV⟩ : ∃ L : List Value, L = [.int .i64 s.sq, .int .i64 s.fe, .slice A6 s.ents.length c6, .slice B6 s.tmbs.length d6, .int .i64 s.lo.a, .int .i64 s.lo.b, .int .i64 s.lo.c, .int .i64 s.hi.a, .int .i64 s.hi.b, .int .i64 s.hi.c] := ⟨_, rfl⟩
  have HNV : Hid (LV.length = 10) := Lib.hid (by rw [hLV]; rfl)
  have EV : Hid (Value.agg LV.toArray = .agg #[.int .i64 s.sq, .int .i64 s.fe, .slice A6 s.ents.length c6, .slice B6 s.tmbs.length d6, .int .i64 s.lo.a, .int .i64 s.lo.b, .int .i64 s.lo.c, .int .i64 s.hi.a, .int .i64 s.hi.b, .int .i64 s.hi.c]) := Lib.hid (by rw [hLV])
  have HLV := Lib.hid hLV; clear hLV
  have CV : Hid (Cells w7 x6 0 LV) := Lib.hid (by rw [HLV.out]; exact V7.out)
  have slV : x6 < w7.heap.size := by omega
  have CR : Hid (Cells w7 (x0 + 1) 0 LR) := Lib.hid (by rw [HLR.out]; exact R7.out)
  have slR : (x0 + 1) < w7.heap.size := by omega
  have hbd : Below w7.heap.size w7 w7.drew := (Below.refl _ _).drew
  go_upto_region 10 with fail
  go_cut [10, 11, 12] (fun p q z wx => ∃ (nb : Nat) (A' : Option Addr) (c' : Nat) (B' : Option Addr) (d' : Nat) (x : GSt) (b : Bool) (zz : Int), p = .pointer (some ⟨nb, 0, none⟩) ∧ q = .bool b ∧ z = .int .i64 zz ∧ Hid (AplVal s r x b zz) ∧ Hid (AnsC w7 wx nb A' c' B' d' x))
  case first =>
    refine wp_region_noPanic ?_
    refine wp_region_held_drew (S := fun w' => w'.rangeAt x6 0 LV ∧ w'.rangeAt (x0 + 1) 0 LR) (by kernel_rfl) (by exact ⟨rngC CV.out hbd slV, rngC CR.out hbd slR⟩) (fun hHeld => ?_)
    generalize hVd : w7.drew = y0 at hHeld hbd ⊢
    clear hVd
    refine' wpAnyH_take (i := 0) (oi := { dst := some 41, op := Op.load 34 (Operand.tmp 9), type := 34, pos := "exact.go:3040", after := #[], guard := none }) (v := _) rfl (by kernel_rfl) (by kernel_rfl) (by kernel_rfl) (fun _ _ _ h => h) (yieldsIf_load_mid (by rfl) _ _ rfl _ _ rfl LV _ ?hSq10_0 ?huq10_0 ?hdq10_0 ?hiq10_0) (by assumption) ?restq10_0
    case hSq10_0 => exact fun w hSw => hSw.1
    case huq10_0 => exact Tryz.underlying34
    case hdq10_0 => rfl
    case hiq10_0 => exact infoStt.trans (by rw [HNV.out])
    try simp only [Act.put, List.setIfInBounds_toArray, List.set_cons_zero, List.set_cons_succ]
    refine' wpAnyH_take (i := 1) (oi := { dst := some 42, op := Op.load 28 (Operand.tmp 3), type := 28, pos := "exact.go:3040", after := #[], guard := none }) (v := _) rfl (by kernel_rfl) (by kernel_rfl) (by kernel_rfl) (fun _ _ _ h => h) (yieldsIf_load_mid (by rfl) _ _ rfl _ _ rfl LR _ ?hSq10_1 ?huq10_1 ?hdq10_1 ?hiq10_1) (by assumption) ?restq10_1
    case hSq10_1 => exact fun w hSw => hSw.2
    case huq10_1 => exact Tryz.underlying28
    case hdq10_1 => rfl
    case hiq10_1 => exact infoLR.trans (by rw [HNR.out])
    try simp only [Act.put, List.setIfInBounds_toArray, List.set_cons_zero, List.set_cons_succ]
    refine wpAnyH_ready (rs := [2, 8]) (by kernel_rfl) (by simp) ?_
    refine AllReadyH.cons (o := { dst := some 43, op := Op.call { callee := Callee.value (Operand.func 9), args := #[Operand.tmp 42], argTypes := #[28] }, type := 38, pos := "exact.go:3040", after := #[{ on := 1, ground := Ground.data }], guard := none }) rfl (fun K hK => ?_) (AllReadyH.cons (o := { dst := some 10, op := Op.alloc 34, type := 0, pos := "exact.go:3040", after := #[], guard := none }) rfl (fun K hK => ?_) AllReadyH.nil)
    · go_simp
      have hqr : Calls Tryz.prog 9 #[.agg LR.toArray] y0 (fun e w' => e = .returned (.agg LR.toArray) ∧ Below y0.heap.size y0 w') := by rw [ER.out]; exact toRecord_any r y0
      refine hqr.mono ?_
      rintro q y1 ⟨rfl, hbn⟩
      clear hqr
      have hy1 : Below w7.heap.size w7 y1 := hbd.trans (hbn.mono hbd.size)
      refine hK.out _ _ (by exact ⟨rngC CV.out hy1 slV, rngC CR.out hy1 slR⟩) (fun hHeld => ?_)
      clear hK K
      try simp only [Act.put, List.setIfInBounds_toArray, List.set_cons_zero, List.set_cons_succ]
      clear hbn
      refine wpAnyH_ready (rs := [3, 8]) (by kernel_rfl) (by simp) ?_
      refine AllReadyH.cons (o := { dst := some 44, op := Op.call { callee := Callee.value (Operand.func 10), args := #[Operand.tmp 41, Operand.tmp 43], argTypes := #[34, 38] }, type := 35, pos := "exact.go:3040", after := #[{ on := 0, ground := Ground.data }, { on := 2, ground := Ground.data }, { on := 2, ground := Ground.chain }], guard := none }) rfl (fun K hK => ?_) (AllReadyH.cons (o := { dst := some 10, op := Op.alloc 34, type := 0, pos := "exact.go:3040", after := #[], guard := none }) rfl (fun K hK => ?_) AllReadyH.nil)
      · go_simp
        have hqa : Calls Tryz.prog 10 #[.agg LV.toArray, .agg LR.toArray] y1 (AplAns s r y1) := by rw [ER.out, EV.out]; exact applyRecord_any A6 c6 B6 d6 s r y1.heap.size y1 ((O7.out.below hy1 (by omega)).more (by have := hy1.size; omega)) (Nat.le_refl _) HFE.out HFT.out hlen hlen2 hsm (HP.out _ (b7.trans (hy1.mono (by omega)))).1 (HP.out _ (b7.trans (hy1.mono (by omega)))).2.1 (HP.out _ (b7.trans (hy1.mono (by omega)))).2.2.1 (HP.out _ (b7.trans (hy1.mono (by omega)))).2.2.2
        refine hqa.mono ?_
        rintro q y2 ⟨x, bq, zz, A5, c5, B5, d5, hv5, rfl, hs5, ho5, _, _, hbn⟩
        clear hqa
        have HV := Lib.hid hv5; have HA := Lib.hid hs5; clear hv5 hs5
        have HW : Hid (StOwn w7.heap.size y2 A5 B5) := Lib.hid (own_more ho5 hy1.size)
        have HBL : Hid ((∀ b, blk A5 = some b → b < y2.heap.size) ∧ ∀ b, blk B5 = some b → b < y2.heap.size) := Lib.hid ⟨fun b e => (ho5.2.2.1 b e).2, fun b e => (ho5.2.2.2.1 b e).2⟩
        clear ho5
        have hy2 : Below w7.heap.size w7 y2 := hy1.trans (hbn.mono hy1.size)
        refine hK.out _ _ (by exact ⟨rngC CV.out hy2 slV, rngC CR.out hy2 slR⟩) (fun hHeld => ?_)
        clear hK K
        try simp only [Act.put, List.setIfInBounds_toArray, List.set_cons_zero, List.set_cons_succ]
        clear hbn
        refine kT 4 ?_
        go_frame
        refine kT 5 ?_
        go_frame
        refine kT 6 ?_
        go_frame
        refine kT 7 ?_
        go_frame
        refine wpAnyH_ready (rs := [8]) (by kernel_rfl) (by simp) ?_
        refine AllReadyH.cons (o := { dst := some 10, op := Op.alloc 34, type := 0, pos := "exact.go:3040", after := #[], guard := none }) rfl (fun K hK => ?_) AllReadyH.nil
        go_simp
        have hy3 : Below w7.heap.size w7 (y2.alloc (.cells #[.int .i64 0, .int .i64 0, .slice none 0 0, .slice none 0 0, .int .i64 0, .int .i64 0, .int .i64 0, .int .i64 0, .int .i64 0, .int .i64 0] 34)) := hy2.alloc hy2.size _
        refine hK.out _ _ (by exact ⟨rngC CV.out hy3 slV, rngC CR.out hy3 slR⟩) (fun hHeld => ?_)
        clear hK K
        try simp only [Act.put, List.setIfInBounds_toArray, List.set_cons_zero, List.set_cons_succ]
        have ZC := Lib.hid (Cells.new y2 [.int .i64 0, .int .i64 0, .slice none 0 0, .slice none 0 0, .int .i64 0, .int .i64 0, .int .i64 0, .int .i64 0, .int .i64 0, .int .i64 0] 34)
        have ZF : Hid (∀ i, (y2.alloc (.cells #[.int .i64 0, .int .i64 0, .slice none 0 0, .slice none 0 0, .int .i64 0, .int .i64 0, .int .i64 0, .int .i64 0, .int .i64 0, .int .i64 0] 34)).frozen? ⟨y2.heap.size, i, none⟩ = false) := Lib.hid (fun i => by simp [go_sem])
        have zn1 : w7.heap.size ≤ y2.heap.size := hy2.size
        have zn2 : y2.heap.size < (y2.alloc (.cells #[.int .i64 0, .int .i64 0, .slice none 0 0, .slice none 0 0, .int .i64 0, .int .i64 0, .int .i64 0, .int .i64 0, .int .i64 0, .int .i64 0] 34)).heap.size := by simp
        have zk : Below y2.heap.size y2 (y2.alloc (.cells #[.int .i64 0, .int .i64 0, .slice none 0 0, .slice none 0 0, .int .i64 0, .int .i64 0, .int .i64 0, .int .i64 0, .int .i64 0, .int .i64 0] 34)) := bal (Below.refl _ _) _
        have HA := Lib.hid ((HA.out.below zk (Nat.le_refl _)).more zk.size)
        have HW := Lib.hid (HW.out.below zk (Nat.le_refl _))
        clear zk
        obtain ⟨zb, hzb⟩ : ∃ z, z = y2.heap.size := ⟨_, rfl⟩
        have nz1 : Hid (blk A5 ≠ some zb) := Lib.hid (fun e => by have := HBL.out.1 _ e; omega)
        have nz2 : Hid (blk B5 ≠ some zb) := Lib.hid (fun e => by have := HBL.out.2 _ e; omega)
        rw [← hzb] at ZC ZF zn1 zn2 ⊢
        generalize y2.alloc (.cells #[.int .i64 0, .int .i64 0, .slice none 0 0, .slice none 0 0, .int .i64 0, .int .i64 0, .int .i64 0, .int .i64 0, .int .i64 0, .int .i64 0] 34) = y3 at *
        clear hzb
        obtain ⟨z0, z1, z2, z3, z4, z5, z6, z7, z8, z9⟩ := ZC.out.ten
        have yf0 := ZF.out 0
        have yf1 := ZF.out 1
        have yf2 := ZF.out 2
        have yf3 := ZF.out 3
        have yf4 := ZF.out 4
        have yf5 := ZF.out 5
        have yf6 := ZF.out 6
        have yf7 := ZF.out 7
        have yf8 := ZF.out 8
        have yf9 := ZF.out 9
        have FINA : Hid (AnsC w7 ((((((((((y3.setCell ⟨zb, 0, none⟩ (.int .i64 x.sq)).setCell ⟨zb, 1, none⟩ (.int .i64 x.fe)).setCell ⟨zb, 2, none⟩ (.slice A5 x.ents.length c5)).setCell ⟨zb, 3, none⟩ (.slice B5 x.tmbs.length d5)).setCell ⟨zb, 4, none⟩ (.int .i64 x.lo.a)).setCell ⟨zb, 5, none⟩ (.int .i64 x.lo.b)).setCell ⟨zb, 6, none⟩ (.int .i64 x.lo.c)).setCell ⟨zb, 7, none⟩ (.int .i64 x.hi.a)).setCell ⟨zb, 8, none⟩ (.int .i64 x.hi.b)).setCell ⟨zb, 9, none⟩ (.int .i64 x.hi.c)) zb A5 c5 B5 d5 x) := Lib.hid (ansC_set rfl hy3 zn1 zn2 ZC.out HA.out HW.out nz1.out nz2.out)
        refine wpAnyH_ready (rs := [9]) (by kernel_rfl) (by simp) ?_
        refine AllReadyH.cons (o := { dst := none, op := Op.store 34 (Operand.tmp 10) (Operand.tmp 45), type := 0, pos := "exact.go:3040", after := #[{ on := 8, ground := Ground.data }, { on := 5, ground := Ground.data }, { on := 3, ground := Ground.chain }, { on := 0, ground := Ground.phase }, { on := 1, ground := Ground.phase }, { on := 2, ground := Ground.phase }, { on := 3, ground := Ground.phase }, { on := 4, ground := Ground.phase }, { on := 5, ground := Ground.phase }, { on := 6, ground := Ground.textOnly Departure.lateStores }, { on := 7, ground := Ground.textOnly Departure.lateStores }, { on := 8, ground := Ground.phase }], guard := none }) rfl (fun K hK => ?_) AllReadyH.nil
        go_simp
        refine hK.out _ _ (by exact ⟨rngC CV.out FINA.out.be slV, rngC CR.out FINA.out.be slR⟩) (fun hHeld => ?_)
        clear hK K
        try simp only [Act.put, List.setIfInBounds_toArray, List.set_cons_zero, List.set_cons_succ]
        refine kT 10 ?_
        go_frame
        refine kT 11 ?_
        go_frame
        refine wpAnyH_done (by kernel_rfl) ?_ _
        refine NoPanic.normal ?_
        clear hHeld
        go_wp2_with fail
        go_meet
        exact ⟨zb, A5, c5, B5, d5, x, bq, zz, rfl, rfl, rfl, HV, FINA⟩
      · go_simp
        have hy2 : Below w7.heap.size w7 (y1.alloc (.cells #[.int .i64 0, .int .i64 0, .slice none 0 0, .slice none 0 0, .int .i64 0, .int .i64 0, .int .i64 0, .int .i64 0, .int .i64 0, .int .i64 0] 34)) := hy1.alloc hy1.size _
        refine hK.out _ _ (by exact ⟨rngC CV.out hy2 slV, rngC CR.out hy2 slR⟩) (fun hHeld => ?_)
        clear hK K
        try simp only [Act.put, List.setIfInBounds_toArray, List.set_cons_zero, List.set_cons_succ]
        have ZC := Lib.hid (Cells.new y1 [.int .i64 0, .int .i64 0, .slice none 0 0, .slice none 0 0, .int .i64 0, .int .i64 0, .int .i64 0, .int .i64 0, .int .i64 0, .int .i64 0] 34)
        have ZF : Hid (∀ i, (y1.alloc (.cells #[.int .i64 0, .int .i64 0, .slice none 0 0, .slice none 0 0, .int .i64 0, .int .i64 0, .int .i64 0, .int .i64 0, .int .i64 0, .int .i64 0] 34)).frozen? ⟨y1.heap.size, i, none⟩ = false) := Lib.hid (fun i => by simp [go_sem])
        have zn1 : w7.heap.size ≤ y1.heap.size := hy1.size
        have zn2 : y1.heap.size < (y1.alloc (.cells #[.int .i64 0, .int .i64 0, .slice none 0 0, .slice none 0 0, .int .i64 0, .int .i64 0, .int .i64 0, .int .i64 0, .int .i64 0, .int .i64 0] 34)).heap.size := by simp
        have zk : Below y1.heap.size y1 (y1.alloc (.cells #[.int .i64 0, .int .i64 0, .slice none 0 0, .slice none 0 0, .int .i64 0, .int .i64 0, .int .i64 0, .int .i64 0, .int .i64 0, .int .i64 0] 34)) := bal (Below.refl _ _) _
        clear zk
        obtain ⟨zb, hzb⟩ : ∃ z, z = y1.heap.size := ⟨_, rfl⟩
        rw [← hzb] at ZC ZF zn1 zn2 ⊢
        generalize y1.alloc (.cells #[.int .i64 0, .int .i64 0, .slice none 0 0, .slice none 0 0, .int .i64 0, .int .i64 0, .int .i64 0, .int .i64 0, .int .i64 0, .int .i64 0] 34) = y2 at *
        clear hzb
        refine wpAnyH_ready (rs := [3]) (by kernel_rfl) (by simp) ?_
        refine AllReadyH.cons (o := { dst := some 44, op := Op.call { callee := Callee.value (Operand.func 10), args := #[Operand.tmp 41, Operand.tmp 43], argTypes := #[34, 38] }, type := 35, pos := "exact.go:3040", after := #[{ on := 0, ground := Ground.data }, { on := 2, ground := Ground.data }, { on := 2, ground := Ground.chain }], guard := none }) rfl (fun K hK => ?_) AllReadyH.nil
        go_simp
        have hqa : Calls Tryz.prog 10 #[.agg LV.toArray, .agg LR.toArray] y2 (AplAns s r y2) := by rw [ER.out, EV.out]; exact applyRecord_any A6 c6 B6 d6 s r y2.heap.size y2 ((O7.out.below hy2 (by omega)).more (by have := hy2.size; omega)) (Nat.le_refl _) HFE.out HFT.out hlen hlen2 hsm (HP.out _ (b7.trans (hy2.mono (by omega)))).1 (HP.out _ (b7.trans (hy2.mono (by omega)))).2.1 (HP.out _ (b7.trans (hy2.mono (by omega)))).2.2.1 (HP.out _ (b7.trans (hy2.mono (by omega)))).2.2.2
        refine hqa.mono ?_
        rintro q y3 ⟨x, bq, zz, A5, c5, B5, d5, hv5, rfl, hs5, ho5, _, _, hbn⟩
        clear hqa
        have HV := Lib.hid hv5; have HA := Lib.hid hs5; clear hv5 hs5
        have HW : Hid (StOwn w7.heap.size y3 A5 B5) := Lib.hid (own_more ho5 hy2.size)
        have HBL : Hid ((∀ b, blk A5 = some b → b < y3.heap.size) ∧ ∀ b, blk B5 = some b → b < y3.heap.size) := Lib.hid ⟨fun b e => (ho5.2.2.1 b e).2, fun b e => (ho5.2.2.2.1 b e).2⟩
        have nz1 : Hid (blk A5 ≠ some zb) := Lib.hid (fun e => by have := (ho5.2.2.1 _ e).1; omega)
        have nz2 : Hid (blk B5 ≠ some zb) := Lib.hid (fun e => by have := (ho5.2.2.2.1 _ e).1; omega)
        clear ho5
        have hy3 : Below w7.heap.size w7 y3 := hy2.trans (hbn.mono hy2.size)
        refine hK.out _ _ (by exact ⟨rngC CV.out hy3 slV, rngC CR.out hy3 slR⟩) (fun hHeld => ?_)
        clear hK K
        try simp only [Act.put, List.setIfInBounds_toArray, List.set_cons_zero, List.set_cons_succ]
        have ZC := Lib.hid (ZC.out.below hbn zn2)
        have ZF : Hid (∀ i, y3.frozen? ⟨zb, i, none⟩ = false) := Lib.hid (fun i => (hbn.frozen (p := ⟨zb, i, none⟩) zn2).trans (ZF.out i))
        have zn2 : zb < y3.heap.size := Nat.lt_of_lt_of_le zn2 hbn.size
        clear hbn
        refine kT 4 ?_
        go_frame
        refine kT 5 ?_
        go_frame
        refine kT 6 ?_
        go_frame
        refine kT 7 ?_
        go_frame
        obtain ⟨z0, z1, z2, z3, z4, z5, z6, z7, z8, z9⟩ := ZC.out.ten
        have yf0 := ZF.out 0
        have yf1 := ZF.out 1
        have yf2 := ZF.out 2
        have yf3 := ZF.out 3
        have yf4 := ZF.out 4
        have yf5 := ZF.out 5
        have yf6 := ZF.out 6
        have yf7 := ZF.out 7
        have yf8 := ZF.out 8
        have yf9 := ZF.out 9
        have FINA : Hid (AnsC w7 ((((((((((y3.setCell ⟨zb, 0, none⟩ (.int .i64 x.sq)).setCell ⟨zb, 1, none⟩ (.int .i64 x.fe)).setCell ⟨zb, 2, none⟩ (.slice A5 x.ents.length c5)).setCell ⟨zb, 3, none⟩ (.slice B5 x.tmbs.length d5)).setCell ⟨zb, 4, none⟩ (.int .i64 x.lo.a)).setCell ⟨zb, 5, none⟩ (.int .i64 x.lo.b)).setCell ⟨zb, 6, none⟩ (.int .i64 x.lo.c)).setCell ⟨zb, 7, none⟩ (.int .i64 x.hi.a)).setCell ⟨zb, 8, none⟩ (.int .i64 x.hi.b)).setCell ⟨zb, 9, none⟩ (.int .i64 x.hi.c)) zb A5 c5 B5 d5 x) := Lib.hid (ansC_set rfl hy3 zn1 zn2 ZC.out HA.out HW.out nz1.out nz2.out)
        refine wpAnyH_ready (rs := [9]) (by kernel_rfl) (by simp) ?_
        refine AllReadyH.cons (o := { dst := none, op := Op.store 34 (Operand.tmp 10) (Operand.tmp 45), type := 0, pos := "exact.go:3040", after := #[{ on := 8, ground := Ground.data }, { on := 5, ground := Ground.data }, { on := 3, ground := Ground.chain }, { on := 0, ground := Ground.phase }, { on := 1, ground := Ground.phase }, { on := 2, ground := Ground.phase }, { on := 3, ground := Ground.phase }, { on := 4, ground := Ground.phase }, { on := 5, ground := Ground.phase }, { on := 6, ground := Ground.textOnly Departure.lateStores }, { on := 7, ground := Ground.textOnly Departure.lateStores }, { on := 8, ground := Ground.phase }], guard := none }) rfl (fun K hK => ?_) AllReadyH.nil
        go_simp
        refine hK.out _ _ (by exact ⟨rngC CV.out FINA.out.be slV, rngC CR.out FINA.out.be slR⟩) (fun hHeld => ?_)
        clear hK K
        try simp only [Act.put, List.setIfInBounds_toArray, List.set_cons_zero, List.set_cons_succ]
        refine kT 10 ?_
        go_frame
        refine kT 11 ?_
        go_frame
        refine wpAnyH_done (by kernel_rfl) ?_ _
        refine NoPanic.normal ?_
        clear hHeld
        go_wp2_with fail
        go_meet
        exact ⟨zb, A5, c5, B5, d5, x, bq, zz, rfl, rfl, rfl, HV, FINA⟩
    · go_simp
      have hy1 : Below w7.heap.size w7 (y0.alloc (.cells #[.int .i64 0, .int .i64 0, .slice none 0 0, .slice none 0 0, .int .i64 0, .int .i64 0, .int .i64 0, .int .i64 0, .int .i64 0, .int .i64 0] 34)) := hbd.alloc hbd.size _
      refine hK.out _ _ (by exact ⟨rngC CV.out hy1 slV, rngC CR.out hy1 slR⟩) (fun hHeld => ?_)
      clear hK K
      try simp only [Act.put, List.setIfInBounds_toArray, List.set_cons_zero, List.set_cons_succ]
      have ZC := Lib.hid (Cells.new y0 [.int .i64 0, .int .i64 0, .slice none 0 0, .slice none 0 0, .int .i64 0, .int .i64 0, .int .i64 0, .int .i64 0, .int .i64 0, .int .i64 0] 34)
      have ZF : Hid (∀ i, (y0.alloc (.cells #[.int .i64 0, .int .i64 0, .slice none 0 0, .slice none 0 0, .int .i64 0, .int .i64 0, .int .i64 0, .int .i64 0, .int .i64 0, .int .i64 0] 34)).frozen? ⟨y0.heap.size, i, none⟩ = false) := Lib.hid (fun i => by simp [go_sem])
      have zn1 : w7.heap.size ≤ y0.heap.size := hbd.size
      have zn2 : y0.heap.size < (y0.alloc (.cells #[.int .i64 0, .int .i64 0, .slice none 0 0, .slice none 0 0, .int .i64 0, .int .i64 0, .int .i64 0, .int .i64 0, .int .i64 0, .int .i64 0] 34)).heap.size := by simp
      have zk : Below y0.heap.size y0 (y0.alloc (.cells #[.int .i64 0, .int .i64 0, .slice none 0 0, .slice none 0 0, .int .i64 0, .int .i64 0, .int .i64 0, .int .i64 0, .int .i64 0, .int .i64 0] 34)) := bal (Below.refl _ _) _
      clear zk
      obtain ⟨zb, hzb⟩ : ∃ z, z = y0.heap.size := ⟨_, rfl⟩
      rw [← hzb] at ZC ZF zn1 zn2 ⊢
      generalize y0.alloc (.cells #[.int .i64 0, .int .i64 0, .slice none 0 0, .slice none 0 0, .int .i64 0, .int .i64 0, .int .i64 0, .int .i64 0, .int .i64 0, .int .i64 0] 34) = y1 at *
      clear hzb
      refine wpAnyH_ready (rs := [2]) (by kernel_rfl) (by simp) ?_
      refine AllReadyH.cons (o := { dst := some 43, op := Op.call { callee := Callee.value (Operand.func 9), args := #[Operand.tmp 42], argTypes := #[28] }, type := 38, pos := "exact.go:3040", after := #[{ on := 1, ground := Ground.data }], guard := none }) rfl (fun K hK => ?_) AllReadyH.nil
      go_simp
      have hqr : Calls Tryz.prog 9 #[.agg LR.toArray] y1 (fun e w' => e = .returned (.agg LR.toArray) ∧ Below y1.heap.size y1 w') := by rw [ER.out]; exact toRecord_any r y1
      refine hqr.mono ?_
      rintro q y2 ⟨rfl, hbn⟩
      clear hqr
      have hy2 : Below w7.heap.size w7 y2 := hy1.trans (hbn.mono hy1.size)
      refine hK.out _ _ (by exact ⟨rngC CV.out hy2 slV, rngC CR.out hy2 slR⟩) (fun hHeld => ?_)
      clear hK K
      try simp only [Act.put, List.setIfInBounds_toArray, List.set_cons_zero, List.set_cons_succ]
      have ZC := Lib.hid (ZC.out.below hbn zn2)
      have ZF : Hid (∀ i, y2.frozen? ⟨zb, i, none⟩ = false) := Lib.hid (fun i => (hbn.frozen (p := ⟨zb, i, none⟩) zn2).trans (ZF.out i))
      have zn2 : zb < y2.heap.size := Nat.lt_of_lt_of_le zn2 hbn.size
      clear hbn
      refine wpAnyH_ready (rs := [3]) (by kernel_rfl) (by simp) ?_
      refine AllReadyH.cons (o := { dst := some 44, op := Op.call { callee := Callee.value (Operand.func 10), args := #[Operand.tmp 41, Operand.tmp 43], argTypes := #[34, 38] }, type := 35, pos := "exact.go:3040", after := #[{ on := 0, ground := Ground.data }, { on := 2, ground := Ground.data }, { on := 2, ground := Ground.chain }], guard := none }) rfl (fun K hK => ?_) AllReadyH.nil
      go_simp
      have hqa : Calls Tryz.prog 10 #[.agg LV.toArray, .agg LR.toArray] y2 (AplAns s r y2) := by rw [ER.out, EV.out]; exact applyRecord_any A6 c6 B6 d6 s r y2.heap.size y2 ((O7.out.below hy2 (by omega)).more (by have := hy2.size; omega)) (Nat.le_refl _) HFE.out HFT.out hlen hlen2 hsm (HP.out _ (b7.trans (hy2.mono (by omega)))).1 (HP.out _ (b7.trans (hy2.mono (by omega)))).2.1 (HP.out _ (b7.trans (hy2.mono (by omega)))).2.2.1 (HP.out _ (b7.trans (hy2.mono (by omega)))).2.2.2
      refine hqa.mono ?_
      rintro q y3 ⟨x, bq, zz, A5, c5, B5, d5, hv5, rfl, hs5, ho5, _, _, hbn⟩
      clear hqa
      have HV := Lib.hid hv5; have HA := Lib.hid hs5; clear hv5 hs5
      have HW : Hid (StOwn w7.heap.size y3 A5 B5) := Lib.hid (own_more ho5 hy2.size)
      have HBL : Hid ((∀ b, blk A5 = some b → b < y3.heap.size) ∧ ∀ b, blk B5 = some b → b < y3.heap.size) := Lib.hid ⟨fun b e => (ho5.2.2.1 b e).2, fun b e => (ho5.2.2.2.1 b e).2⟩
      have nz1 : Hid (blk A5 ≠ some zb) := Lib.hid (fun e => by have := (ho5.2.2.1 _ e).1; omega)
      have nz2 : Hid (blk B5 ≠ some zb) := Lib.hid (fun e => by have := (ho5.2.2.2.1 _ e).1; omega)
      clear ho5
      have hy3 : Below w7.heap.size w7 y3 := hy2.trans (hbn.mono hy2.size)
      refine hK.out _ _ (by exact ⟨rngC CV.out hy3 slV, rngC CR.out hy3 slR⟩) (fun hHeld => ?_)
      clear hK K
      try simp only [Act.put, List.setIfInBounds_toArray, List.set_cons_zero, List.set_cons_succ]
      have ZC := Lib.hid (ZC.out.below hbn zn2)
      have ZF : Hid (∀ i, y3.frozen? ⟨zb, i, none⟩ = false) := Lib.hid (fun i => (hbn.frozen (p := ⟨zb, i, none⟩) zn2).trans (ZF.out i))
      have zn2 : zb < y3.heap.size := Nat.lt_of_lt_of_le zn2 hbn.size
      clear hbn
      refine kT 4 ?_
      go_frame
      refine kT 5 ?_
      go_frame
      refine kT 6 ?_
      go_frame
      refine kT 7 ?_
      go_frame
      obtain ⟨z0, z1, z2, z3, z4, z5, z6, z7, z8, z9⟩ := ZC.out.ten
      have yf0 := ZF.out 0
      have yf1 := ZF.out 1
      have yf2 := ZF.out 2
      have yf3 := ZF.out 3
      have yf4 := ZF.out 4
      have yf5 := ZF.out 5
      have yf6 := ZF.out 6
      have yf7 := ZF.out 7
      have yf8 := ZF.out 8
      have yf9 := ZF.out 9
      have FINA : Hid (AnsC w7 ((((((((((y3.setCell ⟨zb, 0, none⟩ (.int .i64 x.sq)).setCell ⟨zb, 1, none⟩ (.int .i64 x.fe)).setCell ⟨zb, 2, none⟩ (.slice A5 x.ents.length c5)).setCell ⟨zb, 3, none⟩ (.slice B5 x.tmbs.length d5)).setCell ⟨zb, 4, none⟩ (.int .i64 x.lo.a)).setCell ⟨zb, 5, none⟩ (.int .i64 x.lo.b)).setCell ⟨zb, 6, none⟩ (.int .i64 x.lo.c)).setCell ⟨zb, 7, none⟩ (.int .i64 x.hi.a)).setCell ⟨zb, 8, none⟩ (.int .i64 x.hi.b)).setCell ⟨zb, 9, none⟩ (.int .i64 x.hi.c)) zb A5 c5 B5 d5 x) := Lib.hid (ansC_set rfl hy3 zn1 zn2 ZC.out HA.out HW.out nz1.out nz2.out)
      refine wpAnyH_ready (rs := [9]) (by kernel_rfl) (by simp) ?_
      refine AllReadyH.cons (o := { dst := none, op := Op.store 34 (Operand.tmp 10) (Operand.tmp 45), type := 0, pos := "exact.go:3040", after := #[{ on := 8, ground := Ground.data }, { on := 5, ground := Ground.data }, { on := 3, ground := Ground.chain }, { on := 0, ground := Ground.phase }, { on := 1, ground := Ground.phase }, { on := 2, ground := Ground.phase }, { on := 3, ground := Ground.phase }, { on := 4, ground := Ground.phase }, { on := 5, ground := Ground.phase }, { on := 6, ground := Ground.textOnly Departure.lateStores }, { on := 7, ground := Ground.textOnly Departure.lateStores }, { on := 8, ground := Ground.phase }], guard := none }) rfl (fun K hK => ?_) AllReadyH.nil
      go_simp
      refine hK.out _ _ (by exact ⟨rngC CV.out FINA.out.be slV, rngC CR.out FINA.out.be slR⟩) (fun hHeld => ?_)
      clear hK K
      try simp only [Act.put, List.setIfInBounds_toArray, List.set_cons_zero, List.set_cons_succ]
      refine kT 10 ?_
      go_frame
      refine kT 11 ?_
      go_frame
      refine wpAnyH_done (by kernel_rfl) ?_ _
      refine NoPanic.normal ?_
      clear hHeld
      go_wp2_with fail
      go_meet
      exact ⟨zb, A5, c5, B5, d5, x, bq, zz, rfl, rfl, rfl, HV, FINA⟩
  case rest =>
  clear CV slV CR slR hbd
  obtain ⟨nu, A10, c10, B10, d10, x', bu, zu, rfl, rfl, rfl, Hv11, HC11⟩ := hcut
  obtain ⟨e0, e1, e2⟩ := Hv5.out.one Hv11.out
  subst e0 e1 e2
  generalize hwc : wc = w11 at *
  clear hwc
  have hb11 := HC11.out.be
  have U11 := Lib.hid HC11.out.bx
  have G11 := Lib.hid HC11.out.st
  have E11 := Lib.hid HC11.out.ow
  have nu1 := HC11.out.n1
  have nu2 := HC11.out.n2
  have NU := Lib.hid (show blk A10 ≠ some nu ∧ blk B10 ≠ some nu from ⟨HC11.out.ne, HC11.out.ne2⟩)
  clear Hv11
  have T11 := Lib.hid (T7.out.below hb11 (by omega))
  have R11 := Lib.hid (R7.out.below hb11 (by omega))
  have M11 := Lib.hid (M7.out.below hb11 (by omega))
  have S11 := Lib.hid (S7.out.below hb11 (by omega))
  have O11 := Lib.hid (O7.out.below hb11 (by omega))
  have W11 := Lib.hid (W7.out.below hb11 (Nat.le_refl _))
  have V11 := Lib.hid (V7.out.below hb11 (by omega))
  have b11 : Below x0 w w11 := b7.trans (hb11.mono (by omega))
  have s11 : w7.heap.size ≤ w11.heap.size := hb11.size
  clear T7 R7 M7 S7 O7 W7 V7 b7 hb11 HC11
  generalize w7.heap.size = x7 at *
  have dcb : (bu != bu) = false := by simp
  have dcb2 : (bu == bu) = true := by simp
  have dcz : (zu != zu) = false := by simp
  have dcz2 : (zu == zu) = true := by simp
  obtain ⟨u0, u1, u2, u3, u4, u5, u6, u7, u8, u9⟩ := U11.out.ten
  obtain ⟨m0, m1, m2, m3, m4, m5, m6, m7, m8, m9⟩ := M11.out.ten
  go_wp2_with fail
  refine (eqState_any A10 c10 B10 d10 A5 c5 B5 d5 x' x' w11.heap.size w11 (G11.out.more (by omega)) (S11.out.more (by omega)) (Nat.le_refl _) (by omega) (by omega) (by omega) (by omega)).mono ?_
  rintro e w12 ⟨be, hbe, rfl, hb12⟩
  obtain rfl : be = true := hbe.2 rfl; clear hbe
  have T12 := Lib.hid (T11.out.below hb12 (by omega))
  have R12 := Lib.hid (R11.out.below hb12 (by omega))
  have M12 := Lib.hid (M11.out.below hb12 (by omega))
  have S12 := Lib.hid (S11.out.below hb12 (by omega))
  have O12 := Lib.hid (O11.out.below hb12 (by omega))
  have W12 := Lib.hid (W11.out.below hb12 (Nat.le_refl _))
  have V12 := Lib.hid (V11.out.below hb12 (by omega))
  have U12 := Lib.hid (U11.out.below hb12 (by omega))
  have G12 := Lib.hid (G11.out.below hb12 (by omega))
  have E12 := Lib.hid (E11.out.below hb12 (Nat.le_refl _))
  have b12 : Below x0 w w12 := b11.trans (hb12.mono (by omega))
  have s12 : w11.heap.size ≤ w12.heap.size := hb12.size
  clear T11 R11 M11 S11 O11 W11 V11 U11 G11 E11 hb12 b11 u0 u1 u2 u3 u4 u5 u6 u7 u8 u9 m0 m1 m2 m3 m4 m5 m6 m7 m8 m9
  generalize w11.heap.size = x11 at *
  have CV : Hid (Cells w12 x6 0 LV) := Lib.hid (by rw [HLV.out]; exact V12.out)
  have CT : Hid (Cells w12 x0 0 LT) := Lib.hid (by rw [HLT.out]; exact T12.out)
  have s126 : x6 < w12.heap.size := by omega
  have s120 : x0 < w12.heap.size := by omega
  go_upto_region 13 with fail
  have bdr : Below x0 w w12.drew := b12.drew
  have zdr : w12.drew.heap.size = w12.heap.size := rfl
  refine wp_region_noPanic ?_
  refine wp_region_held_drew (S := fun w' => w'.rangeAt x6 0 LV ∧ w'.rangeAt x0 0 LT) (by kernel_rfl) (by exact ⟨rngC CV.out (Below.refl w12.heap.size w12).drew s126, rngC CT.out (Below.refl w12.heap.size w12).drew s120⟩) (fun hHeld => ?_)
  refine' wpAnyH_take (i := 0) (oi := { dst := some 62, op := Op.load 34 (Operand.tmp 9), type := 34, pos := "exact.go:3044", after := #[], guard := none }) (v := _) rfl (by kernel_rfl) (by kernel_rfl) (by kernel_rfl) (fun _ _ _ h => h) (yieldsIf_load_mid (by rfl) _ _ rfl _ _ rfl LV _ ?hSr0 ?hur0 ?hdr0 ?hir0) (by assumption) ?restr0
  case hSr0 => exact fun w hSw => hSw.1
  case hur0 => exact Tryz.underlying34
  case hdr0 => rfl
  case hir0 => exact infoStt.trans (by rw [HNV.out])
  try simp only [Act.put, List.setIfInBounds_toArray, List.set_cons_zero, List.set_cons_succ]
  refine' wpAnyH_take (i := 1) (oi := { dst := some 63, op := Op.load 26 (Operand.tmp 2), type := 26, pos := "exact.go:3044", after := #[], guard := none }) (v := _) rfl (by kernel_rfl) (by kernel_rfl) (by kernel_rfl) (fun _ _ _ h => h) (yieldsIf_load_mid (by rfl) _ _ rfl _ _ rfl LT _ ?hSr1 ?hur1 ?hdr1 ?hir1) (by assumption) ?restr1
  case hSr1 => exact fun w hSw => hSw.2
  case hur1 => exact Tryz.underlying26
  case hdr1 => rfl
  case hir1 => exact infoLS.trans (by rw [HNT.out])
  try simp only [Act.put, List.setIfInBounds_toArray, List.set_cons_zero, List.set_cons_succ]
  refine wpAnyH_ready (rs := [2]) (by kernel_rfl) (by simp) ?_
  refine AllReadyH.cons (o := { dst := some 64, op := Op.call { callee := Callee.value (Operand.func 8), args := #[Operand.tmp 63], argTypes := #[26] }, type := 34, pos := "exact.go:3044", after := #[{ on := 1, ground := Ground.data }], guard := none }) rfl (fun K hK => ?_) AllReadyH.nil
  go_simp
  have hqz : Calls Tryz.prog 8 #[.agg LT.toArray] w12.drew (NewStt s w12.drew) := by rw [ET.out]; exact toState_any A c A2 c2 s x0 w12.drew (HS.out _ bdr) (by omega) hlen hlen2
  refine hqz.mono ?_
  rintro e w13 ⟨A13, c13, B13, d13, rfl, ho13, _, _, _, hb13'⟩
  clear hqz
  have Ho13 := Lib.hid ho13; clear ho13
  have hb13 : Below w12.heap.size w12 w13 := (Below.refl _ _).drew.trans hb13'
  clear hb13'
  refine hK.out _ _ (by exact ⟨rngC CV.out hb13 s126, rngC CT.out hb13 s120⟩) (fun hHeld => ?_)
  clear hK K
  try simp only [Act.put, List.setIfInBounds_toArray, List.set_cons_zero, List.set_cons_succ]
  refine wpAnyH_ready (rs := [3]) (by kernel_rfl) (by simp) ?_
  refine AllReadyH.cons (o := { dst := some 65, op := Op.call { callee := Callee.value (Operand.func 11), args := #[Operand.tmp 62, Operand.tmp 64], argTypes := #[34, 34] }, type := 4, pos := "exact.go:3044", after := #[{ on := 0, ground := Ground.data }, { on := 2, ground := Ground.data }, { on := 2, ground := Ground.chain }], guard := none }) rfl (fun K hK => ?_) AllReadyH.nil
  go_simp
  have hqe : Calls Tryz.prog 11 #[.agg LV.toArray, .agg #[.int .i64 s.sq, .int .i64 s.fe, .slice A13 s.ents.length c13, .slice B13 s.tmbs.length d13, .int .i64 s.lo.a, .int .i64 s.lo.b, .int .i64 s.lo.c, .int .i64 s.hi.a, .int .i64 s.hi.b, .int .i64 s.hi.c]] w13 (IsBB (s = s) w13) := by rw [EV.out]; exact eqState_any A6 c6 B6 d6 A13 c13 B13 d13 s s w13.heap.size w13 ((O12.out.below hb13 (by omega)).more (by have := hb13.size; omega)) Ho13.out (Nat.le_refl _) (by omega) (by omega) (by omega) (by omega)
  refine hqe.mono ?_
  rintro e w14 ⟨be, hbe, rfl, hb14⟩
  obtain rfl : be = true := hbe.2 (by trivial)
  clear hbe hqe
  have hbz : Below w12.heap.size w12 w14 := hb13.trans (hb14.mono hb13.size)
  refine hK.out _ _ (by exact ⟨rngC CV.out hbz s126, rngC CT.out hbz s120⟩) (fun hHeld => ?_)
  clear hK K
  try simp only [Act.put, List.setIfInBounds_toArray, List.set_cons_zero, List.set_cons_succ]
  refine kT 4 ?_
  go_frame
  refine wpAnyH_done (by kernel_rfl) ?_ _
  refine NoPanic.normal ?_
  clear hHeld bdr zdr CV CT
  clear hbz
  have hb15 : Below w12.heap.size w12 w14 := bnext hb13 hb14
  clear hb13 hb14 Ho13
  obtain ⟨w15, hw15⟩ : ∃ w15, w15 = w14 := ⟨_, rfl⟩
  rw [← hw15] at hb15 ⊢
  clear hw15
  have T15 := Lib.hid (T12.out.below hb15 (by omega))
  have R15 := Lib.hid (R12.out.below hb15 (by omega))
  have M15 := Lib.hid (M12.out.below hb15 (by omega))
  have S15 := Lib.hid (S12.out.below hb15 (by omega))
  have O15 := Lib.hid (O12.out.below hb15 (by omega))
  have W15 := Lib.hid (W12.out.below hb15 (Nat.le_refl _))
  have V15 := Lib.hid (V12.out.below hb15 (by omega))
  have U15 := Lib.hid (U12.out.below hb15 (by omega))
  have G15 := Lib.hid (G12.out.below hb15 (by omega))
  have E15 := Lib.hid (E12.out.below hb15 (Nat.le_refl _))
  have b15 : Below x0 w w15 := b12.trans (hb15.mono (by omega))
  have s15 : w12.heap.size ≤ w15.heap.size := hb15.size
  clear T12 R12 M12 S12 O12 W12 V12 U12 G12 E12 hb15 b12 s126 s120
  generalize w12.heap.size = x12 at *
  obtain ⟨v0, v1, v2, v3, v4, v5, v6, v7, v8, v9⟩ := V15.out.ten
  go_wp2_with fail
  refine (markState_any A6 c6 B6 d6 s 1 w15 (O15.out.more (by omega)) x5 W15.out hlen hlen2 (by omega) (by omega)).mono ?_
  rintro e w16 ⟨rfl, _, _, w16', g1, g2⟩
  have hb16 : Below x5 w15 w16 := two_below g1 g2 (by omega) W15.out
  obtain ⟨tk, ts⟩ := two_keep g1 g2
  have hk : ∀ i, x7 ≤ i → i < w15.heap.size → w16.heap[i]? = w15.heap[i]? := fun i h1 h2 => tk i h2 (fun e => by have := Hbl6.out i (.inl e); omega) (fun e => by have := Hbl6.out i (.inr e); omega)
  clear g1 g2 tk w16'
  have T16 := Lib.hid (T15.out.below hb16 (by omega))
  have R16 := Lib.hid (R15.out.below hb16 (by omega))
  have M16 := Lib.hid (M15.out.below hb16 (by omega))
  have S16 := Lib.hid (S15.out.below hb16 (by omega))
  have U16 := Lib.hid (cells_keep U15.out (hk nu (by omega) (by omega)))
  obtain ⟨gg, ee⟩ := st_keep hk ts G15.out E15.out
  have G16 := Lib.hid gg; have E16 := Lib.hid ee; clear gg ee
  have b16 : Below x0 w w16 := b15.trans (hb16.mono (by omega))
  have s16 : w15.heap.size ≤ w16.heap.size := hb16.size
  clear T15 R15 M15 S15 O15 W15 V15 U15 G15 E15 hb16 b15 hk ts v0 v1 v2 v3 v4 v5 v6 v7 v8 v9
  generalize w15.heap.size = x15 at *
  have dk : decide (1 + 4 * (s.ents.length : Int) + 2 * (s.tmbs.length : Int) < 0) = false := decide_eq_false (by omega)
  obtain ⟨u0, u1, u2, u3, u4, u5, u6, u7, u8, u9⟩ := U16.out.ten
  obtain ⟨m0, m1, m2, m3, m4, m5, m6, m7, m8, m9⟩ := M16.out.ten
  go_wp2_with fail
  refine (eqState_any A10 c10 B10 d10 A5 c5 B5 d5 x' x' w16.heap.size w16 (G16.out.more (by omega)) (S16.out.more (by omega)) (Nat.le_refl _) (by omega) (by omega) (by omega) (by omega)).mono ?_
  rintro e w17 ⟨be, hbe, rfl, hb17⟩
  obtain rfl : be = true := hbe.2 rfl; clear hbe
  have T17 := Lib.hid (T16.out.below hb17 (by omega))
  have R17 := Lib.hid (R16.out.below hb17 (by omega))
  have M17 := Lib.hid (M16.out.below hb17 (by omega))
  have S17 := Lib.hid (S16.out.below hb17 (by omega))
  have U17 := Lib.hid (U16.out.below hb17 (by omega))
  have G17 := Lib.hid (G16.out.below hb17 (by omega))
  have E17 := Lib.hid (E16.out.below hb17 (Nat.le_refl _))
  have b17 : Below x0 w w17 := b16.trans (hb17.mono (by omega))
  have s17 : w16.heap.size ≤ w17.heap.size := hb17.size
  clear T16 R16 M16 S16 U16 G16 E16 hb17 b16 u0 u1 u2 u3 u4 u5 u6 u7 u8 u9 m0 m1 m2 m3 m4 m5 m6 m7 m8 m9 dk
  generalize w16.heap.size = x16 at *
  obtain ⟨u0, u1, u2, u3, u4, u5, u6, u7, u8, u9⟩ := U17.out.ten
  go_wp2_with fail
  refine (markState_any A10 c10 B10 d10 x' 1 w17 (G17.out.more (by omega)) x7 E17.out hxl hxl2 (by omega) (by omega)).mono ?_
  rintro e w18 ⟨rfl, hm18, _, w18', g1, g2⟩
  have N18 := Lib.hid hm18; clear hm18
  have hb18 : Below x7 w17 w18 := two_below g1 g2 (by omega) E17.out
  obtain ⟨tk, ts⟩ := two_keep g1 g2
  have U18 := Lib.hid (cells_keep U17.out (tk nu (by omega) NU.out.1 NU.out.2))
  clear g1 g2 tk ts w18'
  have T18 := Lib.hid (T17.out.below hb18 (by omega))
  have R18 := Lib.hid (R17.out.below hb18 (by omega))
  have M18 := Lib.hid (M17.out.below hb18 (by omega))
  have S18 := Lib.hid (S17.out.below hb18 (by omega))
  have b18 : Below x0 w w18 := b17.trans (hb18.mono (by omega))
  have s18 : w17.heap.size ≤ w18.heap.size := hb18.size
  clear T17 R17 M17 S17 U17 G17 E17 hb18 b17 u0 u1 u2 u3 u4 u5 u6 u7 u8 u9
  generalize w17.heap.size = x17 at *
  have dq : decide (1 + 4 * (x'.ents.length : Int) + 2 * (x'.tmbs.length : Int) < 0) = false := decide_eq_false (by omega)
  have dq2 : ((1 + 4 * (x'.ents.length : Int) + 2 * (x'.tmbs.length : Int)) != (1 + 4 * (x'.ents.length : Int) + 2 * (x'.tmbs.length : Int))) = false := by simp
  have dq3 : ((1 + 4 * (x'.ents.length : Int) + 2 * (x'.tmbs.length : Int)) == (1 + 4 * (x'.ents.length : Int) + 2 * (x'.tmbs.length : Int))) = true := by simp
  obtain ⟨u0, u1, u2, u3, u4, u5, u6, u7, u8, u9⟩ := U18.out.ten
  go_wp2_with fail
  refine (heldState_any A10 c10 B10 d10 x' 1 w18.heap.size w18 (N18.out.more (by omega)) (Nat.le_refl _) hxl hxl2 (by omega) (by omega)).mono ?_
  rintro e w19 ⟨rfl, hb19⟩
  have T19 := Lib.hid (T18.out.below hb19 (by omega))
  have R19 := Lib.hid (R18.out.below hb19 (by omega))
  have M19 := Lib.hid (M18.out.below hb19 (by omega))
  have S19 := Lib.hid (S18.out.below hb19 (by omega))
  have U19 := Lib.hid (U18.out.below hb19 (by omega))
  have N19 := Lib.hid (N18.out.below hb19 (by omega))
  have b19 : Below x0 w w19 := b18.trans (hb19.mono (by omega))
  have s19 : w18.heap.size ≤ w19.heap.size := hb19.size
  clear T18 R18 M18 S18 U18 N18 hb19 b18 u0 u1 u2 u3 u4 u5 u6 u7 u8 u9
  generalize w18.heap.size = x18 at *
  have CT : Hid (Cells w19 x0 0 LT) := Lib.hid (by rw [HLT.out]; exact T19.out)
  have slT : x0 < w19.heap.size := by omega
  have CR : Hid (Cells w19 (x0 + 1) 0 LR) := Lib.hid (by rw [HLR.out]; exact R19.out)
  have slR : (x0 + 1) < w19.heap.size := by omega
  have hbd : Below w19.heap.size w19 w19.drew := (Below.refl _ _).drew
  go_upto_region 27 with fail
  go_cut [16, 17, 18] (fun p q z wx => ∃ (nb : Nat) (A' : Option Addr) (c' : Nat) (B' : Option Addr) (d' : Nat) (x : GSt) (b : Bool) (zz : Int), p = .pointer (some ⟨nb, 0, none⟩) ∧ q = .bool b ∧ z = .int .i64 zz ∧ Hid (AplVal s r x b zz) ∧ Hid (AnsC w19 wx nb A' c' B' d' x))
  case first =>
    refine wp_region_noPanic ?_
    refine wp_region_held_drew (S := fun w' => w'.rangeAt x0 0 LT ∧ w'.rangeAt (x0 + 1) 0 LR) (by kernel_rfl) (by exact ⟨rngC CT.out hbd slT, rngC CR.out hbd slR⟩) (fun hHeld => ?_)
    generalize hVd : w19.drew = y0 at hHeld hbd ⊢
    clear hVd
    refine' wpAnyH_take (i := 0) (oi := { dst := some 100, op := Op.load 26 (Operand.tmp 2), type := 26, pos := "exact.go:3062", after := #[], guard := none }) (v := _) rfl (by kernel_rfl) (by kernel_rfl) (by kernel_rfl) (fun _ _ _ h => h) (yieldsIf_load_mid (by rfl) _ _ rfl _ _ rfl LT _ ?hSq27_0 ?huq27_0 ?hdq27_0 ?hiq27_0) (by assumption) ?restq27_0
    case hSq27_0 => exact fun w hSw => hSw.1
    case huq27_0 => exact Tryz.underlying26
    case hdq27_0 => rfl
    case hiq27_0 => exact infoLS.trans (by rw [HNT.out])
    try simp only [Act.put, List.setIfInBounds_toArray, List.set_cons_zero, List.set_cons_succ]
    refine' wpAnyH_take (i := 2) (oi := { dst := some 102, op := Op.load 28 (Operand.tmp 3), type := 28, pos := "exact.go:3062", after := #[], guard := none }) (v := _) rfl (by kernel_rfl) (by kernel_rfl) (by kernel_rfl) (fun _ _ _ h => h) (yieldsIf_load_mid (by rfl) _ _ rfl _ _ rfl LR _ ?hSq27_2 ?huq27_2 ?hdq27_2 ?hiq27_2) (by assumption) ?restq27_2
    case hSq27_2 => exact fun w hSw => hSw.2
    case huq27_2 => exact Tryz.underlying28
    case hdq27_2 => rfl
    case hiq27_2 => exact infoLR.trans (by rw [HNR.out])
    try simp only [Act.put, List.setIfInBounds_toArray, List.set_cons_zero, List.set_cons_succ]
    refine wpAnyH_ready (rs := [1, 9]) (by kernel_rfl) (by simp) ?_
    refine AllReadyH.cons (o := { dst := some 101, op := Op.call { callee := Callee.value (Operand.func 8), args := #[Operand.tmp 100], argTypes := #[26] }, type := 34, pos := "exact.go:3062", after := #[{ on := 0, ground := Ground.data }], guard := none }) rfl (fun K hK => ?_) (AllReadyH.cons (o := { dst := some 16, op := Op.alloc 34, type := 0, pos := "exact.go:3062", after := #[], guard := none }) rfl (fun K hK => ?_) AllReadyH.nil)
    · go_simp
      have hqz : Calls Tryz.prog 8 #[.agg LT.toArray] y0 (NewStt s y0) := by rw [ET.out]; exact toState_any A c A2 c2 s x0 y0 (HS.out _ (b19.trans (hbd.mono (by omega)))) (by have := hbd.size; omega) hlen hlen2
      refine hqz.mono ?_
      rintro q y1 ⟨A3, c3, B3, d3, rfl, ho3, _, _, _, hbn⟩
      clear hqz
      have HO := Lib.hid ho3; clear ho3
      have hy1 : Below w19.heap.size w19 y1 := hbd.trans (hbn.mono hbd.size)
      refine hK.out _ _ (by exact ⟨rngC CT.out hy1 slT, rngC CR.out hy1 slR⟩) (fun hHeld => ?_)
      clear hK K
      try simp only [Act.put, List.setIfInBounds_toArray, List.set_cons_zero, List.set_cons_succ]
      clear hbn
      refine wpAnyH_ready (rs := [3, 9]) (by kernel_rfl) (by simp) ?_
      refine AllReadyH.cons (o := { dst := some 103, op := Op.call { callee := Callee.value (Operand.func 9), args := #[Operand.tmp 102], argTypes := #[28] }, type := 38, pos := "exact.go:3062", after := #[{ on := 2, ground := Ground.data }, { on := 1, ground := Ground.chain }], guard := none }) rfl (fun K hK => ?_) (AllReadyH.cons (o := { dst := some 16, op := Op.alloc 34, type := 0, pos := "exact.go:3062", after := #[], guard := none }) rfl (fun K hK => ?_) AllReadyH.nil)
      · go_simp
        have hqr : Calls Tryz.prog 9 #[.agg LR.toArray] y1 (fun e w' => e = .returned (.agg LR.toArray) ∧ Below y1.heap.size y1 w') := by rw [ER.out]; exact toRecord_any r y1
        refine hqr.mono ?_
        rintro q y2 ⟨rfl, hbn⟩
        clear hqr
        have HO := Lib.hid ((HO.out.below hbn (Nat.le_refl _)).more hbn.size)
        have hy2 : Below w19.heap.size w19 y2 := hy1.trans (hbn.mono hy1.size)
        refine hK.out _ _ (by exact ⟨rngC CT.out hy2 slT, rngC CR.out hy2 slR⟩) (fun hHeld => ?_)
        clear hK K
        try simp only [Act.put, List.setIfInBounds_toArray, List.set_cons_zero, List.set_cons_succ]
        clear hbn
        refine wpAnyH_ready (rs := [4, 9]) (by kernel_rfl) (by simp) ?_
        refine AllReadyH.cons (o := { dst := some 104, op := Op.call { callee := Callee.value (Operand.func 10), args := #[Operand.tmp 101, Operand.tmp 103], argTypes := #[34, 38] }, type := 35, pos := "exact.go:3062", after := #[{ on := 1, ground := Ground.data }, { on := 3, ground := Ground.data }, { on := 3, ground := Ground.chain }], guard := none }) rfl (fun K hK => ?_) (AllReadyH.cons (o := { dst := some 16, op := Op.alloc 34, type := 0, pos := "exact.go:3062", after := #[], guard := none }) rfl (fun K hK => ?_) AllReadyH.nil)
        · go_simp
          have hqa : Calls Tryz.prog 10 #[.agg #[.int .i64 s.sq, .int .i64 s.fe, .slice A3 s.ents.length c3, .slice B3 s.tmbs.length d3, .int .i64 s.lo.a, .int .i64 s.lo.b, .int .i64 s.lo.c, .int .i64 s.hi.a, .int .i64 s.hi.b, .int .i64 s.hi.c], .agg LR.toArray] y2 (AplAns s r y2) := by rw [ER.out]; exact applyRecord_any A3 c3 B3 d3 s r y2.heap.size y2 HO.out (Nat.le_refl _) HFE.out HFT.out hlen hlen2 hsm (HP.out _ (b19.trans (hy2.mono (by omega)))).1 (HP.out _ (b19.trans (hy2.mono (by omega)))).2.1 (HP.out _ (b19.trans (hy2.mono (by omega)))).2.2.1 (HP.out _ (b19.trans (hy2.mono (by omega)))).2.2.2
          refine hqa.mono ?_
          rintro q y3 ⟨x, bq, zz, A5, c5, B5, d5, hv5, rfl, hs5, ho5, _, _, hbn⟩
          clear hqa
          have HV := Lib.hid hv5; have HA := Lib.hid hs5; clear hv5 hs5
          have HW : Hid (StOwn w19.heap.size y3 A5 B5) := Lib.hid (own_more ho5 hy2.size)
          have HBL : Hid ((∀ b, blk A5 = some b → b < y3.heap.size) ∧ ∀ b, blk B5 = some b → b < y3.heap.size) := Lib.hid ⟨fun b e => (ho5.2.2.1 b e).2, fun b e => (ho5.2.2.2.1 b e).2⟩
          clear ho5
          have hy3 : Below w19.heap.size w19 y3 := hy2.trans (hbn.mono hy2.size)
          refine hK.out _ _ (by exact ⟨rngC CT.out hy3 slT, rngC CR.out hy3 slR⟩) (fun hHeld => ?_)
          clear hK K
          try simp only [Act.put, List.setIfInBounds_toArray, List.set_cons_zero, List.set_cons_succ]
          clear hbn
          refine kT 5 ?_
          go_frame
          refine kT 6 ?_
          go_frame
          refine kT 7 ?_
          go_frame
          refine kT 8 ?_
          go_frame
          refine wpAnyH_ready (rs := [9]) (by kernel_rfl) (by simp) ?_
          refine AllReadyH.cons (o := { dst := some 16, op := Op.alloc 34, type := 0, pos := "exact.go:3062", after := #[], guard := none }) rfl (fun K hK => ?_) AllReadyH.nil
          go_simp
          have hy4 : Below w19.heap.size w19 (y3.alloc (.cells #[.int .i64 0, .int .i64 0, .slice none 0 0, .slice none 0 0, .int .i64 0, .int .i64 0, .int .i64 0, .int .i64 0, .int .i64 0, .int .i64 0] 34)) := hy3.alloc hy3.size _
          refine hK.out _ _ (by exact ⟨rngC CT.out hy4 slT, rngC CR.out hy4 slR⟩) (fun hHeld => ?_)
          clear hK K
          try simp only [Act.put, List.setIfInBounds_toArray, List.set_cons_zero, List.set_cons_succ]
          have ZC := Lib.hid (Cells.new y3 [.int .i64 0, .int .i64 0, .slice none 0 0, .slice none 0 0, .int .i64 0, .int .i64 0, .int .i64 0, .int .i64 0, .int .i64 0, .int .i64 0] 34)
          have ZF : Hid (∀ i, (y3.alloc (.cells #[.int .i64 0, .int .i64 0, .slice none 0 0, .slice none 0 0, .int .i64 0, .int .i64 0, .int .i64 0, .int .i64 0, .int .i64 0, .int .i64 0] 34)).frozen? ⟨y3.heap.size, i, none⟩ = false) := Lib.hid (fun i => by simp [go_sem])
          have zn1 : w19.heap.size ≤ y3.heap.size := hy3.size
          have zn2 : y3.heap.size < (y3.alloc (.cells #[.int .i64 0, .int .i64 0, .slice none 0 0, .slice none 0 0, .int .i64 0, .int .i64 0, .int .i64 0, .int .i64 0, .int .i64 0, .int .i64 0] 34)).heap.size := by simp
          have zk : Below y3.heap.size y3 (y3.alloc (.cells #[.int .i64 0, .int .i64 0, .slice none 0 0, .slice none 0 0, .int .i64 0, .int .i64 0, .int .i64 0, .int .i64 0, .int .i64 0, .int .i64 0] 34)) := bal (Below.refl _ _) _
          have HA := Lib.hid ((HA.out.below zk (Nat.le_refl _)).more zk.size)
          have HW := Lib.hid (HW.out.below zk (Nat.le_refl _))
          clear zk
          obtain ⟨zb, hzb⟩ : ∃ z, z = y3.heap.size := ⟨_, rfl⟩
          have nz1 : Hid (blk A5 ≠ some zb) := Lib.hid (fun e => by have := HBL.out.1 _ e; omega)
          have nz2 : Hid (blk B5 ≠ some zb) := Lib.hid (fun e => by have := HBL.out.2 _ e; omega)
          rw [← hzb] at ZC ZF zn1 zn2 ⊢
          generalize y3.alloc (.cells #[.int .i64 0, .int .i64 0, .slice none 0 0, .slice none 0 0, .int .i64 0, .int .i64 0, .int .i64 0, .int .i64 0, .int .i64 0, .int .i64 0] 34) = y4 at *
          clear hzb
          obtain ⟨z0, z1, z2, z3, z4, z5, z6, z7, z8, z9⟩ := ZC.out.ten
          have yf0 := ZF.out 0
          have yf1 := ZF.out 1
          have yf2 := ZF.out 2
          have yf3 := ZF.out 3
          have yf4 := ZF.out 4
          have yf5 := ZF.out 5
          have yf6 := ZF.out 6
          have yf7 := ZF.out 7
          have yf8 := ZF.out 8
          have yf9 := ZF.out 9
          have FINA : Hid (AnsC w19 ((((((((((y4.setCell ⟨zb, 0, none⟩ (.int .i64 x.sq)).setCell ⟨zb, 1, none⟩ (.int .i64 x.fe)).setCell ⟨zb, 2, none⟩ (.slice A5 x.ents.length c5)).setCell ⟨zb, 3, none⟩ (.slice B5 x.tmbs.length d5)).setCell ⟨zb, 4, none⟩ (.int .i64 x.lo.a)).setCell ⟨zb, 5, none⟩ (.int .i64 x.lo.b)).setCell ⟨zb, 6, none⟩ (.int .i64 x.lo.c)).setCell ⟨zb, 7, none⟩ (.int .i64 x.hi.a)).setCell ⟨zb, 8, none⟩ (.int .i64 x.hi.b)).setCell ⟨zb, 9, none⟩ (.int .i64 x.hi.c)) zb A5 c5 B5 d5 x) := Lib.hid (ansC_set rfl hy4 zn1 zn2 ZC.out HA.out HW.out nz1.out nz2.out)
          refine wpAnyH_ready (rs := [10]) (by kernel_rfl) (by simp) ?_
          refine AllReadyH.cons (o := { dst := none, op := Op.store 34 (Operand.tmp 16) (Operand.tmp 105), type := 0, pos := "exact.go:3062", after := #[{ on := 9, ground := Ground.data }, { on := 6, ground := Ground.data }, { on := 4, ground := Ground.chain }, { on := 0, ground := Ground.phase }, { on := 1, ground := Ground.phase }, { on := 2, ground := Ground.phase }, { on := 3, ground := Ground.phase }, { on := 4, ground := Ground.phase }, { on := 5, ground := Ground.phase }, { on := 6, ground := Ground.phase }, { on := 7, ground := Ground.textOnly Departure.lateStores }, { on := 8, ground := Ground.textOnly Departure.lateStores }, { on := 9, ground := Ground.phase }], guard := none }) rfl (fun K hK => ?_) AllReadyH.nil
          go_simp
          refine hK.out _ _ (by exact ⟨rngC CT.out FINA.out.be slT, rngC CR.out FINA.out.be slR⟩) (fun hHeld => ?_)
          clear hK K
          try simp only [Act.put, List.setIfInBounds_toArray, List.set_cons_zero, List.set_cons_succ]
          refine kT 11 ?_
          go_frame
          refine kT 12 ?_
          go_frame
          refine wpAnyH_done (by kernel_rfl) ?_ _
          refine NoPanic.normal ?_
          clear hHeld
          go_wp2_with fail
          go_meet
          exact ⟨zb, A5, c5, B5, d5, x, bq, zz, rfl, rfl, rfl, HV, FINA⟩
        · go_simp
          have hy3 : Below w19.heap.size w19 (y2.alloc (.cells #[.int .i64 0, .int .i64 0, .slice none 0 0, .slice none 0 0, .int .i64 0, .int .i64 0, .int .i64 0, .int .i64 0, .int .i64 0, .int .i64 0] 34)) := hy2.alloc hy2.size _
          refine hK.out _ _ (by exact ⟨rngC CT.out hy3 slT, rngC CR.out hy3 slR⟩) (fun hHeld => ?_)
          clear hK K
          try simp only [Act.put, List.setIfInBounds_toArray, List.set_cons_zero, List.set_cons_succ]
          have ZC := Lib.hid (Cells.new y2 [.int .i64 0, .int .i64 0, .slice none 0 0, .slice none 0 0, .int .i64 0, .int .i64 0, .int .i64 0, .int .i64 0, .int .i64 0, .int .i64 0] 34)
          have ZF : Hid (∀ i, (y2.alloc (.cells #[.int .i64 0, .int .i64 0, .slice none 0 0, .slice none 0 0, .int .i64 0, .int .i64 0, .int .i64 0, .int .i64 0, .int .i64 0, .int .i64 0] 34)).frozen? ⟨y2.heap.size, i, none⟩ = false) := Lib.hid (fun i => by simp [go_sem])
          have zn1 : w19.heap.size ≤ y2.heap.size := hy2.size
          have zn2 : y2.heap.size < (y2.alloc (.cells #[.int .i64 0, .int .i64 0, .slice none 0 0, .slice none 0 0, .int .i64 0, .int .i64 0, .int .i64 0, .int .i64 0, .int .i64 0, .int .i64 0] 34)).heap.size := by simp
          have zk : Below y2.heap.size y2 (y2.alloc (.cells #[.int .i64 0, .int .i64 0, .slice none 0 0, .slice none 0 0, .int .i64 0, .int .i64 0, .int .i64 0, .int .i64 0, .int .i64 0, .int .i64 0] 34)) := bal (Below.refl _ _) _
          have HO := Lib.hid ((HO.out.below zk (Nat.le_refl _)).more zk.size)
          clear zk
          obtain ⟨zb, hzb⟩ : ∃ z, z = y2.heap.size := ⟨_, rfl⟩
          rw [← hzb] at ZC ZF zn1 zn2 ⊢
          generalize y2.alloc (.cells #[.int .i64 0, .int .i64 0, .slice none 0 0, .slice none 0 0, .int .i64 0, .int .i64 0, .int .i64 0, .int .i64 0, .int .i64 0, .int .i64 0] 34) = y3 at *
          clear hzb
          refine wpAnyH_ready (rs := [4]) (by kernel_rfl) (by simp) ?_
          refine AllReadyH.cons (o := { dst := some 104, op := Op.call { callee := Callee.value (Operand.func 10), args := #[Operand.tmp 101, Operand.tmp 103], argTypes := #[34, 38] }, type := 35, pos := "exact.go:3062", after := #[{ on := 1, ground := Ground.data }, { on := 3, ground := Ground.data }, { on := 3, ground := Ground.chain }], guard := none }) rfl (fun K hK => ?_) AllReadyH.nil
          go_simp
          have hqa : Calls Tryz.prog 10 #[.agg #[.int .i64 s.sq, .int .i64 s.fe, .slice A3 s.ents.length c3, .slice B3 s.tmbs.length d3, .int .i64 s.lo.a, .int .i64 s.lo.b, .int .i64 s.lo.c, .int .i64 s.hi.a, .int .i64 s.hi.b, .int .i64 s.hi.c], .agg LR.toArray] y3 (AplAns s r y3) := by rw [ER.out]; exact applyRecord_any A3 c3 B3 d3 s r y3.heap.size y3 HO.out (Nat.le_refl _) HFE.out HFT.out hlen hlen2 hsm (HP.out _ (b19.trans (hy3.mono (by omega)))).1 (HP.out _ (b19.trans (hy3.mono (by omega)))).2.1 (HP.out _ (b19.trans (hy3.mono (by omega)))).2.2.1 (HP.out _ (b19.trans (hy3.mono (by omega)))).2.2.2
          refine hqa.mono ?_
          rintro q y4 ⟨x, bq, zz, A5, c5, B5, d5, hv5, rfl, hs5, ho5, _, _, hbn⟩
          clear hqa
          have HV := Lib.hid hv5; have HA := Lib.hid hs5; clear hv5 hs5
          have HW : Hid (StOwn w19.heap.size y4 A5 B5) := Lib.hid (own_more ho5 hy3.size)
          have HBL : Hid ((∀ b, blk A5 = some b → b < y4.heap.size) ∧ ∀ b, blk B5 = some b → b < y4.heap.size) := Lib.hid ⟨fun b e => (ho5.2.2.1 b e).2, fun b e => (ho5.2.2.2.1 b e).2⟩
          have nz1 : Hid (blk A5 ≠ some zb) := Lib.hid (fun e => by have := (ho5.2.2.1 _ e).1; omega)
          have nz2 : Hid (blk B5 ≠ some zb) := Lib.hid (fun e => by have := (ho5.2.2.2.1 _ e).1; omega)
          clear ho5
          have hy4 : Below w19.heap.size w19 y4 := hy3.trans (hbn.mono hy3.size)
          refine hK.out _ _ (by exact ⟨rngC CT.out hy4 slT, rngC CR.out hy4 slR⟩) (fun hHeld => ?_)
          clear hK K
          try simp only [Act.put, List.setIfInBounds_toArray, List.set_cons_zero, List.set_cons_succ]
          have ZC := Lib.hid (ZC.out.below hbn zn2)
          have ZF : Hid (∀ i, y4.frozen? ⟨zb, i, none⟩ = false) := Lib.hid (fun i => (hbn.frozen (p := ⟨zb, i, none⟩) zn2).trans (ZF.out i))
          have zn2 : zb < y4.heap.size := Nat.lt_of_lt_of_le zn2 hbn.size
          clear hbn
          refine kT 5 ?_
          go_frame
          refine kT 6 ?_
          go_frame
          refine kT 7 ?_
          go_frame
          refine kT 8 ?_
          go_frame
          obtain ⟨z0, z1, z2, z3, z4, z5, z6, z7, z8, z9⟩ := ZC.out.ten
          have yf0 := ZF.out 0
          have yf1 := ZF.out 1
          have yf2 := ZF.out 2
          have yf3 := ZF.out 3
          have yf4 := ZF.out 4
          have yf5 := ZF.out 5
          have yf6 := ZF.out 6
          have yf7 := ZF.out 7
          have yf8 := ZF.out 8
          have yf9 := ZF.out 9
          have FINA : Hid (AnsC w19 ((((((((((y4.setCell ⟨zb, 0, none⟩ (.int .i64 x.sq)).setCell ⟨zb, 1, none⟩ (.int .i64 x.fe)).setCell ⟨zb, 2, none⟩ (.slice A5 x.ents.length c5)).setCell ⟨zb, 3, none⟩ (.slice B5 x.tmbs.length d5)).setCell ⟨zb, 4, none⟩ (.int .i64 x.lo.a)).setCell ⟨zb, 5, none⟩ (.int .i64 x.lo.b)).setCell ⟨zb, 6, none⟩ (.int .i64 x.lo.c)).setCell ⟨zb, 7, none⟩ (.int .i64 x.hi.a)).setCell ⟨zb, 8, none⟩ (.int .i64 x.hi.b)).setCell ⟨zb, 9, none⟩ (.int .i64 x.hi.c)) zb A5 c5 B5 d5 x) := Lib.hid (ansC_set rfl hy4 zn1 zn2 ZC.out HA.out HW.out nz1.out nz2.out)
          refine wpAnyH_ready (rs := [10]) (by kernel_rfl) (by simp) ?_
          refine AllReadyH.cons (o := { dst := none, op := Op.store 34 (Operand.tmp 16) (Operand.tmp 105), type := 0, pos := "exact.go:3062", after := #[{ on := 9, ground := Ground.data }, { on := 6, ground := Ground.data }, { on := 4, ground := Ground.chain }, { on := 0, ground := Ground.phase }, { on := 1, ground := Ground.phase }, { on := 2, ground := Ground.phase }, { on := 3, ground := Ground.phase }, { on := 4, ground := Ground.phase }, { on := 5, ground := Ground.phase }, { on := 6, ground := Ground.phase }, { on := 7, ground := Ground.textOnly Departure.lateStores }, { on := 8, ground := Ground.textOnly Departure.lateStores }, { on := 9, ground := Ground.phase }], guard := none }) rfl (fun K hK => ?_) AllReadyH.nil
          go_simp
          refine hK.out _ _ (by exact ⟨rngC CT.out FINA.out.be slT, rngC CR.out FINA.out.be slR⟩) (fun hHeld => ?_)
          clear hK K
          try simp only [Act.put, List.setIfInBounds_toArray, List.set_cons_zero, List.set_cons_succ]
          refine kT 11 ?_
          go_frame
          refine kT 12 ?_
          go_frame
          refine wpAnyH_done (by kernel_rfl) ?_ _
          refine NoPanic.normal ?_
          clear hHeld
          go_wp2_with fail
          go_meet
          exact ⟨zb, A5, c5, B5, d5, x, bq, zz, rfl, rfl, rfl, HV, FINA⟩
      · go_simp
        have hy2 : Below w19.heap.size w19 (y1.alloc (.cells #[.int .i64 0, .int .i64 0, .slice none 0 0, .slice none 0 0, .int .i64 0, .int .i64 0, .int .i64 0, .int .i64 0, .int .i64 0, .int .i64 0] 34)) := hy1.alloc hy1.size _
        refine hK.out _ _ (by exact ⟨rngC CT.out hy2 slT, rngC CR.out hy2 slR⟩) (fun hHeld => ?_)
        clear hK K
        try simp only [Act.put, List.setIfInBounds_toArray, List.set_cons_zero, List.set_cons_succ]
        have ZC := Lib.hid (Cells.new y1 [.int .i64 0, .int .i64 0, .slice none 0 0, .slice none 0 0, .int .i64 0, .int .i64 0, .int .i64 0, .int .i64 0, .int .i64 0, .int .i64 0] 34)
        have ZF : Hid (∀ i, (y1.alloc (.cells #[.int .i64 0, .int .i64 0, .slice none 0 0, .slice none 0 0, .int .i64 0, .int .i64 0, .int .i64 0, .int .i64 0, .int .i64 0, .int .i64 0] 34)).frozen? ⟨y1.heap.size, i, none⟩ = false) := Lib.hid (fun i => by simp [go_sem])
        have zn1 : w19.heap.size ≤ y1.heap.size := hy1.size
        have zn2 : y1.heap.size < (y1.alloc (.cells #[.int .i64 0, .int .i64 0, .slice none 0 0, .slice none 0 0, .int .i64 0, .int .i64 0, .int .i64 0, .int .i64 0, .int .i64 0, .int .i64 0] 34)).heap.size := by simp
        have zk : Below y1.heap.size y1 (y1.alloc (.cells #[.int .i64 0, .int .i64 0, .slice none 0 0, .slice none 0 0, .int .i64 0, .int .i64 0, .int .i64 0, .int .i64 0, .int .i64 0, .int .i64 0] 34)) := bal (Below.refl _ _) _
        have HO := Lib.hid ((HO.out.below zk (Nat.le_refl _)).more zk.size)
        clear zk
        obtain ⟨zb, hzb⟩ : ∃ z, z = y1.heap.size := ⟨_, rfl⟩
        rw [← hzb] at ZC ZF zn1 zn2 ⊢
        generalize y1.alloc (.cells #[.int .i64 0, .int .i64 0, .slice none 0 0, .slice none 0 0, .int .i64 0, .int .i64 0, .int .i64 0, .int .i64 0, .int .i64 0, .int .i64 0] 34) = y2 at *
        clear hzb
        refine wpAnyH_ready (rs := [3]) (by kernel_rfl) (by simp) ?_
        refine AllReadyH.cons (o := { dst := some 103, op := Op.call { callee := Callee.value (Operand.func 9), args := #[Operand.tmp 102], argTypes := #[28] }, type := 38, pos := "exact.go:3062", after := #[{ on := 2, ground := Ground.data }, { on := 1, ground := Ground.chain }], guard := none }) rfl (fun K hK => ?_) AllReadyH.nil
        go_simp
        have hqr : Calls Tryz.prog 9 #[.agg LR.toArray] y2 (fun e w' => e = .returned (.agg LR.toArray) ∧ Below y2.heap.size y2 w') := by rw [ER.out]; exact toRecord_any r y2
        refine hqr.mono ?_
        rintro q y3 ⟨rfl, hbn⟩
        clear hqr
        have HO := Lib.hid ((HO.out.below hbn (Nat.le_refl _)).more hbn.size)
        have hy3 : Below w19.heap.size w19 y3 := hy2.trans (hbn.mono hy2.size)
        refine hK.out _ _ (by exact ⟨rngC CT.out hy3 slT, rngC CR.out hy3 slR⟩) (fun hHeld => ?_)
        clear hK K
        try simp only [Act.put, List.setIfInBounds_toArray, List.set_cons_zero, List.set_cons_succ]
        have ZC := Lib.hid (ZC.out.below hbn zn2)
        have ZF : Hid (∀ i, y3.frozen? ⟨zb, i, none⟩ = false) := Lib.hid (fun i => (hbn.frozen (p := ⟨zb, i, none⟩) zn2).trans (ZF.out i))
        have zn2 : zb < y3.heap.size := Nat.lt_of_lt_of_le zn2 hbn.size
        clear hbn
        refine wpAnyH_ready (rs := [4]) (by kernel_rfl) (by simp) ?_
        refine AllReadyH.cons (o := { dst := some 104, op := Op.call { callee := Callee.value (Operand.func 10), args := #[Operand.tmp 101, Operand.tmp 103], argTypes := #[34, 38] }, type := 35, pos := "exact.go:3062", after := #[{ on := 1, ground := Ground.data }, { on := 3, ground := Ground.data }, { on := 3, ground := Ground.chain }], guard := none }) rfl (fun K hK => ?_) AllReadyH.nil
        go_simp
        have hqa : Calls Tryz.prog 10 #[.agg #[.int .i64 s.sq, .int .i64 s.fe, .slice A3 s.ents.length c3, .slice B3 s.tmbs.length d3, .int .i64 s.lo.a, .int .i64 s.lo.b, .int .i64 s.lo.c, .int .i64 s.hi.a, .int .i64 s.hi.b, .int .i64 s.hi.c], .agg LR.toArray] y3 (AplAns s r y3) := by rw [ER.out]; exact applyRecord_any A3 c3 B3 d3 s r y3.heap.size y3 HO.out (Nat.le_refl _) HFE.out HFT.out hlen hlen2 hsm (HP.out _ (b19.trans (hy3.mono (by omega)))).1 (HP.out _ (b19.trans (hy3.mono (by omega)))).2.1 (HP.out _ (b19.trans (hy3.mono (by omega)))).2.2.1 (HP.out _ (b19.trans (hy3.mono (by omega)))).2.2.2
        refine hqa.mono ?_
        rintro q y4 ⟨x, bq, zz, A5, c5, B5, d5, hv5, rfl, hs5, ho5, _, _, hbn⟩
        clear hqa
        have HV := Lib.hid hv5; have HA := Lib.hid hs5; clear hv5 hs5
        have HW : Hid (StOwn w19.heap.size y4 A5 B5) := Lib.hid (own_more ho5 hy3.size)
        have HBL : Hid ((∀ b, blk A5 = some b → b < y4.heap.size) ∧ ∀ b, blk B5 = some b → b < y4.heap.size) := Lib.hid ⟨fun b e => (ho5.2.2.1 b e).2, fun b e => (ho5.2.2.2.1 b e).2⟩
        have nz1 : Hid (blk A5 ≠ some zb) := Lib.hid (fun e => by have := (ho5.2.2.1 _ e).1; omega)
        have nz2 : Hid (blk B5 ≠ some zb) := Lib.hid (fun e => by have := (ho5.2.2.2.1 _ e).1; omega)
        clear ho5
        have hy4 : Below w19.heap.size w19 y4 := hy3.trans (hbn.mono hy3.size)
        refine hK.out _ _ (by exact ⟨rngC CT.out hy4 slT, rngC CR.out hy4 slR⟩) (fun hHeld => ?_)
        clear hK K
        try simp only [Act.put, List.setIfInBounds_toArray, List.set_cons_zero, List.set_cons_succ]
        have ZC := Lib.hid (ZC.out.below hbn zn2)
        have ZF : Hid (∀ i, y4.frozen? ⟨zb, i, none⟩ = false) := Lib.hid (fun i => (hbn.frozen (p := ⟨zb, i, none⟩) zn2).trans (ZF.out i))
        have zn2 : zb < y4.heap.size := Nat.lt_of_lt_of_le zn2 hbn.size
        clear hbn
        refine kT 5 ?_
        go_frame
        refine kT 6 ?_
        go_frame
        refine kT 7 ?_
        go_frame
        refine kT 8 ?_
        go_frame
        obtain ⟨z0, z1, z2, z3, z4, z5, z6, z7, z8, z9⟩ := ZC.out.ten
        have yf0 := ZF.out 0
        have yf1 := ZF.out 1
        have yf2 := ZF.out 2
        have yf3 := ZF.out 3
        have yf4 := ZF.out 4
        have yf5 := ZF.out 5
        have yf6 := ZF.out 6
        have yf7 := ZF.out 7
        have yf8 := ZF.out 8
        have yf9 := ZF.out 9
        have FINA : Hid (AnsC w19 ((((((((((y4.setCell ⟨zb, 0, none⟩ (.int .i64 x.sq)).setCell ⟨zb, 1, none⟩ (.int .i64 x.fe)).setCell ⟨zb, 2, none⟩ (.slice A5 x.ents.length c5)).setCell ⟨zb, 3, none⟩ (.slice B5 x.tmbs.length d5)).setCell ⟨zb, 4, none⟩ (.int .i64 x.lo.a)).setCell ⟨zb, 5, none⟩ (.int .i64 x.lo.b)).setCell ⟨zb, 6, none⟩ (.int .i64 x.lo.c)).setCell ⟨zb, 7, none⟩ (.int .i64 x.hi.a)).setCell ⟨zb, 8, none⟩ (.int .i64 x.hi.b)).setCell ⟨zb, 9, none⟩ (.int .i64 x.hi.c)) zb A5 c5 B5 d5 x) := Lib.hid (ansC_set rfl hy4 zn1 zn2 ZC.out HA.out HW.out nz1.out nz2.out)
        refine wpAnyH_ready (rs := [10]) (by kernel_rfl) (by simp) ?_
        refine AllReadyH.cons (o := { dst := none, op := Op.store 34 (Operand.tmp 16) (Operand.tmp 105), type := 0, pos := "exact.go:3062", after := #[{ on := 9, ground := Ground.data }, { on := 6, ground := Ground.data }, { on := 4, ground := Ground.chain }, { on := 0, ground := Ground.phase }, { on := 1, ground := Ground.phase }, { on := 2, ground := Ground.phase }, { on := 3, ground := Ground.phase }, { on := 4, ground := Ground.phase }, { on := 5, ground := Ground.phase }, { on := 6, ground := Ground.phase }, { on := 7, ground := Ground.textOnly Departure.lateStores }, { on := 8, ground := Ground.textOnly Departure.lateStores }, { on := 9, ground := Ground.phase }], guard := none }) rfl (fun K hK => ?_) AllReadyH.nil
        go_simp
        refine hK.out _ _ (by exact ⟨rngC CT.out FINA.out.be slT, rngC CR.out FINA.out.be slR⟩) (fun hHeld => ?_)
        clear hK K
        try simp only [Act.put, List.setIfInBounds_toArray, List.set_cons_zero, List.set_cons_succ]
        refine kT 11 ?_
        go_frame
        refine kT 12 ?_
        go_frame
        refine wpAnyH_done (by kernel_rfl) ?_ _
        refine NoPanic.normal ?_
        clear hHeld
        go_wp2_with fail
        go_meet
        exact ⟨zb, A5, c5, B5, d5, x, bq, zz, rfl, rfl, rfl, HV, FINA⟩
    · go_simp
      have hy1 : Below w19.heap.size w19 (y0.alloc (.cells #[.int .i64 0, .int .i64 0, .slice none 0 0, .slice none 0 0, .int .i64 0, .int .i64 0, .int .i64 0, .int .i64 0, .int .i64 0, .int .i64 0] 34)) := hbd.alloc hbd.size _
      refine hK.out _ _ (by exact ⟨rngC CT.out hy1 slT, rngC CR.out hy1 slR⟩) (fun hHeld => ?_)
      clear hK K
      try simp only [Act.put, List.setIfInBounds_toArray, List.set_cons_zero, List.set_cons_succ]
      have ZC := Lib.hid (Cells.new y0 [.int .i64 0, .int .i64 0, .slice none 0 0, .slice none 0 0, .int .i64 0, .int .i64 0, .int .i64 0, .int .i64 0, .int .i64 0, .int .i64 0] 34)
      have ZF : Hid (∀ i, (y0.alloc (.cells #[.int .i64 0, .int .i64 0, .slice none 0 0, .slice none 0 0, .int .i64 0, .int .i64 0, .int .i64 0, .int .i64 0, .int .i64 0, .int .i64 0] 34)).frozen? ⟨y0.heap.size, i, none⟩ = false) := Lib.hid (fun i => by simp [go_sem])
      have zn1 : w19.heap.size ≤ y0.heap.size := hbd.size
      have zn2 : y0.heap.size < (y0.alloc (.cells #[.int .i64 0, .int .i64 0, .slice none 0 0, .slice none 0 0, .int .i64 0, .int .i64 0, .int .i64 0, .int .i64 0, .int .i64 0, .int .i64 0] 34)).heap.size := by simp
      have zk : Below y0.heap.size y0 (y0.alloc (.cells #[.int .i64 0, .int .i64 0, .slice none 0 0, .slice none 0 0, .int .i64 0, .int .i64 0, .int .i64 0, .int .i64 0, .int .i64 0, .int .i64 0] 34)) := bal (Below.refl _ _) _
      clear zk
      obtain ⟨zb, hzb⟩ : ∃ z, z = y0.heap.size := ⟨_, rfl⟩
      rw [← hzb] at ZC ZF zn1 zn2 ⊢
      generalize y0.alloc (.cells #[.int .i64 0, .int .i64 0, .slice none 0 0, .slice none 0 0, .int .i64 0, .int .i64 0, .int .i64 0, .int .i64 0, .int .i64 0, .int .i64 0] 34) = y1 at *
      clear hzb
      refine wpAnyH_ready (rs := [1]) (by kernel_rfl) (by simp) ?_
      refine AllReadyH.cons (o := { dst := some 101, op := Op.call { callee := Callee.value (Operand.func 8), args := #[Operand.tmp 100], argTypes := #[26] }, type := 34, pos := "exact.go:3062", after := #[{ on := 0, ground := Ground.data }], guard := none }) rfl (fun K hK => ?_) AllReadyH.nil
      go_simp
      have hqz : Calls Tryz.prog 8 #[.agg LT.toArray] y1 (NewStt s y1) := by rw [ET.out]; exact toState_any A c A2 c2 s x0 y1 (HS.out _ (b19.trans (hy1.mono (by omega)))) (by have := hy1.size; omega) hlen hlen2
      refine hqz.mono ?_
      rintro q y2 ⟨A3, c3, B3, d3, rfl, ho3, _, _, _, hbn⟩
      clear hqz
      have HO := Lib.hid ho3; clear ho3
      have hy2 : Below w19.heap.size w19 y2 := hy1.trans (hbn.mono hy1.size)
      refine hK.out _ _ (by exact ⟨rngC CT.out hy2 slT, rngC CR.out hy2 slR⟩) (fun hHeld => ?_)
      clear hK K
      try simp only [Act.put, List.setIfInBounds_toArray, List.set_cons_zero, List.set_cons_succ]
      have ZC := Lib.hid (ZC.out.below hbn zn2)
      have ZF : Hid (∀ i, y2.frozen? ⟨zb, i, none⟩ = false) := Lib.hid (fun i => (hbn.frozen (p := ⟨zb, i, none⟩) zn2).trans (ZF.out i))
      have zn2 : zb < y2.heap.size := Nat.lt_of_lt_of_le zn2 hbn.size
      clear hbn
      refine wpAnyH_ready (rs := [3]) (by kernel_rfl) (by simp) ?_
      refine AllReadyH.cons (o := { dst := some 103, op := Op.call { callee := Callee.value (Operand.func 9), args := #[Operand.tmp 102], argTypes := #[28] }, type := 38, pos := "exact.go:3062", after := #[{ on := 2, ground := Ground.data }, { on := 1, ground := Ground.chain }], guard := none }) rfl (fun K hK => ?_) AllReadyH.nil
      go_simp
      have hqr : Calls Tryz.prog 9 #[.agg LR.toArray] y2 (fun e w' => e = .returned (.agg LR.toArray) ∧ Below y2.heap.size y2 w') := by rw [ER.out]; exact toRecord_any r y2
      refine hqr.mono ?_
      rintro q y3 ⟨rfl, hbn⟩
      clear hqr
      have HO := Lib.hid ((HO.out.below hbn (Nat.le_refl _)).more hbn.size)
      have hy3 : Below w19.heap.size w19 y3 := hy2.trans (hbn.mono hy2.size)
      refine hK.out _ _ (by exact ⟨rngC CT.out hy3 slT, rngC CR.out hy3 slR⟩) (fun hHeld => ?_)
      clear hK K
      try simp only [Act.put, List.setIfInBounds_toArray, List.set_cons_zero, List.set_cons_succ]
      have ZC := Lib.hid (ZC.out.below hbn zn2)
      have ZF : Hid (∀ i, y3.frozen? ⟨zb, i, none⟩ = false) := Lib.hid (fun i => (hbn.frozen (p := ⟨zb, i, none⟩) zn2).trans (ZF.out i))
      have zn2 : zb < y3.heap.size := Nat.lt_of_lt_of_le zn2 hbn.size
      clear hbn
      refine wpAnyH_ready (rs := [4]) (by kernel_rfl) (by simp) ?_
      refine AllReadyH.cons (o := { dst := some 104, op := Op.call { callee := Callee.value (Operand.func 10), args := #[Operand.tmp 101, Operand.tmp 103], argTypes := #[34, 38] }, type := 35, pos := "exact.go:3062", after := #[{ on := 1, ground := Ground.data }, { on := 3, ground := Ground.data }, { on := 3, ground := Ground.chain }], guard := none }) rfl (fun K hK => ?_) AllReadyH.nil
      go_simp
      have hqa : Calls Tryz.prog 10 #[.agg #[.int .i64 s.sq, .int .i64 s.fe, .slice A3 s.ents.length c3, .slice B3 s.tmbs.length d3, .int .i64 s.lo.a, .int .i64 s.lo.b, .int .i64 s.lo.c, .int .i64 s.hi.a, .int .i64 s.hi.b, .int .i64 s.hi.c], .agg LR.toArray] y3 (AplAns s r y3) := by rw [ER.out]; exact applyRecord_any A3 c3 B3 d3 s r y3.heap.size y3 HO.out (Nat.le_refl _) HFE.out HFT.out hlen hlen2 hsm (HP.out _ (b19.trans (hy3.mono (by omega)))).1 (HP.out _ (b19.trans (hy3.mono (by omega)))).2.1 (HP.out _ (b19.trans (hy3.mono (by omega)))).2.2.1 (HP.out _ (b19.trans (hy3.mono (by omega)))).2.2.2
      refine hqa.mono ?_
      rintro q y4 ⟨x, bq, zz, A5, c5, B5, d5, hv5, rfl, hs5, ho5, _, _, hbn⟩
      clear hqa
      have HV := Lib.hid hv5; have HA := Lib.hid hs5; clear hv5 hs5
      have HW : Hid (StOwn w19.heap.size y4 A5 B5) := Lib.hid (own_more ho5 hy3.size)
      have HBL : Hid ((∀ b, blk A5 = some b → b < y4.heap.size) ∧ ∀ b, blk B5 = some b → b < y4.heap.size) := Lib.hid ⟨fun b e => (ho5.2.2.1 b e).2, fun b e => (ho5.2.2.2.1 b e).2⟩
      have nz1 : Hid (blk A5 ≠ some zb) := Lib.hid (fun e => by have := (ho5.2.2.1 _ e).1; omega)
      have nz2 : Hid (blk B5 ≠ some zb) := Lib.hid (fun e => by have := (ho5.2.2.2.1 _ e).1; omega)
      clear ho5
      have hy4 : Below w19.heap.size w19 y4 := hy3.trans (hbn.mono hy3.size)
      refine hK.out _ _ (by exact ⟨rngC CT.out hy4 slT, rngC CR.out hy4 slR⟩) (fun hHeld => ?_)
      clear hK K
      try simp only [Act.put, List.setIfInBounds_toArray, List.set_cons_zero, List.set_cons_succ]
      have ZC := Lib.hid (ZC.out.below hbn zn2)
      have ZF : Hid (∀ i, y4.frozen? ⟨zb, i, none⟩ = false) := Lib.hid (fun i => (hbn.frozen (p := ⟨zb, i, none⟩) zn2).trans (ZF.out i))
      have zn2 : zb < y4.heap.size := Nat.lt_of_lt_of_le zn2 hbn.size
      clear hbn
      refine kT 5 ?_
      go_frame
      refine kT 6 ?_
      go_frame
      refine kT 7 ?_
      go_frame
      refine kT 8 ?_
      go_frame
      obtain ⟨z0, z1, z2, z3, z4, z5, z6, z7, z8, z9⟩ := ZC.out.ten
      have yf0 := ZF.out 0
      have yf1 := ZF.out 1
      have yf2 := ZF.out 2
      have yf3 := ZF.out 3
      have yf4 := ZF.out 4
      have yf5 := ZF.out 5
      have yf6 := ZF.out 6
      have yf7 := ZF.out 7
      have yf8 := ZF.out 8
      have yf9 := ZF.out 9
      have FINA : Hid (AnsC w19 ((((((((((y4.setCell ⟨zb, 0, none⟩ (.int .i64 x.sq)).setCell ⟨zb, 1, none⟩ (.int .i64 x.fe)).setCell ⟨zb, 2, none⟩ (.slice A5 x.ents.length c5)).setCell ⟨zb, 3, none⟩ (.slice B5 x.tmbs.length d5)).setCell ⟨zb, 4, none⟩ (.int .i64 x.lo.a)).setCell ⟨zb, 5, none⟩ (.int .i64 x.lo.b)).setCell ⟨zb, 6, none⟩ (.int .i64 x.lo.c)).setCell ⟨zb, 7, none⟩ (.int .i64 x.hi.a)).setCell ⟨zb, 8, none⟩ (.int .i64 x.hi.b)).setCell ⟨zb, 9, none⟩ (.int .i64 x.hi.c)) zb A5 c5 B5 d5 x) := Lib.hid (ansC_set rfl hy4 zn1 zn2 ZC.out HA.out HW.out nz1.out nz2.out)
      refine wpAnyH_ready (rs := [10]) (by kernel_rfl) (by simp) ?_
      refine AllReadyH.cons (o := { dst := none, op := Op.store 34 (Operand.tmp 16) (Operand.tmp 105), type := 0, pos := "exact.go:3062", after := #[{ on := 9, ground := Ground.data }, { on := 6, ground := Ground.data }, { on := 4, ground := Ground.chain }, { on := 0, ground := Ground.phase }, { on := 1, ground := Ground.phase }, { on := 2, ground := Ground.phase }, { on := 3, ground := Ground.phase }, { on := 4, ground := Ground.phase }, { on := 5, ground := Ground.phase }, { on := 6, ground := Ground.phase }, { on := 7, ground := Ground.textOnly Departure.lateStores }, { on := 8, ground := Ground.textOnly Departure.lateStores }, { on := 9, ground := Ground.phase }], guard := none }) rfl (fun K hK => ?_) AllReadyH.nil
      go_simp
      refine hK.out _ _ (by exact ⟨rngC CT.out FINA.out.be slT, rngC CR.out FINA.out.be slR⟩) (fun hHeld => ?_)
      clear hK K
      try simp only [Act.put, List.setIfInBounds_toArray, List.set_cons_zero, List.set_cons_succ]
      refine kT 11 ?_
      go_frame
      refine kT 12 ?_
      go_frame
      refine wpAnyH_done (by kernel_rfl) ?_ _
      refine NoPanic.normal ?_
      clear hHeld
      go_wp2_with fail
      go_meet
      exact ⟨zb, A5, c5, B5, d5, x, bq, zz, rfl, rfl, rfl, HV, FINA⟩
  case rest =>
  clear CT slT CR slR hbd
  obtain ⟨ni, A20, c20, B20, d20, x2', bi, zi, rfl, rfl, rfl, Hv23, HC23⟩ := hcut
  obtain ⟨e0, e1, e2⟩ := Hv5.out.one Hv23.out
  subst e0 e1 e2
  generalize hwc : wc = w23 at *
  clear hwc
  have hb23 := HC23.out.be
  have I23 := Lib.hid HC23.out.bx
  have Y23 := Lib.hid HC23.out.st
  have ni1 := HC23.out.n1
  have ni2 := HC23.out.n2
  clear Hv23
  have T23 := Lib.hid (T19.out.below hb23 (by omega))
  have R23 := Lib.hid (R19.out.below hb23 (by omega))
  have M23 := Lib.hid (M19.out.below hb23 (by omega))
  have S23 := Lib.hid (S19.out.below hb23 (by omega))
  have U23 := Lib.hid (U19.out.below hb23 (by omega))
  have N23 := Lib.hid (N19.out.below hb23 (by omega))
  have b23 : Below x0 w w23 := b19.trans (hb23.mono (by omega))
  have s23 : w19.heap.size ≤ w23.heap.size := hb23.size
  clear T19 R19 M19 S19 U19 N19 b19 hb23 HC23
  generalize w19.heap.size = x19 at *
  obtain ⟨i0, i1, i2, i3, i4, i5, i6, i7, i8, i9⟩ := I23.out.ten
  obtain ⟨m0, m1, m2, m3, m4, m5, m6, m7, m8, m9⟩ := M23.out.ten
  have dib : (bi != bi) = false := by simp
  have dib2 : (bi == bi) = true := by simp
  have diz : (zi != zi) = false := by simp
  have diz2 : (zi == zi) = true := by simp
  go_wp2_with fail
  refine (eqState_any A20 c20 B20 d20 A5 c5 B5 d5 x2' x2' w23.heap.size w23 (Y23.out.more (by omega)) (S23.out.more (by omega)) (Nat.le_refl _) (by omega) (by omega) (by omega) (by omega)).mono ?_
  rintro e w24 ⟨be, hbe, rfl, hb24⟩
  obtain rfl : be = true := hbe.2 rfl; clear hbe
  have T24 := Lib.hid (T23.out.below hb24 (by omega))
  have R24 := Lib.hid (R23.out.below hb24 (by omega))
  have M24 := Lib.hid (M23.out.below hb24 (by omega))
  have S24 := Lib.hid (S23.out.below hb24 (by omega))
  have U24 := Lib.hid (U23.out.below hb24 (by omega))
  have N24 := Lib.hid (N23.out.below hb24 (by omega))
  have I24 := Lib.hid (I23.out.below hb24 (by omega))
  have Y24 := Lib.hid (Y23.out.below hb24 (by omega))
  have b24 : Below x0 w w24 := b23.trans (hb24.mono (by omega))
  have s24 : w23.heap.size ≤ w24.heap.size := hb24.size
  clear T23 R23 M23 S23 U23 N23 I23 Y23 hb24 b23 i0 i1 i2 i3 i4 i5 i6 i7 i8 i9 m0 m1 m2 m3 m4 m5 m6 m7 m8 m9
  generalize w23.heap.size = x23 at *
  obtain ⟨u0, u1, u2, u3, u4, u5, u6, u7, u8, u9⟩ := U24.out.ten
  go_wp2_with fail
  refine (heldState_any A10 c10 B10 d10 x2' 1 w24.heap.size w24 (N24.out.more (by omega)) (Nat.le_refl _) hxl hxl2 (by omega) (by omega)).mono ?_
  rintro e w25 ⟨rfl, hb25⟩
  have T25 := Lib.hid (T24.out.below hb25 (by omega))
  have R25 := Lib.hid (R24.out.below hb25 (by omega))
  have M25 := Lib.hid (M24.out.below hb25 (by omega))
  have S25 := Lib.hid (S24.out.below hb25 (by omega))
  have U25 := Lib.hid (U24.out.below hb25 (by omega))
  have N25 := Lib.hid (N24.out.below hb25 (by omega))
  have I25 := Lib.hid (I24.out.below hb25 (by omega))
  have Y25 := Lib.hid (Y24.out.below hb25 (by omega))
  have b25 : Below x0 w w25 := b24.trans (hb25.mono (by omega))
  have s25 : w24.heap.size ≤ w25.heap.size := hb25.size
  clear T24 R24 M24 S24 U24 N24 I24 Y24 hb25 b24 u0 u1 u2 u3 u4 u5 u6 u7 u8 u9
  generalize w24.heap.size = x24 at *
  go_wp2
  go_ret
  exact ⟨rfl, by rw [Hx0.out]; exact b25⟩

set_option maxRecDepth 100000 in
theorem contract (H : Type) (enc : TypeId × Value → H) (W : World) (base : Nat) (args : Array Value) (ds gs : List (DataW H)) (before : List MemPlace)
    (hval0 : ∀ (j : Nat) t v, Tryz.f3.params[j]? = some t → args[j]? = some v → Value.okWide Tryz.prog W .any base t v)
    (hW : DataW.Whole enc Tryz.prog Tryz.f3.params.toList Rows.fnExactApplyRecordSpec.vars false W args.toList ds gs before) (hL : laidMetH Tryz.prog Rows.fnExactApplyRecordRow.laid W) :
    Calls Tryz.prog 3 args W fun e W' => ∃ v, e = .returned v ∧ Rows.fnExactApplyRecordSpec.post enc Tryz.prog Tryz.f3 false true false false W args v W' := by
  obtain ⟨hQ, hz⟩ := paths_in hL List.mem_cons_self
  obtain ⟨hTw, hz2⟩ := wid_in hL (List.mem_cons_of_mem _ List.mem_cons_self)
  have hval : ∀ (j : Nat) t v, Tryz.f3.params[j]? = some t → args[j]? = some v → Value.okWide Tryz.prog W .any base t v := hval0
  have hW' := hW
  have hlt : ∀ p ∈ before, p.block < W.heap.size := fun p hp => hW.lt p hp
  obtain ⟨p, q, hA0, hV, rfl, hfz, hnd⟩ := hW
  have hA : DataW.TrodAll enc Tryz.prog W 0 (fun _ => true) true Tryz.f3.params.toList args.toList ds p := hA0
  rw [Tryz.params3] at hA hval
  obtain ⟨v0, vs0, d0, ds0, p0, q0, hargs, rfl, rfl, h0, r0⟩ := trodAll_cons hA
  obtain ⟨v1, vs1, d1, ds1, p1, q1, rfl, rfl, rfl, h1, r1⟩ := trodAll_cons r0
  obtain ⟨rfl, rfl, rfl⟩ := trodAll_nil r1
  obtain rfl : args = #[v0, v1] := by cases args; simp_all
  have hV1 : DataW.TrodVars enc Tryz.prog W (fun _ => true) ["loop.example/g00601/impl.tierPaths", "loop.example/g00601/impl.tierWidths"] gs q := hV
  obtain ⟨dg, dh, rfl⟩ : ∃ d e, gs = [d, e] := by
    rcases gs with _ | ⟨d, _ | ⟨e, _ | ⟨f, r⟩⟩⟩
    · cases hV1
    · obtain ⟨_, _, _, _, _, _, _, _, _, _, h, _⟩ := hV1; cases h
    · exact ⟨d, e, rfl⟩
    · obtain ⟨_, _, _, _, _, _, _, _, _, _, ⟨_, _, _, _, _, _, _, _, _, _, h, _⟩, _⟩ := hV1; cases h
  have k0 := h0
  have lt0 : ∀ x ∈ p0, x.block < W.heap.size := by obtain ⟨m, hm⟩ := k0; exact DataW.trod_lt m _ _ _ hm
  obtain ⟨A0, c0, B0, e0, st0, rfl, ob0, ft0⟩ := open_lst (hval 0 26 v0 rfl rfl) h0
  have k1 := h1
  have lt1 : ∀ x ∈ p1, x.block < W.heap.size := by obtain ⟨m, hm⟩ := k1; exact DataW.trod_lt m _ _ _ hm
  obtain ⟨r1, rfl, ft1⟩ := open_lrec (hval 1 28 v1 rfl rfl) h1
  clear hA0 hval0
  refine (walk A0 c0 B0 e0 st0 r1 W ob0 ft0 ft1 hQ hz hTw hz2).mono fun e W' ⟨he, bel⟩ => ?_
  subst he
  exact ⟨_, rfl, _, _, _, [], _, _, hW', trodAll_mk1 (shut_bool Tryz.underlying4 _), (trodAll_cons_mk (Below.trod laidOut (by kernel_rfl) (of_decide_eq_true (by kernel_rfl)) k0 bel lt0) (trodAll_cons_mk (Below.trod laidOut (by kernel_rfl) (of_decide_eq_true (by kernel_rfl)) k1 bel lt1) trodAll_mk0)), vars_backs bel ["loop.example/g00601/impl.tierPaths", "loop.example/g00601/impl.tierWidths"] _ _ (by
    intro n hn
    simp only [List.mem_cons, List.not_mem_nil, or_false] at hn
    rcases hn with rfl | rfl
    · exact ⟨_, _, gTab, gTabType, Or.inl rfl, hz⟩
    · exact ⟨_, _, gWidA, gWidTypeA, Or.inr rfl, hz2⟩) hV1 (fun x hx => hlt x (List.mem_append_right _ hx)), bel.frame _, fun h => by cases h⟩

theorem laid_met (os : Os) : laidMet Tryz.prog Rows.fnExactApplyRecordRow.laid ((laidWorldD os).forCall (fun _ _ => 0) ⟨#[], #[.agg #[.int .i64 0, .int .i64 0, .slice none 0 0, .slice none 0 0, .int .i64 0, .int .i64 0, .int .i64 0, .int .i64 0, .int .i64 0, .int .i64 0], .agg #[.int .i64 0, .int .i64 0, .int .i64 0, .int .i64 0, .int .i64 0, .string ByteArray.empty]], []⟩).memory :=
  laidMet_of_run' 8 (by kernel_rfl) (by kernel_rfl)

theorem reads (os : Os) {H : Type} (enc : TypeId × Value → H) : ∃ places, DataW.whole enc Tryz.prog ((laidWorldD os).forCall (fun _ _ => 0) ⟨#[], #[.agg #[.int .i64 0, .int .i64 0, .slice none 0 0, .slice none 0 0, .int .i64 0, .int .i64 0, .int .i64 0, .int .i64 0, .int .i64 0, .int .i64 0], .agg #[.int .i64 0, .int .i64 0, .int .i64 0, .int .i64 0, .int .i64 0, .string ByteArray.empty]], []⟩).memory Tryz.f3.params.toList Rows.fnExactApplyRecordSpec.vars false (#[.agg #[.int .i64 0, .int .i64 0, .slice none 0 0, .slice none 0 0, .int .i64 0, .int .i64 0, .int .i64 0, .int .i64 0, .int .i64 0, .int .i64 0], .agg #[.int .i64 0, .int .i64 0, .int .i64 0, .int .i64 0, .int .i64 0, .string ByteArray.empty]] : Array Value).toList 8 = some ([.agg [.lit (.int .i64 0), .lit (.int .i64 0), .nil, .nil, .agg [.lit (.int .i64 0), .lit (.int .i64 0), .lit (.int .i64 0)], .agg [.lit (.int .i64 0), .lit (.int .i64 0), .lit (.int .i64 0)]], .agg [.lit (.int .i64 0), .lit (.int .i64 0), .lit (.int .i64 0), .lit (.int .i64 0), .lit (.int .i64 0), .lit (.string [])]], [.agg (pl.map fun z => .lit (.string z)), Lib.tabData .i64 [1, 5, 20]], places) :=
  ⟨MemPlace.row ⟨1, 0, none⟩ 3 ++ MemPlace.row ⟨0, 0, none⟩ 3, by kernel_rfl⟩

set_option maxRecDepth 100000 in
theorem lifted (os : Os) (started : os.Started) (H : Type) (enc : TypeId × Value → H) (F : Stop.Interp) :
    ReturnsInHanded {} Tryz.checked os 3 .any ((OpenSpec.ofChange Rows.fnExactApplyRecordSpec).preRow enc Tryz.prog Tryz.f3 Rows.fnExactApplyRecordRow.domain false Rows.fnExactApplyRecordRow.laid) (((OpenSpec.ofChange Rows.fnExactApplyRecordSpec).at F).post enc Tryz.prog Tryz.f3 false true false false) := by
  obtain ⟨places, hx⟩ := reads os enc
  refine returnsInHanded_of_row (C := Tryz.checked) (s := OpenSpec.ofChange Rows.fnExactApplyRecordSpec) own started (by kernel_rfl) Tryz.func3
    (witness_row_at (enc := enc) (C := Tryz.checked) false (laidWorldD os) #[.agg #[.int .i64 0, .int .i64 0, .slice none 0 0, .slice none 0 0, .int .i64 0, .int .i64 0, .int .i64 0, .int .i64 0, .int .i64 0, .int .i64 0], .agg #[.int .i64 0, .int .i64 0, .int .i64 0, .int .i64 0, .int .i64 0, .string ByteArray.empty]] rfl (by kernel_rfl) (by kernel_rfl) (by kernel_rfl)
      (OpenSpec.preRow_of_cond 8 hx (by kernel_rfl) (fun k hk => by cases hk) (by kernel_rfl) (laid_met os))) ?_
  intro W base args ds gs before hval hW _ _ _ hL _ _
  exact contract H enc W base args ds gs before hval hW hL

theorem said : Rows.FnExactApplyRecordSaid :=
  OpenClaim.holds_of_cond 3 Tryz.f3 rfl rfl rfl rfl rfl rfl rfl ⟨rfl, rfl, rfl, rfl, rfl⟩ rfl rfl rfl rfl rfl (by kernel_rfl) Tryz.func3 (by kernel_rfl)
    (of_decide_eq_true (by kernel_rfl)) (by unfold Func.isWrapper; first | (rw [if_pos (by decide +kernel)]; kernel_rfl) | (rw [if_neg (by decide +kernel)]; exact ⟨rfl, rfl⟩))
    (fun os started H enc _ F => by rw [OpenClaim.pre_eq_preRow]; exact lifted os started H enc F)

theorem plain (f : FuncId) (fn : Func) (hf : Tryz.pinned.checked.prog.funcNamed "loop.example/g00601/laws.FnExactApplyRecord" = some f) (hfn : Tryz.pinned.checked.prog.funcs[f]? = some fn) :
    true = Tryz.pinned.checked.prog.looks [] ∧ ∀ (j : Nat) t, fn.params[j]? = some t → Tryz.pinned.checked.prog.wantsStandIn t = false := by
  obtain rfl : f = 3 := Option.some.inj ((show Tryz.prog.funcNamed "loop.example/g00601/laws.FnExactApplyRecord" = some 3 by kernel_rfl).symm.trans hf) |>.symm
  obtain rfl : fn = Tryz.f3 := (Option.some.inj (Tryz.func3.symm.trans hfn)).symm
  refine ⟨by kernel_rfl, fun j t ht => ?_⟩
  rw [Tryz.params3] at ht
  have hm := Array.mem_of_getElem? ht
  simp at hm
  rcases hm with rfl | rfl
  · exact (show Tryz.prog.wantsStandIn 26 = false by kernel_rfl)
  · exact (show Tryz.prog.wantsStandIn 28 = false by kernel_rfl)

theorem proved : Rows.FnExactApplyRecordCardSaid :=
  Claim7.holds_tied_plain_at .later [] _ _ _ _ said (fun _ h => by cases h) (by kernel_rfl) (fun _ h => by cases h) fnExactApplyRecord_row_tie rfl ⟨rfl, rfl⟩ (by kernel_rfl) rfl plain (by kernel_rfl)
#print axioms proved
end Go.Proofs.YtpfanmcjlfdaiaaGreatDoorR.fnExactApplyRecord
