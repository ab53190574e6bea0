/-
  'laws.FnExactGiveBatch' answers true at every ingester and every list: GiveBatch answers as its model does, writes into no argument, and answers memory of its own. Conditions: none.
-/
import Derived.Test.YtpfanmcjlfdaiaaGbS
import Derived.Test.YtpfanmcjlfdaiaaOpenIng
import Derived.Deep.RegionHeld3
import Derived.Deep.DeepCutAuto
import Derived.Deep.MidRow
namespace Go.Proofs.Ytpfanmcjlfdaiaa.fnExactGiveBatch
open Go.ChangeShapes Go.WideShapes Go.ChangeAt Go.RowKit
set_option linter.unusedVariables false

theorem cells_grow {w w' : World} {b : Nat} {vs : List Value} (h : Cells w b 0 vs) {row : Option Nat} (hg : w.grownBy w' row) (hb : b < w.heap.size) (hr : ∀ g, row = some g → g ≠ b) : Cells w' b 0 vs := fun j v hv =>
  (World.cell?_of_block (a := ⟨b, 0 + j, none⟩) (hg.block b hb (fun e => hr b e.symm rfl))).trans (h j v hv)

theorem sl_grow {w w' : World} {A B : Option Addr} {xs : List GSam} {x : Nat} (h : SamsAt w x A xs) (hg : w.grownBy w' (blk B)) (hx : x ≤ w.heap.size) (hn : ∀ b, blk A = some b → blk B ≠ some b) : SamsAt w' x A xs :=
  Sl.grown h hg hx (by cases hq : blk A with | none => exact .inl rfl | some b => exact .inr (fun e => hn b hq e.symm))

theorem free_grow {w w' : World} {A B : Option Addr} (h : Free w A) (hg : w.grownBy w' (blk B)) (hl : ∀ b, blk A = some b → b < w.heap.size) (hn : ∀ b, blk A = some b → blk B ≠ some b) : Free w' A := fun b e i =>
  (World.frozen?_of_block (a := ⟨b, i, none⟩) (hg.block b (hl b e) (fun e2 => hn b e e2.symm))).trans (h b e i)

theorem infoL : (Try.prog.info? 32).map (·.size) = some 6 := by kernel_rfl

theorem infoI : (Try.prog.info? 24).map (·.size) = some 6 := by kernel_rfl

theorem rng {w w' : World} {b B : Nat} {L : List Value} (h : Cells w b 0 L) (hb : Below B w w') (hB : b < B) : w'.rangeAt b 0 L := fun j v hv => h.below hb hB j v hv

theorem mk2 (x : GIng) : x.bat.length ≤ 8 → (1 + 2 * (x.bat.length : Int)) ≤ 17 := by omega

set_option maxRecDepth 100000 in
set_option maxHeartbeats 8000000 in
theorem walk (A : Option Addr) (c : Nat) (s : GIng) (Ak : Option Addr) (ck : Nat) (ks : List GSam) (w : World) (h : SamsAt w w.heap.size A s.bat) (hf : s.fit) (hks : SamsAt w w.heap.size Ak ks) (hkl : ks.length ≤ maxLen) :
    Calls Try.prog 5 #[.agg #[.int .i64 s.id, .int .i64 s.sq, .int .i64 s.beg, .int .i64 s.fin, .slice A s.bat.length c, .bool s.put], .slice Ak ks.length ck] w fun e w' => e = .returned (.bool true) ∧ Below w.heap.size w w' := by
  have H := Lib.hid h; clear h
  have Hf := Lib.hid hf; clear hf
  have HK := Lib.hid hks; clear hks
  go_enter Try.func5, Try.ntmps5
  go_upto_region 2 with fail
  have T0 : Hid (Cells (w.alloc (.cells #[.int .i64 s.id, .int .i64 s.sq, .int .i64 s.beg, .int .i64 s.fin, .slice A s.bat.length c, .bool s.put] 32)) w.heap.size 0 [.int .i64 s.id, .int .i64 s.sq, .int .i64 s.beg, .int .i64 s.fin, .slice A s.bat.length c, .bool s.put]) := Lib.hid (Cells.new w _ _)
  have b0 : Below w.heap.size w (w.alloc (.cells #[.int .i64 s.id, .int .i64 s.sq, .int .i64 s.beg, .int .i64 s.fin, .slice A s.bat.length c, .bool s.put] 32)) := bal (Below.refl _ _) _
  have s0 : w.heap.size < (w.alloc (.cells #[.int .i64 s.id, .int .i64 s.sq, .int .i64 s.beg, .int .i64 s.fin, .slice A s.bat.length c, .bool s.put] 32)).heap.size := by simp
  generalize w.alloc (.cells #[.int .i64 s.id, .int .i64 s.sq, .int .i64 s.beg, .int .i64 s.fin, .slice A s.bat.length c, .bool s.put] 32) = w0 at *
  generalize hx0 : w.heap.size = x0 at *
  have Hx0 := Lib.hid hx0; clear hx0
  have HS : Hid (∀ w', Below x0 w w' → SamsAt w' x0 A s.bat) := Lib.hid fun w' hb => Sl.more (Sl.below H.out hb (by have := Hx0.out; omega)) (by have := Hx0.out; omega)
  have HKS : Hid (∀ w', Below x0 w w' → SamsAt w' x0 Ak ks) := Lib.hid fun w' hb => Sl.more (Sl.below HK.out hb (by have := Hx0.out; omega)) (by have := Hx0.out; omega)
  clear H HK
  obtain ⟨t0, t1, t2, t3, t4, t5⟩ := cellsIng T0.out
  go_wp2_with fail
  refine (szIngester_any A c s 1048576 x0 w0 (HS.out _ b0) (by omega) Hf.out (by omega) (by omega)).mono ?_
  rintro e w1 ⟨v, hv, hv1, hv2, rfl, hb1⟩
  have Hv := Lib.hid hv; clear hv
  have b1 : Below x0 w w1 := b0.trans (hb1.mono (by omega))
  by_cases hneg : v < 0
  · have d : decide (v < 0) = true := by simpa using hneg
    go_wp2
    go_ret
    exact ⟨rfl, by rw [Hx0.out]; exact b1⟩
  have d : decide (v < 0) = false := by simpa using hneg
  have hlen : s.bat.length ≤ 1048576 := lenIng (Hv.out (by omega)).1
  have T1 := Lib.hid (T0.out.below hb1 s0)
  have s1 : x0 < w1.heap.size := by have := hb1.size; omega
  clear Hv T0 hb1 b0 s0 t0 t1 t2 t3 t4 t5
  go_wp2_with fail
  refine (szSampleS_any Ak ck ks v w1 hkl (by omega) (by omega)).mono ?_
  rintro e w1' ⟨v2, hv, hv3, hv4, rfl, hw1'⟩
  subst hw1'
  have Hv := Lib.hid hv; clear hv
  by_cases hneg2 : v2 < 0
  · have d2 : decide (v2 < 0) = true := by simpa using hneg2
    go_wp2
    go_ret
    exact ⟨rfl, by rw [Hx0.out]; exact b1⟩
  have d2 : decide (v2 < 0) = false := by simpa using hneg2
  have hkn : ks.length ≤ 1048576 := by have := (Hv.out (by omega)).1; omega
  clear Hv hkl hv1 hv2 hv3 hv4
  obtain ⟨t0, t1, t2, t3, t4, t5⟩ := cellsIng T1.out
  go_wp2_with fail
  refine (toIngester_any A c s x0 w1 (HS.out _ b1) (by omega) hlen).mono ?_
  rintro e w3 ⟨A3, c3, rfl, ho3, _, _, _, hb3⟩
  have O3 := Lib.hid ho3; clear ho3
  have T3 := Lib.hid (T1.out.below hb3 (by omega))
  have b3 : Below x0 w w3 := b1.trans (hb3.mono (by omega))
  have s3 : w1.heap.size ≤ w3.heap.size := hb3.size
  clear T1 hb3 b1 t0 t1 t2 t3 t4 t5
  generalize w1.heap.size = x1 at *
  go_wp2_with fail
  refine (toSampleS_any Ak ck ks x0 w3 (HKS.out _ b3) (by omega) hkn).mono ?_
  rintro e w4 ⟨A4, c4, rfl, hq4, _, _, _, hb4⟩
  have Q4 := Lib.hid hq4; clear hq4
  have T4 := Lib.hid (T3.out.below hb4 (by omega))
  have O4 := Lib.hid (Sl.below O3.out hb4 (by omega))
  have b4 : Below x0 w w4 := b3.trans (hb4.mono (by omega))
  have s4 : w3.heap.size ≤ w4.heap.size := hb4.size
  clear T3 O3 hb4 b3
  generalize w3.heap.size = x3 at *
  go_wp2_with fail
  refine (specGiveBatch_any A3 c3 s A4 c4 ks w4.heap.size w4 (Sl.more O4.out (by omega)) (Sl.more Q4.out (by omega)) (Nat.le_refl _) hlen hkn).mono ?_
  rintro e w5 ⟨x, cd, A5, c5, hv5, rfl, ho5, hb5⟩
  have Hv5 := Lib.hid hv5; have hxl := hv5.len; clear hv5
  have S5 := Lib.hid (OwnSl.sl ho5 (fun _ => rfl)).1; clear ho5
  have T5 := Lib.hid (T4.out.below hb5 (by omega))
  have O5 := Lib.hid (Sl.below O4.out hb5 (by omega))
  have Q5 := Lib.hid (Sl.below Q4.out hb5 (by omega))
  have b5 : Below x0 w w5 := b4.trans (hb5.mono (by omega))
  have s5 : w4.heap.size ≤ w5.heap.size := hb5.size
  clear T4 O4 Q4 hb5 b4
  generalize w4.heap.size = x4 at *
  clear O5 Q5
  go_upto_region 9 with fail
  have M6 : Hid (Cells (w5.alloc (.cells #[.int .i64 x.id, .int .i64 x.sq, .int .i64 x.beg, .int .i64 x.fin, .slice A5 x.bat.length c5, .bool x.put] 24)) w5.heap.size 0 [.int .i64 x.id, .int .i64 x.sq, .int .i64 x.beg, .int .i64 x.fin, .slice A5 x.bat.length c5, .bool x.put]) := Lib.hid (Cells.new _ _ _)
  have hb6 : Below w5.heap.size w5 (w5.alloc (.cells #[.int .i64 x.id, .int .i64 x.sq, .int .i64 x.beg, .int .i64 x.fin, .slice A5 x.bat.length c5, .bool x.put] 24)) := bal (Below.refl _ _) _
  have y6 : w5.heap.size < (w5.alloc (.cells #[.int .i64 x.id, .int .i64 x.sq, .int .i64 x.beg, .int .i64 x.fin, .slice A5 x.bat.length c5, .bool x.put] 24)).heap.size := by simp
  generalize w5.alloc (.cells #[.int .i64 x.id, .int .i64 x.sq, .int .i64 x.beg, .int .i64 x.fin, .slice A5 x.bat.length c5, .bool x.put] 24) = w6 at *
  have T6 := Lib.hid (T5.out.below hb6 (by omega))
  have S6 := Lib.hid (Sl.below S5.out hb6 (by omega))
  have b6 : Below x0 w w6 := b5.trans (hb6.mono (by omega))
  have s6 : w5.heap.size ≤ w6.heap.size := hb6.size
  clear T5 S5 hb6 b5
  generalize w5.heap.size = x5 at *
  obtain ⟨t0, t1, t2, t3, t4, t5⟩ := cellsIng T6.out
  go_wp2_with fail
  refine (toIngester_any A c s x0 w6 (HS.out _ b6) (by omega) hlen).mono ?_
  rintro e w7 ⟨A7, c7, rfl, ho7, hf7, hbl7, _, hb7⟩
  have O7 := Lib.hid ho7; have P7 := Lib.hid hf7; have Hbl7 := Lib.hid hbl7; clear ho7 hf7 hbl7
  have T7 := Lib.hid (T6.out.below hb7 (by omega))
  have S7 := Lib.hid (Sl.below S6.out hb7 (by omega))
  have M7 := Lib.hid (M6.out.below hb7 (by omega))
  have b7 : Below x0 w w7 := b6.trans (hb7.mono (by omega))
  have s7 : w6.heap.size ≤ w7.heap.size := hb7.size
  clear T6 S6 M6 hb7 b6 t0 t1 t2 t3 t4 t5
  generalize w6.heap.size = x6 at *
  go_upto_region 10 with fail
  have V8 : Hid (Cells (w7.alloc (.cells #[.int .i64 s.id, .int .i64 s.sq, .int .i64 s.beg, .int .i64 s.fin, .slice A7 s.bat.length c7, .bool s.put] 24)) w7.heap.size 0 [.int .i64 s.id, .int .i64 s.sq, .int .i64 s.beg, .int .i64 s.fin, .slice A7 s.bat.length c7, .bool s.put]) := Lib.hid (Cells.new _ _ _)
  have hb8 : Below w7.heap.size w7 (w7.alloc (.cells #[.int .i64 s.id, .int .i64 s.sq, .int .i64 s.beg, .int .i64 s.fin, .slice A7 s.bat.length c7, .bool s.put] 24)) := bal (Below.refl _ _) _
  have y8 : w7.heap.size < (w7.alloc (.cells #[.int .i64 s.id, .int .i64 s.sq, .int .i64 s.beg, .int .i64 s.fin, .slice A7 s.bat.length c7, .bool s.put] 24)).heap.size := by simp
  generalize w7.alloc (.cells #[.int .i64 s.id, .int .i64 s.sq, .int .i64 s.beg, .int .i64 s.fin, .slice A7 s.bat.length c7, .bool s.put] 24) = w8 at *
  have T8 := Lib.hid (T7.out.below hb8 (by omega))
  have S8 := Lib.hid (Sl.below S7.out hb8 (by omega))
  have M8 := Lib.hid (M7.out.below hb8 (by omega))
  have O8 := Lib.hid (Sl.below O7.out hb8 (by omega))
  have P8 := Lib.hid (P7.out.below hb8 (fun b e => by have := (Hbl7.out b e).2; omega))
  have b8 : Below x0 w w8 := b7.trans (hb8.mono (by omega))
  have s8 : w7.heap.size ≤ w8.heap.size := hb8.size
  clear T7 S7 M7 O7 P7 hb8 b7
  generalize w7.heap.size = x7 at *
  go_wp2_with fail
  refine (toSampleS_any Ak ck ks x0 w8 (HKS.out _ b8) (by omega) hkn).mono ?_
  rintro e w9 ⟨A9, c9, rfl, hq9, hr9, hbl9, _, hb9⟩
  have Q9 := Lib.hid hq9; have R9 := Lib.hid hr9; have Hbl9 := Lib.hid hbl9; clear hq9 hr9 hbl9
  have T9 := Lib.hid (T8.out.below hb9 (by omega))
  have S9 := Lib.hid (Sl.below S8.out hb9 (by omega))
  have M9 := Lib.hid (M8.out.below hb9 (by omega))
  have O9 := Lib.hid (Sl.below O8.out hb9 (by omega))
  have P9 := Lib.hid (P8.out.below hb9 (fun b e => by have := (Hbl7.out b e).2; omega))
  have V9 := Lib.hid (V8.out.below hb9 (by omega))
  have b9 : Below x0 w w9 := b8.trans (hb9.mono (by omega))
  have s9 : w8.heap.size ≤ w9.heap.size := hb9.size
  clear T8 S8 M8 O8 P8 V8 hb9 b8
  generalize w8.heap.size = x8 at *
  obtain ⟨v0, v1, v2, v3, v4, v5⟩ := cellsIng V9.out
  go_wp2_with fail
  refine (giveBatch_any A7 c7 s A9 c9 ks w9.heap.size w9 (Sl.more O9.out (by omega)) (Sl.more Q9.out (by omega)) (Nat.le_refl _) hlen hkn).mono ?_
  rintro e w10 ⟨x', cd', A10, c10, hv10, rfl, ho10, hb10⟩
  obtain ⟨rfl, rfl⟩ := Hv5.out.one hv10; clear hv10
  have ow := OwnSl.sl ho10 (fun _ => rfl); have G10 := Lib.hid ow.1; have E10 := Lib.hid ow.2.1; have Hbl10 := Lib.hid ow.2.2.1; clear ow ho10
  have T10 := Lib.hid (T9.out.below hb10 (by omega))
  have S10 := Lib.hid (Sl.below S9.out hb10 (by omega))
  have M10 := Lib.hid (M9.out.below hb10 (by omega))
  have O10 := Lib.hid (Sl.below O9.out hb10 (by omega))
  have P10 := Lib.hid (P9.out.below hb10 (fun b e => by have := (Hbl7.out b e).2; omega))
  have V10 := Lib.hid (V9.out.below hb10 (by omega))
  have Q10 := Lib.hid (Sl.below Q9.out hb10 (by omega))
  have R10 := Lib.hid (R9.out.below hb10 (fun b e => by have := (Hbl9.out b e).2; omega))
  have b10 : Below x0 w w10 := b9.trans (hb10.mono (by omega))
  have s10 : w9.heap.size ≤ w10.heap.size := hb10.size
  clear T9 S9 M9 O9 P9 V9 Q9 R9 hb10 b9 v0 v1 v2 v3 v4 v5
  generalize w9.heap.size = x9 at *
  go_upto_region 12 with fail
  have U11 : Hid (Cells (w10.alloc (.cells #[.int .i64 x'.id, .int .i64 x'.sq, .int .i64 x'.beg, .int .i64 x'.fin, .slice A10 x'.bat.length c10, .bool x'.put] 24)) w10.heap.size 0 [.int .i64 x'.id, .int .i64 x'.sq, .int .i64 x'.beg, .int .i64 x'.fin, .slice A10 x'.bat.length c10, .bool x'.put]) := Lib.hid (Cells.new _ _ _)
  have hb11 : Below w10.heap.size w10 (w10.alloc (.cells #[.int .i64 x'.id, .int .i64 x'.sq, .int .i64 x'.beg, .int .i64 x'.fin, .slice A10 x'.bat.length c10, .bool x'.put] 24)) := bal (Below.refl _ _) _
  have y11 : w10.heap.size < (w10.alloc (.cells #[.int .i64 x'.id, .int .i64 x'.sq, .int .i64 x'.beg, .int .i64 x'.fin, .slice A10 x'.bat.length c10, .bool x'.put] 24)).heap.size := by simp
  generalize w10.alloc (.cells #[.int .i64 x'.id, .int .i64 x'.sq, .int .i64 x'.beg, .int .i64 x'.fin, .slice A10 x'.bat.length c10, .bool x'.put] 24) = w11 at *
  have T11 := Lib.hid (T10.out.below hb11 (by omega))
  have S11 := Lib.hid (Sl.below S10.out hb11 (by omega))
  have M11 := Lib.hid (M10.out.below hb11 (by omega))
  have O11 := Lib.hid (Sl.below O10.out hb11 (by omega))
  have P11 := Lib.hid (P10.out.below hb11 (fun b e => by have := (Hbl7.out b e).2; omega))
  have V11 := Lib.hid (V10.out.below hb11 (by omega))
  have Q11 := Lib.hid (Sl.below Q10.out hb11 (by omega))
  have R11 := Lib.hid (R10.out.below hb11 (fun b e => by have := (Hbl9.out b e).2; omega))
  have G11 := Lib.hid (Sl.below G10.out hb11 (by omega))
  have E11 := Lib.hid (E10.out.below hb11 (fun b e => by have := (Hbl10.out b e).2; omega))
  have b11 : Below x0 w w11 := b10.trans (hb11.mono (by omega))
  have s11 : w10.heap.size ≤ w11.heap.size := hb11.size
  clear T10 S10 M10 O10 P10 V10 Q10 R10 G10 E10 hb11 b10
  generalize w10.heap.size = x10 at *
  obtain ⟨u0, u1, u2, u3, u4, u5⟩ := cellsIng U11.out
  obtain ⟨m0, m1, m2, m3, m4, m5⟩ := cellsIng M11.out
  have dcd : (cd' != cd') = false := by simp
  have dcd2 : (cd' == cd') = true := by simp
  go_wp2_with fail
  refine (eqIngester_any A10 c10 A5 c5 x' x' w11.heap.size w11 (Sl.more G11.out (by omega)) (Sl.more S11.out (by omega)) (Nat.le_refl _) (by omega) (by omega)).mono ?_
  rintro e w12 ⟨be, hbe, rfl, hb12⟩
  obtain rfl : be = true := hbe.2 rfl; clear hbe
  have T12 := Lib.hid (T11.out.below hb12 (by omega))
  have S12 := Lib.hid (Sl.below S11.out hb12 (by omega))
  have M12 := Lib.hid (M11.out.below hb12 (by omega))
  have O12 := Lib.hid (Sl.below O11.out hb12 (by omega))
  have P12 := Lib.hid (P11.out.below hb12 (fun b e => by have := (Hbl7.out b e).2; omega))
  have V12 := Lib.hid (V11.out.below hb12 (by omega))
  have Q12 := Lib.hid (Sl.below Q11.out hb12 (by omega))
  have R12 := Lib.hid (R11.out.below hb12 (fun b e => by have := (Hbl9.out b e).2; omega))
  have G12 := Lib.hid (Sl.below G11.out hb12 (by omega))
  have E12 := Lib.hid (E11.out.below hb12 (fun b e => by have := (Hbl10.out b e).2; omega))
  have U12 := Lib.hid (U11.out.below hb12 (by omega))
  have b12 : Below x0 w w12 := b11.trans (hb12.mono (by omega))
  have s12 : w11.heap.size ≤ w12.heap.size := hb12.size
  clear T11 S11 M11 O11 P11 V11 Q11 R11 G11 E11 U11 hb12 b11 u0 u1 u2 u3 u4 u5 m0 m1 m2 m3 m4 m5
  generalize w11.heap.size = x11 at *
  have s127 : x7 < w12.heap.size := by omega
  have s120 : x0 < w12.heap.size := by omega
  obtain ⟨LV, hLV⟩ : ∃ L : List Value, L = [.int .i64 s.id, .int .i64 s.sq, .int .i64 s.beg, .int .i64 s.fin, .slice A7 s.bat.length c7, .bool s.put] := ⟨_, rfl⟩
  obtain ⟨LT, hLT⟩ : ∃ L : List Value, L = [.int .i64 s.id, .int .i64 s.sq, .int .i64 s.beg, .int .i64 s.fin, .slice A s.bat.length c, .bool s.put] := ⟨_, rfl⟩
  have HNV : Hid (LV.length = 6) := Lib.hid (by rw [hLV]; rfl)
  have HNT : Hid (LT.length = 6) := Lib.hid (by rw [hLT]; rfl)
  have EV : Hid (Value.agg LV.toArray = .agg #[.int .i64 s.id, .int .i64 s.sq, .int .i64 s.beg, .int .i64 s.fin, .slice A7 s.bat.length c7, .bool s.put]) := Lib.hid (by rw [hLV])
  have ET : Hid (Value.agg LT.toArray = .agg #[.int .i64 s.id, .int .i64 s.sq, .int .i64 s.beg, .int .i64 s.fin, .slice A s.bat.length c, .bool s.put]) := Lib.hid (by rw [hLT])
  have CV : Hid (Cells w12 x7 0 LV) := Lib.hid (by rw [hLV]; exact V12.out)
  have CT : Hid (Cells w12 x0 0 LT) := Lib.hid (by rw [hLT]; exact T12.out)
  clear hLV hLT
  go_upto_region 14 with fail
  have bdr : Below x0 w w12.drew := b12.drew
  have zdr : w12.drew.heap.size = w12.heap.size := rfl
  refine wp_region_noPanic ?_
  refine wp_region_held_drew (S := fun w' => w'.rangeAt x7 0 LV ∧ w'.rangeAt x0 0 LT) (by kernel_rfl) (by exact ⟨rng CV.out (Below.refl w12.heap.size w12).drew s127, rng CT.out (Below.refl w12.heap.size w12).drew s120⟩) (fun hHeld => ?_)
  refine' wpAnyH_take (i := 0) (oi := { dst := some 54, op := Op.load 24 (Operand.tmp 8), type := 24, pos := "exact.go:3614", after := #[], guard := none }) (v := _) rfl (by kernel_rfl) (by kernel_rfl) (by kernel_rfl) (fun _ _ _ h => h) (yieldsIf_load_mid (by rfl) _ _ rfl _ _ rfl LV _ ?hSq0 ?huq0 ?hdq0 ?hiq0) (by assumption) ?restq0
  case hSq0 => exact fun w hSw => hSw.1
  case huq0 => exact Try.underlying24
  case hdq0 => rfl
  case hiq0 => exact infoI.trans (by rw [HNV.out])
  try simp only [Act.put, List.setIfInBounds_toArray, List.set_cons_zero, List.set_cons_succ]
  refine' wpAnyH_take (i := 1) (oi := { dst := some 55, op := Op.load 32 (Operand.tmp 2), type := 32, pos := "exact.go:3614", after := #[], guard := none }) (v := _) rfl (by kernel_rfl) (by kernel_rfl) (by kernel_rfl) (fun _ _ _ h => h) (yieldsIf_load_mid (by rfl) _ _ rfl _ _ rfl LT _ ?hSq1 ?huq1 ?hdq1 ?hiq1) (by assumption) ?restq1
  case hSq1 => exact fun w hSw => hSw.2
  case huq1 => exact Try.underlying32
  case hdq1 => rfl
  case hiq1 => exact infoL.trans (by rw [HNT.out])
  try simp only [Act.put, List.setIfInBounds_toArray, List.set_cons_zero, List.set_cons_succ]
  refine wpAnyH_ready (rs := [2]) (by kernel_rfl) (by simp) ?_
  refine AllReadyH.cons (o := { dst := some 56, op := Op.call { callee := Callee.value (Operand.func 14), args := #[Operand.tmp 55], argTypes := #[32] }, type := 24, pos := "exact.go:3614", after := #[{ on := 1, ground := Ground.data }], guard := none }) rfl (fun K hK => ?_) AllReadyH.nil
  go_simp
  have hqz : Calls Try.prog 14 #[.agg LT.toArray] w12.drew (fun e w' => ∃ (A3 : Option Addr) (c3 : Nat), e = .returned (.agg #[.int .i64 s.id, .int .i64 s.sq, .int .i64 s.beg, .int .i64 s.fin, .slice A3 s.bat.length c3, .bool s.put]) ∧ SamsAt w' w'.heap.size A3 s.bat ∧ Below w12.drew.heap.size w12.drew w') := by
    rw [ET.out]; exact (toIngester_any A c s x0 w12.drew (HS.out _ bdr) (by omega) hlen).mono (fun e w' h => by obtain ⟨A3, c3, h1, h2, _, _, _, h6⟩ := h; exact ⟨A3, c3, h1, h2, h6⟩)
  refine hqz.mono ?_
  rintro e w13 ⟨A13, c13, rfl, ho13, hb13'⟩
  clear hqz
  have Ho13 := Lib.hid ho13; clear ho13
  have hb13 : Below w12.heap.size w12 w13 := (Below.refl _ _).drew.trans hb13'
  clear hb13'
  refine hK.out _ _ (by exact ⟨rng CV.out hb13 s127, rng CT.out hb13 s120⟩) (fun hHeld => ?_)
  clear hK K
  try simp only [Act.put, List.setIfInBounds_toArray, List.set_cons_zero, List.set_cons_succ]
  refine wpAnyH_ready (rs := [3]) (by kernel_rfl) (by simp) ?_
  refine AllReadyH.cons (o := { dst := some 57, op := Op.call { callee := Callee.value (Operand.func 9), args := #[Operand.tmp 54, Operand.tmp 56], argTypes := #[24, 24] }, type := 4, pos := "exact.go:3614", after := #[{ on := 0, ground := Ground.data }, { on := 2, ground := Ground.data }, { on := 2, ground := Ground.chain }], guard := none }) rfl (fun K hK => ?_) AllReadyH.nil
  go_simp
  have hqe : Calls Try.prog 9 #[.agg LV.toArray, .agg #[.int .i64 s.id, .int .i64 s.sq, .int .i64 s.beg, .int .i64 s.fin, .slice A13 s.bat.length c13, .bool s.put]] w13 (IsBB (s = s) w13) := by rw [EV.out]; exact eqIngester_any A7 c7 A13 c13 s s w13.heap.size w13 (Sl.more (Sl.below O12.out hb13 (by omega)) (by have := hb13.size; omega)) Ho13.out (Nat.le_refl _) (by omega) (by omega)
  refine hqe.mono ?_
  rintro e w14 ⟨be, hbe, rfl, hb14⟩
  obtain rfl : be = true := hbe.2 (by trivial)
  clear hbe hqe
  have hbz : Below w12.heap.size w12 w14 := hb13.trans (hb14.mono hb13.size)
  refine hK.out _ _ (by exact ⟨rng CV.out hbz s127, rng CT.out hbz s120⟩) (fun hHeld => ?_)
  clear hK K
  try simp only [Act.put, List.setIfInBounds_toArray, List.set_cons_zero, List.set_cons_succ]
  refine wpAnyH_take (i := 4) (oi := { dst := some 58, op := Op.unOp UnOp.not 4 (Operand.tmp 57), type := 4, pos := "exact.go:3614", after := #[{ on := 3, ground := Ground.data }], guard := none }) (v := ?vq4) rfl (by kernel_rfl) (by kernel_rfl) (by kernel_rfl) (fun _ _ _ h => h) (Or.inl ⟨by rfl, ?hyq4⟩) (by assumption) ?restq4
  case hyq4 => intro w hSw; (try dsimp only at hSw); (first | (go_simp; done) | (go_simp; with_reducible rfl) | (with_reducible rfl))
  try simp only [Act.put, List.setIfInBounds_toArray, List.set_cons_zero, List.set_cons_succ]
  refine wpAnyH_done (by kernel_rfl) ?_ _
  refine NoPanic.normal ?_
  clear hHeld bdr zdr CV CT EV ET HNV HNT hbz
  have hb15 : Below w12.heap.size w12 w14 := bnext hb13 hb14
  clear hb13 hb14 Ho13
  obtain ⟨w15, hw15⟩ : ∃ w15, w15 = w14 := ⟨_, rfl⟩
  rw [← hw15] at hb15 ⊢
  clear hw15
  have T15 := Lib.hid (T12.out.below hb15 (by omega))
  have S15 := Lib.hid (Sl.below S12.out hb15 (by omega))
  have M15 := Lib.hid (M12.out.below hb15 (by omega))
  have O15 := Lib.hid (Sl.below O12.out hb15 (by omega))
  have P15 := Lib.hid (P12.out.below hb15 (fun b e => by have := (Hbl7.out b e).2; omega))
  have V15 := Lib.hid (V12.out.below hb15 (by omega))
  have Q15 := Lib.hid (Sl.below Q12.out hb15 (by omega))
  have R15 := Lib.hid (R12.out.below hb15 (fun b e => by have := (Hbl9.out b e).2; omega))
  have G15 := Lib.hid (Sl.below G12.out hb15 (by omega))
  have E15 := Lib.hid (E12.out.below hb15 (fun b e => by have := (Hbl10.out b e).2; omega))
  have U15 := Lib.hid (U12.out.below hb15 (by omega))
  have b15 : Below x0 w w15 := b12.trans (hb15.mono (by omega))
  have s15 : w12.heap.size ≤ w15.heap.size := hb15.size
  clear T12 S12 M12 O12 P12 V12 Q12 R12 G12 E12 U12 hb15 b12 s127 s120
  generalize w12.heap.size = x12 at *
  go_wp2_with fail
  refine (toSampleS_any Ak ck ks x0 w15 (HKS.out _ b15) (by omega) hkn).mono ?_
  rintro e w16 ⟨A16, c16, rfl, hq16, _, _, _, hb16⟩
  have Y16 := Lib.hid hq16; clear hq16
  have T16 := Lib.hid (T15.out.below hb16 (by omega))
  have S16 := Lib.hid (Sl.below S15.out hb16 (by omega))
  have M16 := Lib.hid (M15.out.below hb16 (by omega))
  have O16 := Lib.hid (Sl.below O15.out hb16 (by omega))
  have P16 := Lib.hid (P15.out.below hb16 (fun b e => by have := (Hbl7.out b e).2; omega))
  have V16 := Lib.hid (V15.out.below hb16 (by omega))
  have Q16 := Lib.hid (Sl.below Q15.out hb16 (by omega))
  have R16 := Lib.hid (R15.out.below hb16 (fun b e => by have := (Hbl9.out b e).2; omega))
  have G16 := Lib.hid (Sl.below G15.out hb16 (by omega))
  have E16 := Lib.hid (E15.out.below hb16 (fun b e => by have := (Hbl10.out b e).2; omega))
  have U16 := Lib.hid (U15.out.below hb16 (by omega))
  have b16 : Below x0 w w16 := b15.trans (hb16.mono (by omega))
  have s16 : w15.heap.size ≤ w16.heap.size := hb16.size
  clear T15 S15 M15 O15 P15 V15 Q15 R15 G15 E15 U15 hb16 b15
  generalize w15.heap.size = x15 at *
  go_wp2_with fail
  refine (eqSampleS_any A9 A16 c9 c16 ks ks w16.heap.size w16 (Sl.more Q16.out (by omega)) (Sl.more Y16.out (by omega)) (Nat.le_refl _) (by omega) (by omega)).mono ?_
  rintro e w17 ⟨be, hbe, rfl, hb17⟩
  obtain rfl : be = true := hbe.2 rfl; clear hbe
  have T17 := Lib.hid (T16.out.below hb17 (by omega))
  have S17 := Lib.hid (Sl.below S16.out hb17 (by omega))
  have M17 := Lib.hid (M16.out.below hb17 (by omega))
  have O17 := Lib.hid (Sl.below O16.out hb17 (by omega))
  have P17 := Lib.hid (P16.out.below hb17 (fun b e => by have := (Hbl7.out b e).2; omega))
  have V17 := Lib.hid (V16.out.below hb17 (by omega))
  have Q17 := Lib.hid (Sl.below Q16.out hb17 (by omega))
  have R17 := Lib.hid (R16.out.below hb17 (fun b e => by have := (Hbl9.out b e).2; omega))
  have G17 := Lib.hid (Sl.below G16.out hb17 (by omega))
  have E17 := Lib.hid (E16.out.below hb17 (fun b e => by have := (Hbl10.out b e).2; omega))
  have U17 := Lib.hid (U16.out.below hb17 (by omega))
  have Y17 := Lib.hid (Sl.below Y16.out hb17 (by omega))
  have b17 : Below x0 w w17 := b16.trans (hb17.mono (by omega))
  have s17 : w16.heap.size ≤ w17.heap.size := hb17.size
  clear T16 S16 M16 O16 P16 V16 Q16 R16 G16 E16 U16 Y16 hb17 b16
  generalize w16.heap.size = x16 at *
  clear Y17
  obtain ⟨v0, v1, v2, v3, v4, v5⟩ := cellsIng V17.out
  go_wp2_with fail
  refine (markIngester_any A7 c7 s 1 w17 (Sl.more O17.out (by omega)) x6 P17.out (fun b e => by have := Hbl7.out b e; omega) hlen (by omega) (by omega)).mono ?_
  rintro e w18 ⟨rfl, _, _, hg18⟩
  have hb18 : Below x6 w17 w18 := below_of_grown hg18 (by omega) (fun g e => (Hbl7.out g e).1)
  have T18 := Lib.hid (T17.out.below hb18 (by omega))
  have S18 := Lib.hid (Sl.below S17.out hb18 (by omega))
  have M18 := Lib.hid (M17.out.below hb18 (by omega))
  have Q18 := Lib.hid (sl_grow Q17.out hg18 (by omega) (fun b e e2 => by have h1 := Hbl9.out b e; have h2 := Hbl7.out b e2; omega))
  have R18 := Lib.hid (free_grow R17.out hg18 (fun b e => by have := (Hbl9.out b e).2; omega) (fun b e e2 => by have h1 := Hbl9.out b e; have h2 := Hbl7.out b e2; omega))
  have G18 := Lib.hid (sl_grow G17.out hg18 (by omega) (fun b e e2 => by have h1 := Hbl10.out b e; have h2 := Hbl7.out b e2; omega))
  have E18 := Lib.hid (free_grow E17.out hg18 (fun b e => by have := (Hbl10.out b e).2; omega) (fun b e e2 => by have h1 := Hbl10.out b e; have h2 := Hbl7.out b e2; omega))
  have U18 := Lib.hid (cells_grow U17.out hg18 (by omega) (fun g e => by have := Hbl7.out g e; omega))
  have b18 : Below x0 w w18 := b17.trans (hb18.mono (by omega))
  have s18 : w17.heap.size ≤ w18.heap.size := hb18.size
  clear T17 S17 M17 O17 P17 V17 Q17 R17 G17 E17 U17 hg18 hb18 b17 v0 v1 v2 v3 v4 v5
  generalize w17.heap.size = x17 at *
  go_wp2_with fail
  refine (markSampleS_any A9 c9 (1 + 2 * (s.bat.length : Int)) ks x17 w18 (Sl.more Q18.out (by omega)) R18.out (by omega) (by omega) (by omega) (by omega)).mono ?_
  rintro e w19 ⟨rfl, _, hg19, _⟩
  have hb19 : Below x8 w18 w19 := below_of_grown hg19 (by omega) (fun g e => (Hbl9.out g e).1)
  have T19 := Lib.hid (T18.out.below hb19 (by omega))
  have S19 := Lib.hid (Sl.below S18.out hb19 (by omega))
  have M19 := Lib.hid (M18.out.below hb19 (by omega))
  have G19 := Lib.hid (sl_grow G18.out hg19 (by omega) (fun b e e2 => by have h1 := Hbl10.out b e; have h2 := Hbl9.out b e2; omega))
  have E19 := Lib.hid (free_grow E18.out hg19 (fun b e => by have := (Hbl10.out b e).2; omega) (fun b e e2 => by have h1 := Hbl10.out b e; have h2 := Hbl9.out b e2; omega))
  have U19 := Lib.hid (cells_grow U18.out hg19 (by omega) (fun g e => by have := Hbl9.out g e; omega))
  have b19 : Below x0 w w19 := b18.trans (hb19.mono (by omega))
  have s19 : w18.heap.size ≤ w19.heap.size := hb19.size
  clear T18 S18 M18 Q18 R18 G18 E18 U18 hg19 hb19 b18
  generalize w18.heap.size = x18 at *
  have dk : decide (1 + 2 * (s.bat.length : Int) + 2 * (ks.length : Int) < 0) = false := decide_eq_false (by omega)
  obtain ⟨u0, u1, u2, u3, u4, u5⟩ := cellsIng U19.out
  obtain ⟨m0, m1, m2, m3, m4, m5⟩ := cellsIng M19.out
  go_wp2_with fail
  refine (eqIngester_any A10 c10 A5 c5 x' x' w19.heap.size w19 (Sl.more G19.out (by omega)) (Sl.more S19.out (by omega)) (Nat.le_refl _) (by omega) (by omega)).mono ?_
  rintro e w20 ⟨be, hbe, rfl, hb20⟩
  obtain rfl : be = true := hbe.2 rfl; clear hbe
  have T20 := Lib.hid (T19.out.below hb20 (by omega))
  have S20 := Lib.hid (Sl.below S19.out hb20 (by omega))
  have M20 := Lib.hid (M19.out.below hb20 (by omega))
  have G20 := Lib.hid (Sl.below G19.out hb20 (by omega))
  have E20 := Lib.hid (E19.out.below hb20 (fun b e => by have := (Hbl10.out b e).2; omega))
  have U20 := Lib.hid (U19.out.below hb20 (by omega))
  have b20 : Below x0 w w20 := b19.trans (hb20.mono (by omega))
  have s20 : w19.heap.size ≤ w20.heap.size := hb20.size
  clear T19 S19 M19 G19 E19 U19 hb20 b19 dk u0 u1 u2 u3 u4 u5 m0 m1 m2 m3 m4 m5
  generalize w19.heap.size = x19 at *
  obtain ⟨u0, u1, u2, u3, u4, u5⟩ := cellsIng U20.out
  go_wp2_with fail
  refine (markIngester_any A10 c10 x' 1 w20 (Sl.more G20.out (by omega)) x9 E20.out (fun b e => by have := Hbl10.out b e; omega) (by omega) (by omega) (by omega)).mono ?_
  rintro e w21 ⟨rfl, hm21, _, hg21⟩
  have hb21 : Below x9 w20 w21 := below_of_grown hg21 (by omega) (fun g e => (Hbl10.out g e).1)
  have T21 := Lib.hid (T20.out.below hb21 (by omega))
  have S21 := Lib.hid (Sl.below S20.out hb21 (by omega))
  have M21 := Lib.hid (M20.out.below hb21 (by omega))
  have U21 := Lib.hid (cells_grow U20.out hg21 (by omega) (fun g e => by have := Hbl10.out g e; omega))
  have b21 : Below x0 w w21 := b20.trans (hb21.mono (by omega))
  have s21 : w20.heap.size ≤ w21.heap.size := hb21.size
  have N21 := Lib.hid hm21; clear hm21
  clear T20 S20 M20 G20 E20 U20 hg21 hb21 b20 u0 u1 u2 u3 u4 u5
  generalize w20.heap.size = x20 at *
  have dq : decide (1 + 2 * (x'.bat.length : Int) < 0) = false := decide_eq_false (by omega)
  have dq2 : ((1 + 2 * (x'.bat.length : Int)) != (1 + 2 * (x'.bat.length : Int))) = false := by simp
  obtain ⟨u0, u1, u2, u3, u4, u5⟩ := cellsIng U21.out
  go_wp2_with fail
  refine (heldIngester_any A10 c10 x' 1 w21.heap.size w21 (Sl.more N21.out (by omega)) (Nat.le_refl _) (by omega) (by omega) (by omega)).mono ?_
  rintro e w22 ⟨rfl, hb22⟩
  have T22 := Lib.hid (T21.out.below hb22 (by omega))
  have S22 := Lib.hid (Sl.below S21.out hb22 (by omega))
  have M22 := Lib.hid (M21.out.below hb22 (by omega))
  have U22 := Lib.hid (U21.out.below hb22 (by omega))
  have N22 := Lib.hid (Sl.below N21.out hb22 (by omega))
  have b22 : Below x0 w w22 := b21.trans (hb22.mono (by omega))
  have s22 : w21.heap.size ≤ w22.heap.size := hb22.size
  clear T21 S21 M21 U21 N21 hb22 b21 u0 u1 u2 u3 u4 u5
  generalize w21.heap.size = x21 at *
  obtain ⟨t0, t1, t2, t3, t4, t5⟩ := cellsIng T22.out
  go_wp2_with fail
  refine (toIngester_any A c s x0 w22 (HS.out _ b22) (by omega) hlen).mono ?_
  rintro e w23 ⟨A23, c23, rfl, ho23, _, _, _, hb23⟩
  have O23 := Lib.hid ho23; clear ho23
  have T23 := Lib.hid (T22.out.below hb23 (by omega))
  have S23 := Lib.hid (Sl.below S22.out hb23 (by omega))
  have M23 := Lib.hid (M22.out.below hb23 (by omega))
  have U23 := Lib.hid (U22.out.below hb23 (by omega))
  have N23 := Lib.hid (Sl.below N22.out hb23 (by omega))
  have b23 : Below x0 w w23 := b22.trans (hb23.mono (by omega))
  have s23 : w22.heap.size ≤ w23.heap.size := hb23.size
  clear T22 S22 M22 U22 N22 hb23 b22 t0 t1 t2 t3 t4 t5
  generalize w22.heap.size = x22 at *
  go_wp2_with fail
  refine (toSampleS_any Ak ck ks x0 w23 (HKS.out _ b23) (by omega) hkn).mono ?_
  rintro e w24 ⟨A24, c24, rfl, hq24, _, _, _, hb24⟩
  have Q24 := Lib.hid hq24; clear hq24
  have T24 := Lib.hid (T23.out.below hb24 (by omega))
  have S24 := Lib.hid (Sl.below S23.out hb24 (by omega))
  have M24 := Lib.hid (M23.out.below hb24 (by omega))
  have U24 := Lib.hid (U23.out.below hb24 (by omega))
  have N24 := Lib.hid (Sl.below N23.out hb24 (by omega))
  have O24 := Lib.hid (Sl.below O23.out hb24 (by omega))
  have b24 : Below x0 w w24 := b23.trans (hb24.mono (by omega))
  have s24 : w23.heap.size ≤ w24.heap.size := hb24.size
  clear T23 S23 M23 U23 N23 O23 hb24 b23
  generalize w23.heap.size = x23 at *
  go_wp2_with fail
  refine (giveBatch_any A23 c23 s A24 c24 ks w24.heap.size w24 (Sl.more O24.out (by omega)) (Sl.more Q24.out (by omega)) (Nat.le_refl _) hlen hkn).mono ?_
  rintro e w25 ⟨x2, cd2, A25, c25, hv25, rfl, ho25, hb25⟩
  obtain ⟨rfl, rfl⟩ := Hv5.out.one hv25; clear hv25
  have Y25 := Lib.hid (OwnSl.sl ho25 (fun _ => rfl)).1; clear ho25
  have T25 := Lib.hid (T24.out.below hb25 (by omega))
  have S25 := Lib.hid (Sl.below S24.out hb25 (by omega))
  have M25 := Lib.hid (M24.out.below hb25 (by omega))
  have U25 := Lib.hid (U24.out.below hb25 (by omega))
  have N25 := Lib.hid (Sl.below N24.out hb25 (by omega))
  have O25 := Lib.hid (Sl.below O24.out hb25 (by omega))
  have Q25 := Lib.hid (Sl.below Q24.out hb25 (by omega))
  have b25 : Below x0 w w25 := b24.trans (hb25.mono (by omega))
  have s25 : w24.heap.size ≤ w25.heap.size := hb25.size
  clear T24 S24 M24 U24 N24 O24 Q24 hb25 b24
  generalize w24.heap.size = x24 at *
  clear O25 Q25
  go_upto_region 32 with fail
  have I26 : Hid (Cells (w25.alloc (.cells #[.int .i64 x2.id, .int .i64 x2.sq, .int .i64 x2.beg, .int .i64 x2.fin, .slice A25 x2.bat.length c25, .bool x2.put] 24)) w25.heap.size 0 [.int .i64 x2.id, .int .i64 x2.sq, .int .i64 x2.beg, .int .i64 x2.fin, .slice A25 x2.bat.length c25, .bool x2.put]) := Lib.hid (Cells.new _ _ _)
  have hb26 : Below w25.heap.size w25 (w25.alloc (.cells #[.int .i64 x2.id, .int .i64 x2.sq, .int .i64 x2.beg, .int .i64 x2.fin, .slice A25 x2.bat.length c25, .bool x2.put] 24)) := bal (Below.refl _ _) _
  have y26 : w25.heap.size < (w25.alloc (.cells #[.int .i64 x2.id, .int .i64 x2.sq, .int .i64 x2.beg, .int .i64 x2.fin, .slice A25 x2.bat.length c25, .bool x2.put] 24)).heap.size := by simp
  generalize w25.alloc (.cells #[.int .i64 x2.id, .int .i64 x2.sq, .int .i64 x2.beg, .int .i64 x2.fin, .slice A25 x2.bat.length c25, .bool x2.put] 24) = w26 at *
  have T26 := Lib.hid (T25.out.below hb26 (by omega))
  have S26 := Lib.hid (Sl.below S25.out hb26 (by omega))
  have M26 := Lib.hid (M25.out.below hb26 (by omega))
  have U26 := Lib.hid (U25.out.below hb26 (by omega))
  have N26 := Lib.hid (Sl.below N25.out hb26 (by omega))
  have Y26 := Lib.hid (Sl.below Y25.out hb26 (by omega))
  have b26 : Below x0 w w26 := b25.trans (hb26.mono (by omega))
  have s26 : w25.heap.size ≤ w26.heap.size := hb26.size
  clear T25 S25 M25 U25 N25 Y25 hb26 b25
  generalize w25.heap.size = x25 at *
  obtain ⟨i0, i1, i2, i3, i4, i5⟩ := cellsIng I26.out
  obtain ⟨m0, m1, m2, m3, m4, m5⟩ := cellsIng M26.out
  go_wp2_with fail
  refine (eqIngester_any A25 c25 A5 c5 x2 x2 w26.heap.size w26 (Sl.more Y26.out (by omega)) (Sl.more S26.out (by omega)) (Nat.le_refl _) (by omega) (by omega)).mono ?_
  rintro e w27 ⟨be, hbe, rfl, hb27⟩
  obtain rfl : be = true := hbe.2 rfl; clear hbe
  have T27 := Lib.hid (T26.out.below hb27 (by omega))
  have S27 := Lib.hid (Sl.below S26.out hb27 (by omega))
  have M27 := Lib.hid (M26.out.below hb27 (by omega))
  have U27 := Lib.hid (U26.out.below hb27 (by omega))
  have N27 := Lib.hid (Sl.below N26.out hb27 (by omega))
  have Y27 := Lib.hid (Sl.below Y26.out hb27 (by omega))
  have I27 := Lib.hid (I26.out.below hb27 (by omega))
  have b27 : Below x0 w w27 := b26.trans (hb27.mono (by omega))
  have s27 : w26.heap.size ≤ w27.heap.size := hb27.size
  clear T26 S26 M26 U26 N26 Y26 I26 hb27 b26 i0 i1 i2 i3 i4 i5 m0 m1 m2 m3 m4 m5
  generalize w26.heap.size = x26 at *
  obtain ⟨u0, u1, u2, u3, u4, u5⟩ := cellsIng U27.out
  go_wp2_with fail
  refine (heldIngester_any A10 c10 x2 1 w27.heap.size w27 (Sl.more N27.out (by omega)) (Nat.le_refl _) (by omega) (by omega) (by omega)).mono ?_
  rintro e w28 ⟨rfl, hb28⟩
  have T28 := Lib.hid (T27.out.below hb28 (by omega))
  have S28 := Lib.hid (Sl.below S27.out hb28 (by omega))
  have M28 := Lib.hid (M27.out.below hb28 (by omega))
  have U28 := Lib.hid (U27.out.below hb28 (by omega))
  have N28 := Lib.hid (Sl.below N27.out hb28 (by omega))
  have Y28 := Lib.hid (Sl.below Y27.out hb28 (by omega))
  have I28 := Lib.hid (I27.out.below hb28 (by omega))
  have b28 : Below x0 w w28 := b27.trans (hb28.mono (by omega))
  have s28 : w27.heap.size ≤ w28.heap.size := hb28.size
  clear T27 S27 M27 U27 N27 Y27 I27 hb28 b27 u0 u1 u2 u3 u4 u5
  generalize w27.heap.size = x27 at *
  go_wp2
  go_ret
  exact ⟨rfl, by rw [Hx0.out]; exact b28⟩

theorem own : ownKnob Try.prog.godebug = none := by kernel_rfl
theorem laidOut : laidOutB Try.prog = true := by kernel_rfl

set_option maxRecDepth 100000 in
theorem lifted (os : Os) (started : os.Started) (H : Type) (enc : TypeId × Value → H) :
    ReturnsInHanded {} Try.checked os 5 .any (Rows.fnExactGiveBatchSpec.pre6 enc Try.prog Try.f5 Rows.fnExactGiveBatchRow.domain false) (Rows.fnExactGiveBatchSpec.post enc Try.prog Try.f5 false true false false) := by
  refine returnsInHanded_of_change (C := Try.checked) own started (by kernel_rfl) Try.func5
    (ChangeSpec.witness6 (enc := enc) (C := Try.checked) false ⟨#[], #[.agg #[.int .i64 0, .int .i64 0, .int .i64 0, .int .i64 0, .slice none 0 0, .bool false], .slice none 0 0], []⟩ 8 (by kernel_rfl) (by kernel_rfl) (by kernel_rfl) (by kernel_rfl)) ?_
  intro W base args ds gs before hval0 hW hcnd _
  have hval : ∀ (j : Nat) t v, Try.f5.params[j]? = some t → args[j]? = some v → Value.okWide Try.prog W .any base t v := hval0
  have hW' := hW
  obtain ⟨p, q, hA0, hV, rfl, hfz, hnd⟩ := hW
  have hA : DataW.TrodAll enc Try.prog W 0 (fun _ => true) true Try.f5.params.toList args.toList ds p := hA0
  rw [Try.params5] at hA hval
  obtain ⟨v0, vs0, d0, ds0, p0, q0, hargs, rfl, rfl, h0, r0⟩ := trodAll_cons hA
  obtain ⟨v1, vs1, d1, ds1, p1, q1, rfl, rfl, rfl, h1, r1⟩ := trodAll_cons r0
  obtain ⟨rfl, rfl, rfl⟩ := trodAll_nil r1
  obtain rfl : args = #[v0, v1] := by cases args; simp_all
  obtain ⟨rfl, rfl⟩ := trodVars_none hV
  have k0 := h0
  have lt0 : ∀ x ∈ p0, x.block < W.heap.size := by obtain ⟨m, hm⟩ := k0; exact DataW.trod_lt m _ _ _ hm
  obtain ⟨A0, c0, st0, rfl, ob0, ft0⟩ := open_ling (hval 0 32 v0 rfl rfl) h0
  have k1 := h1
  have lt1 : ∀ x ∈ p1, x.block < W.heap.size := by obtain ⟨m, hm⟩ := k1; exact DataW.trod_lt m _ _ _ hm
  obtain ⟨A1, c1, xs1, rfl, ob1, ft1, ln1⟩ := open_lsams (hval 1 30 v1 rfl rfl) h1
  clear hA0 hval0
  refine (walk A0 c0 st0 A1 c1 xs1 W ob0 ft0 ob1 ln1).mono fun e W' ⟨he, bel⟩ => ?_
  subst he
  exact ⟨_, rfl, _, _, _, [], _, [], hW', trodAll_mk1 (shut_bool Try.underlying4 _), (trodAll_cons_mk (Below.trod laidOut (by kernel_rfl) (of_decide_eq_true (by kernel_rfl)) k0 bel lt0) (trodAll_cons_mk (Below.trod laidOut (by kernel_rfl) (of_decide_eq_true (by kernel_rfl)) k1 bel lt1) trodAll_mk0)), rfl, bel.frame _, fun h => by cases h⟩

theorem over : Rows.fnExactGiveBatchRow.holds Try.pinned (OpenSpec.ofChange Rows.fnExactGiveBatchSpec) :=
  OpenClaim.holds_of_wide 5 Try.f5 rfl rfl rfl rfl rfl rfl rfl ⟨rfl, rfl, rfl, rfl, rfl⟩ rfl rfl rfl rfl rfl (by kernel_rfl) Try.func5 (by kernel_rfl)
    (of_decide_eq_true (by kernel_rfl)) (by unfold Func.isWrapper; first | (rw [if_pos (by decide +kernel)]; kernel_rfl) | (rw [if_neg (by decide +kernel)]; exact ⟨rfl, rfl⟩))
    (fun os started H enc _ => lifted os started H enc)

theorem proved : Rows.FnExactGiveBatchSaid := over
#print axioms proved
end Go.Proofs.Ytpfanmcjlfdaiaa.fnExactGiveBatch
