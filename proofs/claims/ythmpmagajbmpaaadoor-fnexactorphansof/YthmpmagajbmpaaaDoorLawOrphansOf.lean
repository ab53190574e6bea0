/-
  'laws.FnExactOrphansOf' answers true at every input: OrphansOf answers as its model does, writes into no argument, and answers memory of its own. Conditions: the library's tables hold what its text lays there (tied by the card).
-/
import Derived.Test.YthmpmagajbmpaaaDoorM1
import Derived.Deep.RegionHeld3
import Derived.Test.YthmpmagajbmpaaaDoorCards
import Derived.Test.YthmpmagajbmpaaaDoorTie
import Derived.ProofKit
import Derived.OpenShut
import Derived.Deep.DeepHandedRow
import Derived.Lib.LaidTab
import Derived.Outline
import Derived.ShutString
namespace Go.Proofs.YthmpmagajbmpaaaDoor.fnExactOrphansOf
open Go.ChangeShapes Go.WideShapes Go.ChangeAt Go.RowKit
set_option linter.unusedVariables false

set_option maxRecDepth 100000 in
set_option maxHeartbeats 8000000 in
theorem walk (A : Option Addr) (c : Nat) (A2 : Option Addr) (c2 : Nat) (s : GSt) (Ak : Option Addr) (ck : Nat) (ks : List ByteArray) (w : World) (h : StAt w w.heap.size A A2 s) (hf : s.fit) (hks : StrsAt w w.heap.size Ak ks) (hkf : ∀ o ∈ ks, o.size ≤ maxLen) (hkl : ks.length ≤ maxLen) (hp : Paths w) (hz : 2 < w.heap.size) :
    Calls Tryd.prog 6 #[.agg #[.int .i64 s.sq, .int .i64 s.fe, .slice A s.ents.length c, .slice A2 s.tmbs.length c2, .int .i64 s.lo.a, .int .i64 s.lo.b, .int .i64 s.lo.c, .int .i64 s.hi.a, .int .i64 s.hi.b, .int .i64 s.hi.c], .slice Ak ks.length ck] w fun e w' => e = .returned (.bool true) ∧ Below w.heap.size w w' := by
  have H := Lib.hid h; clear h
  have Hf := Lib.hid hf; clear hf
  have HK := Lib.hid hks; clear hks
  have HKF0 := Lib.hid hkf; clear hkf
  have HP : Hid (∀ w', Below w.heap.size w w' → Paths w' ∧ 2 < w'.heap.size) := Lib.hid (fun w' h => ⟨hp.below h hz, Nat.lt_of_lt_of_le hz h.size⟩)
  clear hp
  go_enter Tryd.func6, Tryd.ntmps6
  go_wp2_with fail
  have T0 : Hid (Cells (w.alloc (.cells #[.int .i64 s.sq, .int .i64 s.fe, .slice A s.ents.length c, .slice A2 s.tmbs.length c2, .int .i64 s.lo.a, .int .i64 s.lo.b, .int .i64 s.lo.c, .int .i64 s.hi.a, .int .i64 s.hi.b, .int .i64 s.hi.c] 26)) w.heap.size 0 [.int .i64 s.sq, .int .i64 s.fe, .slice A s.ents.length c, .slice A2 s.tmbs.length c2, .int .i64 s.lo.a, .int .i64 s.lo.b, .int .i64 s.lo.c, .int .i64 s.hi.a, .int .i64 s.hi.b, .int .i64 s.hi.c]) := Lib.hid (Cells.new w _ _)
  have b0 : Below w.heap.size w (w.alloc (.cells #[.int .i64 s.sq, .int .i64 s.fe, .slice A s.ents.length c, .slice A2 s.tmbs.length c2, .int .i64 s.lo.a, .int .i64 s.lo.b, .int .i64 s.lo.c, .int .i64 s.hi.a, .int .i64 s.hi.b, .int .i64 s.hi.c] 26)) := bal (Below.refl _ _) _
  have s0 : w.heap.size < (w.alloc (.cells #[.int .i64 s.sq, .int .i64 s.fe, .slice A s.ents.length c, .slice A2 s.tmbs.length c2, .int .i64 s.lo.a, .int .i64 s.lo.b, .int .i64 s.lo.c, .int .i64 s.hi.a, .int .i64 s.hi.b, .int .i64 s.hi.c] 26)).heap.size := by simp
  generalize w.alloc (.cells #[.int .i64 s.sq, .int .i64 s.fe, .slice A s.ents.length c, .slice A2 s.tmbs.length c2, .int .i64 s.lo.a, .int .i64 s.lo.b, .int .i64 s.lo.c, .int .i64 s.hi.a, .int .i64 s.hi.b, .int .i64 s.hi.c] 26) = w0 at *
  generalize hx0 : w.heap.size = x0 at *
  have Hx0 := Lib.hid hx0; clear hx0
  have HS : Hid (∀ w', Below x0 w w' → StAt w' x0 A A2 s) := Lib.hid fun w' hb => (H.out.below hb (by have := Hx0.out; omega)).more (by have := Hx0.out; omega)
  have HKS : Hid (∀ w', Below x0 w w' → StrsAt w' x0 Ak ks) := Lib.hid fun w' hb => Sl.more (Sl.below HK.out hb (by have := Hx0.out; omega)) (by have := Hx0.out; omega)
  clear H HK
  refine (szState_any A c A2 c2 s 1048576 x0 w0 (HS.out _ b0) (by omega) Hf.out.2.2.2.2.1 Hf.out.2.2.2.2.2.1 Hf.out.2.2.2.2.2.2.1 Hf.out.2.2.2.2.2.2.2 (by omega) (by omega)).mono ?_
  rintro e w1 ⟨v, hv, hv1, hv2, rfl, hb1⟩
  have Hv := Lib.hid hv; clear hv
  have b1 : Below x0 w w1 := b0.trans (hb1.mono (by omega))
  by_cases hneg : v < 0
  · have d : decide (v < 0) = true := by simpa using hneg
    go_wp2
    go_ret
    exact ⟨rfl, by rw [Hx0.out]; exact b1⟩
  have d : decide (v < 0) = false := by simpa using hneg
  have hlen : s.ents.length ≤ 1048576 := (Hv.out (by omega)).1.1.1
  have hlen2 : s.tmbs.length ≤ 1048576 := (Hv.out (by omega)).1.2.1
  have HSE := Lib.hid (Hv.out (by omega)).1.1.2
  have HST := Lib.hid (Hv.out (by omega)).1.2.2
  have HFE := Lib.hid Hf.out.2.2.2.2.1
  have HFT := Lib.hid Hf.out.2.2.2.2.2.1
  have hvle : v ≤ 1048576 := hv2
  clear Hv Hf
  have T1 := Lib.hid (T0.out.below hb1 s0)
  have s1 : x0 < w1.heap.size := by have := hb1.size; omega
  clear T0 hb1 b0 s0
  go_wp2_with fail
  refine (szStringS_any Ak ck ks v x0 w1 (HKS.out _ b1) HKF0.out hkl (by omega) (by omega)).mono ?_
  rintro e w2 ⟨v2, hv, hv3, hv4, rfl, hb2⟩
  have Hv := Lib.hid hv; clear hv
  have b2 : Below x0 w w2 := b1.trans (hb2.mono (by omega))
  by_cases hneg2 : v2 < 0
  · have d2 : decide (v2 < 0) = true := by simpa using hneg2
    go_wp2
    go_ret
    exact ⟨rfl, by rw [Hx0.out]; exact b2⟩
  have d2 : decide (v2 < 0) = false := by simpa using hneg2
  have hkn : ks.length ≤ 1048576 := (Hv.out (by omega)).1.1
  have HKF := Lib.hid (Hv.out (by omega)).1.2
  clear Hv HKF0
  have T2 := Lib.hid (T1.out.below hb2 s1)
  have s2 : x0 < w2.heap.size := by have := hb2.size; omega
  clear T1 hb2 b1 s1 hkl hv1 hv2 hv3 hv4 hvle
  obtain ⟨t0, t1, t2, t3, t4, t5, t6, t7, t8, t9⟩ := T2.out.ten
  go_wp2_with fail
  refine (toState_any A c A2 c2 s x0 w2 (HS.out _ b2) (by omega) hlen hlen2).mono ?_
  rintro e w3 ⟨A3, c3, B3, d3, rfl, ho3, _, _, _, hb3⟩
  have O3 := Lib.hid ho3; clear ho3
  have T3 := Lib.hid (T2.out.below hb3 (by omega))
  have b3 : Below x0 w w3 := b2.trans (hb3.mono (by omega))
  have s3 : w2.heap.size ≤ w3.heap.size := hb3.size
  clear T2 hb3 b2 t0 t1 t2 t3 t4 t5 t6 t7 t8 t9
  generalize w2.heap.size = x2 at *
  go_wp2_with fail
  refine (toStringS_any Ak ck ks x0 w3 (HKS.out _ b3) (by omega) hkn).mono ?_
  rintro e w4 ⟨A4, c4, rfl, hq4, _, _, _, hb4⟩
  have Q4 := Lib.hid hq4; clear hq4
  have T4 := Lib.hid (T3.out.below hb4 (by omega))
  have O4 := Lib.hid (O3.out.below hb4 (by omega))
  have b4 : Below x0 w w4 := b3.trans (hb4.mono (by omega))
  have s4 : w3.heap.size ≤ w4.heap.size := hb4.size
  clear T3 O3 hb4 b3
  generalize w3.heap.size = x3 at *
  go_wp2_with fail
  refine (specOrphansOf_any A3 c3 B3 d3 s A4 c4 ks w4.heap.size w4 (O4.out.more (by omega)) (Sl.more Q4.out (by omega)) (Nat.le_refl _) HSE.out HST.out hlen hlen2 hkn HKF.out).mono ?_
  rintro e w5 ⟨A5, c5, L, z, hv5, rfl, hs5, _, _, _, hb5⟩
  have Hv5 := Lib.hid hv5; have hll := hv5.len; clear hv5
  have S5 := Lib.hid hs5; clear hs5
  have T5 := Lib.hid (T4.out.below hb5 (by omega))
  have O5 := Lib.hid (O4.out.below hb5 (by omega))
  have Q5 := Lib.hid (Sl.below Q4.out hb5 (by omega))
  have b5 : Below x0 w w5 := b4.trans (hb5.mono (by omega))
  have s5 : w4.heap.size ≤ w5.heap.size := hb5.size
  clear T4 O4 Q4 hb5 b4
  generalize w4.heap.size = x4 at *
  clear O5 Q5
  obtain ⟨t0, t1, t2, t3, t4, t5, t6, t7, t8, t9⟩ := T5.out.ten
  go_wp2_with fail
  refine (toState_any A c A2 c2 s x0 w5 (HS.out _ b5) (by omega) hlen hlen2).mono ?_
  rintro e w6 ⟨A6, c6, B6, d6, rfl, ho6, hw6, _, _, hb6⟩
  have O6 := Lib.hid ho6; clear ho6
  have W6 := Lib.hid hw6
  have Hbl6 : Hid (∀ b, blk A6 = some b → w5.heap.size ≤ b ∧ b < w6.heap.size) := Lib.hid hw6.2.2.1
  have Hbm6 : Hid (∀ b, blk B6 = some b → w5.heap.size ≤ b ∧ b < w6.heap.size) := Lib.hid hw6.2.2.2.1
  clear hw6
  have T6 := Lib.hid (T5.out.below hb6 (by omega))
  have S6 := Lib.hid (Sl.below S5.out hb6 (by omega))
  have b6 : Below x0 w w6 := b5.trans (hb6.mono (by omega))
  have s6 : w5.heap.size ≤ w6.heap.size := hb6.size
  clear T5 S5 hb6 b5 t0 t1 t2 t3 t4 t5 t6 t7 t8 t9
  generalize w5.heap.size = x5 at *
  go_wp2_with fail
  have V7 : Hid (Cells (w6.alloc (.cells #[.int .i64 s.sq, .int .i64 s.fe, .slice A6 s.ents.length c6, .slice B6 s.tmbs.length d6, .int .i64 s.lo.a, .int .i64 s.lo.b, .int .i64 s.lo.c, .int .i64 s.hi.a, .int .i64 s.hi.b, .int .i64 s.hi.c] 33)) w6.heap.size 0 [.int .i64 s.sq, .int .i64 s.fe, .slice A6 s.ents.length c6, .slice B6 s.tmbs.length d6, .int .i64 s.lo.a, .int .i64 s.lo.b, .int .i64 s.lo.c, .int .i64 s.hi.a, .int .i64 s.hi.b, .int .i64 s.hi.c]) := Lib.hid (Cells.new _ _ _)
  have hb7 : Below w6.heap.size w6 (w6.alloc (.cells #[.int .i64 s.sq, .int .i64 s.fe, .slice A6 s.ents.length c6, .slice B6 s.tmbs.length d6, .int .i64 s.lo.a, .int .i64 s.lo.b, .int .i64 s.lo.c, .int .i64 s.hi.a, .int .i64 s.hi.b, .int .i64 s.hi.c] 33)) := bal (Below.refl _ _) _
  have y7 : w6.heap.size < (w6.alloc (.cells #[.int .i64 s.sq, .int .i64 s.fe, .slice A6 s.ents.length c6, .slice B6 s.tmbs.length d6, .int .i64 s.lo.a, .int .i64 s.lo.b, .int .i64 s.lo.c, .int .i64 s.hi.a, .int .i64 s.hi.b, .int .i64 s.hi.c] 33)).heap.size := by simp
  generalize w6.alloc (.cells #[.int .i64 s.sq, .int .i64 s.fe, .slice A6 s.ents.length c6, .slice B6 s.tmbs.length d6, .int .i64 s.lo.a, .int .i64 s.lo.b, .int .i64 s.lo.c, .int .i64 s.hi.a, .int .i64 s.hi.b, .int .i64 s.hi.c] 33) = w7 at *
  have T7 := Lib.hid (T6.out.below hb7 (by omega))
  have S7 := Lib.hid (Sl.below S6.out hb7 (by omega))
  have O7 := Lib.hid (O6.out.below hb7 (by omega))
  have W7 := Lib.hid (W6.out.below hb7 (Nat.le_refl _))
  have b7 : Below x0 w w7 := b6.trans (hb7.mono (by omega))
  have s7 : w6.heap.size ≤ w7.heap.size := hb7.size
  clear T6 S6 O6 W6 hb7 b6
  generalize w6.heap.size = x6 at *
  refine (toStringS_any Ak ck ks x0 w7 (HKS.out _ b7) (by omega) hkn).mono ?_
  rintro e w8 ⟨A8, c8, rfl, hq8, hr8, hbl8, _, hb8⟩
  have Q8 := Lib.hid hq8; have R8 := Lib.hid hr8; have Hbl8 := Lib.hid hbl8; clear hq8 hr8 hbl8
  have T8 := Lib.hid (T7.out.below hb8 (by omega))
  have S8 := Lib.hid (Sl.below S7.out hb8 (by omega))
  have O8 := Lib.hid (O7.out.below hb8 (by omega))
  have W8 := Lib.hid (W7.out.below hb8 (Nat.le_refl _))
  have V8 := Lib.hid (V7.out.below hb8 (by omega))
  have b8 : Below x0 w w8 := b7.trans (hb8.mono (by omega))
  have s8 : w7.heap.size ≤ w8.heap.size := hb8.size
  clear T7 S7 O7 W7 V7 hb8 b7
  generalize w7.heap.size = x7 at *
  obtain ⟨v0, v1, v2', v3, v4, v5, v6, v7, v8, v9⟩ := V8.out.ten
  go_wp2_with fail
  refine (orphansOf_any A6 c6 B6 d6 s A8 c8 ks w8.heap.size w8 (O8.out.more (by omega)) (Sl.more Q8.out (by omega)) (Nat.le_refl _) HFE.out HFT.out hlen hlen2 hkn HKF.out (HP.out _ b8).1 (HP.out _ b8).2).mono ?_
  rintro e w9 ⟨A9, c9, L', z', hv9, rfl, hg9, he9, hbl9, _, hb9⟩
  obtain ⟨rfl, rfl⟩ := Hv5.out.one hv9; clear hv9
  have G9 := Lib.hid hg9; have E9 := Lib.hid he9; have Hbl9 := Lib.hid hbl9; clear hg9 he9 hbl9
  have T9 := Lib.hid (T8.out.below hb9 (by omega))
  have S9 := Lib.hid (Sl.below S8.out hb9 (by omega))
  have O9 := Lib.hid (O8.out.below hb9 (by omega))
  have W9 := Lib.hid (W8.out.below hb9 (Nat.le_refl _))
  have V9 := Lib.hid (V8.out.below hb9 (by omega))
  have Q9 := Lib.hid (Sl.below Q8.out hb9 (by omega))
  have R9 := Lib.hid (R8.out.below hb9 (fun b e => by have := (Hbl8.out b e).2; omega))
  have b9 : Below x0 w w9 := b8.trans (hb9.mono (by omega))
  have s9 : w8.heap.size ≤ w9.heap.size := hb9.size
  clear T8 S8 O8 W8 V8 Q8 R8 hb9 b8 v0 v1 v2' v3 v4 v5 v6 v7 v8 v9
  generalize w8.heap.size = x8 at *
  go_wp2_with fail
  refine (eqStringS_any A9 A5 c9 c5 L' L' w9.heap.size w9 (Sl.more G9.out (by omega)) (Sl.more S9.out (by omega)) (Nat.le_refl _) (by omega) (by omega)).mono ?_
  rintro e w10 ⟨be, hbe, rfl, hb10⟩
  obtain rfl : be = true := hbe.2 rfl; clear hbe
  have T10 := Lib.hid (T9.out.below hb10 (by omega))
  have S10 := Lib.hid (Sl.below S9.out hb10 (by omega))
  have O10 := Lib.hid (O9.out.below hb10 (by omega))
  have W10 := Lib.hid (W9.out.below hb10 (Nat.le_refl _))
  have V10 := Lib.hid (V9.out.below hb10 (by omega))
  have Q10 := Lib.hid (Sl.below Q9.out hb10 (by omega))
  have R10 := Lib.hid (R9.out.below hb10 (fun b e => by have := (Hbl8.out b e).2; omega))
  have G10 := Lib.hid (Sl.below G9.out hb10 (by omega))
  have E10 := Lib.hid (E9.out.below hb10 (fun b e => by have := (Hbl9.out b e).2; omega))
  have b10 : Below x0 w w10 := b9.trans (hb10.mono (by omega))
  have s10 : w9.heap.size ≤ w10.heap.size := hb10.size
  clear T9 S9 O9 W9 V9 Q9 R9 G9 E9 hb10 b9
  generalize w9.heap.size = x9 at *
  have CT := T10.out.ten
  have CV := V10.out.ten
  have s106 : x6 < w10.heap.size := by omega
  have s100 : x0 < w10.heap.size := by omega
  go_wp2_with fail
  go_region_held3 (fun w' => (w'.cell? ⟨x6, 0, none⟩ = some (.int .i64 s.sq) ∧ w'.cell? ⟨x6, 1, none⟩ = some (.int .i64 s.fe) ∧ w'.cell? ⟨x6, 2, none⟩ = some (.slice A6 s.ents.length c6) ∧ w'.cell? ⟨x6, 3, none⟩ = some (.slice B6 s.tmbs.length d6) ∧ w'.cell? ⟨x6, 4, none⟩ = some (.int .i64 s.lo.a) ∧ w'.cell? ⟨x6, 5, none⟩ = some (.int .i64 s.lo.b) ∧ w'.cell? ⟨x6, 6, none⟩ = some (.int .i64 s.lo.c) ∧ w'.cell? ⟨x6, 7, none⟩ = some (.int .i64 s.hi.a) ∧ w'.cell? ⟨x6, 8, none⟩ = some (.int .i64 s.hi.b) ∧ w'.cell? ⟨x6, 9, none⟩ = some (.int .i64 s.hi.c)) ∧ w'.cell? ⟨x0, 0, none⟩ = some (.int .i64 s.sq) ∧ w'.cell? ⟨x0, 1, none⟩ = some (.int .i64 s.fe) ∧ w'.cell? ⟨x0, 2, none⟩ = some (.slice A s.ents.length c) ∧ w'.cell? ⟨x0, 3, none⟩ = some (.slice A2 s.tmbs.length c2) ∧ w'.cell? ⟨x0, 4, none⟩ = some (.int .i64 s.lo.a) ∧ w'.cell? ⟨x0, 5, none⟩ = some (.int .i64 s.lo.b) ∧ w'.cell? ⟨x0, 6, none⟩ = some (.int .i64 s.lo.c) ∧ w'.cell? ⟨x0, 7, none⟩ = some (.int .i64 s.hi.a) ∧ w'.cell? ⟨x0, 8, none⟩ = some (.int .i64 s.hi.b) ∧ w'.cell? ⟨x0, 9, none⟩ = some (.int .i64 s.hi.c))
    (first | exact ⟨CV, CT⟩ | exact ⟨(V10.out.below hb11 s106).ten, (T10.out.below hb11 s100).ten⟩ | exact ⟨((V10.out.below hb11 s106).below hb12 s116).ten, ((T10.out.below hb11 s100).below hb12 s110).ten⟩ | (go_keep; done))
    (first
      | (go_at_call 10; refine (toState_any A c A2 c2 s x0 w10.drew (by exact HS.out _ b10.drew) (by exact Nat.le_of_lt s100) hlen hlen2).mono ?_; rintro e w11 ⟨A11, c11, B11, d11, rfl, ho11, hf11, hc11, hd11, hb11'⟩; have Ho11 := Lib.hid ho11; clear ho11 hf11 hc11 hd11; have hb11 : Below w10.heap.size w10 w11 := (Below.refl _ _).drew.trans hb11'; clear hb11'; have s116 : x6 < w11.heap.size := Nat.lt_of_lt_of_le s106 hb11.size; have s110 : x0 < w11.heap.size := Nat.lt_of_lt_of_le s100 hb11.size)
      | (go_at_call 12; refine (eqState_any A6 c6 B6 d6 A11 c11 B11 d11 s s w11.heap.size w11 (by exact (O10.out.below hb11 (by omega)).more (by omega)) Ho11.out (Nat.le_refl _) (by omega) (by omega) (by omega) (by omega)).mono ?_; rintro e w12 ⟨be, hbe, rfl, hb12⟩; obtain rfl : be = true := hbe.2 rfl; clear hbe))
  have hb13 : Below w10.heap.size w10 w12 := bnext hb11 hb12
  clear CT CV hb11 hb12 Ho11 s116 s110
  obtain ⟨w13, hw13⟩ : ∃ w13, w13 = w12 := ⟨_, rfl⟩
  rw [← hw13] at hb13 ⊢
  clear hw13
  have T13 := Lib.hid (T10.out.below hb13 (by omega))
  have S13 := Lib.hid (Sl.below S10.out hb13 (by omega))
  have O13 := Lib.hid (O10.out.below hb13 (by omega))
  have W13 := Lib.hid (W10.out.below hb13 (Nat.le_refl _))
  have V13 := Lib.hid (V10.out.below hb13 (by omega))
  have Q13 := Lib.hid (Sl.below Q10.out hb13 (by omega))
  have R13 := Lib.hid (R10.out.below hb13 (fun b e => by have := (Hbl8.out b e).2; omega))
  have G13 := Lib.hid (Sl.below G10.out hb13 (by omega))
  have E13 := Lib.hid (E10.out.below hb13 (fun b e => by have := (Hbl9.out b e).2; omega))
  have b13 : Below x0 w w13 := b10.trans (hb13.mono (by omega))
  have s13 : w10.heap.size ≤ w13.heap.size := hb13.size
  clear T10 S10 O10 W10 V10 Q10 R10 G10 E10 hb13 b10 s106 s100
  generalize w10.heap.size = x10 at *
  go_wp2_with fail
  refine (toStringS_any Ak ck ks x0 w13 (HKS.out _ b13) (by omega) hkn).mono ?_
  rintro e w14 ⟨A14, c14, rfl, hq14, _, _, _, hb14⟩
  have Y14 := Lib.hid hq14; clear hq14
  have T14 := Lib.hid (T13.out.below hb14 (by omega))
  have S14 := Lib.hid (Sl.below S13.out hb14 (by omega))
  have O14 := Lib.hid (O13.out.below hb14 (by omega))
  have W14 := Lib.hid (W13.out.below hb14 (Nat.le_refl _))
  have V14 := Lib.hid (V13.out.below hb14 (by omega))
  have Q14 := Lib.hid (Sl.below Q13.out hb14 (by omega))
  have R14 := Lib.hid (R13.out.below hb14 (fun b e => by have := (Hbl8.out b e).2; omega))
  have G14 := Lib.hid (Sl.below G13.out hb14 (by omega))
  have E14 := Lib.hid (E13.out.below hb14 (fun b e => by have := (Hbl9.out b e).2; omega))
  have b14 : Below x0 w w14 := b13.trans (hb14.mono (by omega))
  have s14 : w13.heap.size ≤ w14.heap.size := hb14.size
  clear T13 S13 O13 W13 V13 Q13 R13 G13 E13 hb14 b13
  generalize w13.heap.size = x13 at *
  go_wp2_with fail
  refine (eqStringS_any A8 A14 c8 c14 ks ks w14.heap.size w14 (Sl.more Q14.out (by omega)) (Sl.more Y14.out (by omega)) (Nat.le_refl _) (by omega) (by omega)).mono ?_
  rintro e w15 ⟨be, hbe, rfl, hb15⟩
  obtain rfl : be = true := hbe.2 rfl; clear hbe
  have T15 := Lib.hid (T14.out.below hb15 (by omega))
  have S15 := Lib.hid (Sl.below S14.out hb15 (by omega))
  have O15 := Lib.hid (O14.out.below hb15 (by omega))
  have W15 := Lib.hid (W14.out.below hb15 (Nat.le_refl _))
  have V15 := Lib.hid (V14.out.below hb15 (by omega))
  have Q15 := Lib.hid (Sl.below Q14.out hb15 (by omega))
  have R15 := Lib.hid (R14.out.below hb15 (fun b e => by have := (Hbl8.out b e).2; omega))
  have G15 := Lib.hid (Sl.below G14.out hb15 (by omega))
  have E15 := Lib.hid (E14.out.below hb15 (fun b e => by have := (Hbl9.out b e).2; omega))
  have Y15 := Lib.hid (Sl.below Y14.out hb15 (by omega))
  have b15 : Below x0 w w15 := b14.trans (hb15.mono (by omega))
  have s15 : w14.heap.size ≤ w15.heap.size := hb15.size
  clear T14 S14 O14 W14 V14 Q14 R14 G14 E14 Y14 hb15 b14
  generalize w14.heap.size = x14 at *
  clear Y15
  obtain ⟨v0, v1, v2', v3, v4, v5, v6, v7, v8, v9⟩ := V15.out.ten
  go_wp2_with fail
  refine (markState_any A6 c6 B6 d6 s 1 w15 (O15.out.more (by omega)) x5 W15.out hlen hlen2 (by omega) (by omega)).mono ?_
  rintro e w16 ⟨rfl, _, _, w16', hg16, hg16'⟩
  have hb16a : Below x5 w15 w16' := below_of_grown hg16 (by omega) (fun g e => (Hbl6.out g e).1)
  have z16 : w15.heap.size ≤ w16'.heap.size := hg16.size
  have hb16 : Below x5 w15 w16 := hb16a.trans (below_of_grown hg16' (by omega) (fun g e => (Hbm6.out g e).1))
  have T16 := Lib.hid (T15.out.below hb16 (by omega))
  have S16 := Lib.hid (Sl.below S15.out hb16 (by omega))
  have b16 : Below x0 w w16 := b15.trans (hb16.mono (by omega))
  have s16 : w15.heap.size ≤ w16.heap.size := hb16.size
  have neQ0 : blk A8 = none ∨ blk A8 ≠ blk A6 := by
    cases hq : blk A8 with
    | none => exact .inl rfl
    | some b6 => exact .inr (fun e => by have h1 := Hbl8.out b6 hq; have h2 := Hbl6.out b6 e.symm; omega)
  have Q16' := Lib.hid (Sl.grown Q15.out hg16 (by omega) neQ0)
  have R16' := Lib.hid (show Free w16' A8 from fun b e i => by
    have hne : some b ≠ blk A6 := fun e4 => by rcases neQ0 with h | h; (· rw [h] at e; cases e); (· exact h (e.trans e4))
    exact (World.frozen?_of_block (a := ⟨b, i, none⟩) (hg16.block b (by have := (Hbl8.out b e).2; omega) hne)).trans (R15.out b e i))
  clear neQ0
  have neQ1 : blk A8 = none ∨ blk A8 ≠ blk B6 := by
    cases hq : blk A8 with
    | none => exact .inl rfl
    | some b6 => exact .inr (fun e => by have h1 := Hbl8.out b6 hq; have h2 := Hbm6.out b6 e.symm; omega)
  have Q16 := Lib.hid (Sl.grown Q16'.out hg16' (by omega) neQ1)
  have R16 := Lib.hid (show Free w16 A8 from fun b e i => by
    have hne : some b ≠ blk B6 := fun e4 => by rcases neQ1 with h | h; (· rw [h] at e; cases e); (· exact h (e.trans e4))
    exact (World.frozen?_of_block (a := ⟨b, i, none⟩) (hg16'.block b (by have := (Hbl8.out b e).2; omega) hne)).trans (R16'.out b e i))
  clear neQ1
  have neG0 : blk A9 = none ∨ blk A9 ≠ blk A6 := by
    cases hq : blk A9 with
    | none => exact .inl rfl
    | some b6 => exact .inr (fun e => by have h1 := Hbl9.out b6 hq; have h2 := Hbl6.out b6 e.symm; omega)
  have G16' := Lib.hid (Sl.grown G15.out hg16 (by omega) neG0)
  have E16' := Lib.hid (show Free w16' A9 from fun b e i => by
    have hne : some b ≠ blk A6 := fun e4 => by rcases neG0 with h | h; (· rw [h] at e; cases e); (· exact h (e.trans e4))
    exact (World.frozen?_of_block (a := ⟨b, i, none⟩) (hg16.block b (by have := (Hbl9.out b e).2; omega) hne)).trans (E15.out b e i))
  clear neG0
  have neG1 : blk A9 = none ∨ blk A9 ≠ blk B6 := by
    cases hq : blk A9 with
    | none => exact .inl rfl
    | some b6 => exact .inr (fun e => by have h1 := Hbl9.out b6 hq; have h2 := Hbm6.out b6 e.symm; omega)
  have G16 := Lib.hid (Sl.grown G16'.out hg16' (by omega) neG1)
  have E16 := Lib.hid (show Free w16 A9 from fun b e i => by
    have hne : some b ≠ blk B6 := fun e4 => by rcases neG1 with h | h; (· rw [h] at e; cases e); (· exact h (e.trans e4))
    exact (World.frozen?_of_block (a := ⟨b, i, none⟩) (hg16'.block b (by have := (Hbl9.out b e).2; omega) hne)).trans (E16'.out b e i))
  clear neG1
  clear O15 W15 V15 T15 S15 Q15 R15 G15 E15 Q16' R16' G16' E16' hg16 hg16' hb16a hb16 z16 b15 v0 v1 v2' v3 v4 v5 v6 v7 v8 v9
  generalize w15.heap.size = x15 at *
  go_wp2_with fail
  refine (markStringS_any A8 c8 (1 + 4 * (s.ents.length : Int) + 2 * (s.tmbs.length : Int)) ks x15 w16 (Sl.more Q16.out (by omega)) R16.out (by omega) (by omega) (by omega) (by omega)).mono ?_
  rintro e w17 ⟨rfl, _, hg17, _⟩
  have hb17 : Below x7 w16 w17 := below_of_grown hg17 (by omega) (fun g e => (Hbl8.out g e).1)
  have T17 := Lib.hid (T16.out.below hb17 (by omega))
  have S17 := Lib.hid (Sl.below S16.out hb17 (by omega))
  have b17 : Below x0 w w17 := b16.trans (hb17.mono (by omega))
  have s17 : w16.heap.size ≤ w17.heap.size := hb17.size
  have neG0 : blk A9 = none ∨ blk A9 ≠ blk A8 := by
    cases hq : blk A9 with
    | none => exact .inl rfl
    | some b6 => exact .inr (fun e => by have h1 := Hbl9.out b6 hq; have h2 := Hbl8.out b6 e.symm; omega)
  have G17 := Lib.hid (Sl.grown G16.out hg17 (by omega) neG0)
  have E17 := Lib.hid (show Free w17 A9 from fun b e i => by
    have hne : some b ≠ blk A8 := fun e4 => by rcases neG0 with h | h; (· rw [h] at e; cases e); (· exact h (e.trans e4))
    exact (World.frozen?_of_block (a := ⟨b, i, none⟩) (hg17.block b (by have := (Hbl9.out b e).2; omega) hne)).trans (E16.out b e i))
  clear neG0
  clear T16 S16 Q16 R16 G16 E16 hg17 hb17 b16
  generalize w16.heap.size = x16 at *
  have dk : decide (1 + 4 * (s.ents.length : Int) + 2 * (s.tmbs.length : Int) + (ks.length : Int) < 0) = false := by simp; omega
  go_wp2_with fail
  refine (eqStringS_any A9 A5 c9 c5 L' L' w17.heap.size w17 (Sl.more G17.out (by omega)) (Sl.more S17.out (by omega)) (Nat.le_refl _) (by omega) (by omega)).mono ?_
  rintro e w18 ⟨be, hbe, rfl, hb18⟩
  obtain rfl : be = true := hbe.2 rfl; clear hbe
  have T18 := Lib.hid (T17.out.below hb18 (by omega))
  have S18 := Lib.hid (Sl.below S17.out hb18 (by omega))
  have G18 := Lib.hid (Sl.below G17.out hb18 (by omega))
  have E18 := Lib.hid (E17.out.below hb18 (fun b e => by have := (Hbl9.out b e).2; omega))
  have b18 : Below x0 w w18 := b17.trans (hb18.mono (by omega))
  have s18 : w17.heap.size ≤ w18.heap.size := hb18.size
  clear T17 S17 G17 E17 hb18 b17 dk
  generalize w17.heap.size = x17 at *
  go_wp2_with fail
  refine (markStringS_any A9 c9 1 L' x17 w18 (Sl.more G18.out (by omega)) E18.out (by omega) (by omega) (by omega) (by omega)).mono ?_
  rintro e w19 ⟨rfl, hs19, hg19, _⟩
  have G19 := Lib.hid hs19; clear hs19
  have hb19 : Below x8 w18 w19 := below_of_grown hg19 (by omega) (fun g e => (Hbl9.out g e).1)
  have T19 := Lib.hid (T18.out.below hb19 (by omega))
  have S19 := Lib.hid (Sl.below S18.out hb19 (by omega))
  have b19 : Below x0 w w19 := b18.trans (hb19.mono (by omega))
  have s19 : w18.heap.size ≤ w19.heap.size := hb19.size
  clear T18 S18 G18 E18 hg19 hb19 b18
  generalize w18.heap.size = x18 at *
  have dq : decide (1 + (L'.length : Int) < 0) = false := by simp; omega
  go_wp2_with fail
  refine (heldStringS_any A9 c9 L'.length 1 x17 w19 G19.out (by omega) (by omega) (by omega) (by omega)).mono ?_
  rintro e w20 ⟨rfl, hb20⟩
  have T20 := Lib.hid (T19.out.below hb20 (by omega))
  have S20 := Lib.hid (Sl.below S19.out hb20 (by omega))
  have G20 := Lib.hid (Sl.below G19.out hb20 (by omega))
  have b20 : Below x0 w w20 := b19.trans (hb20.mono (by omega))
  have s20 : w19.heap.size ≤ w20.heap.size := hb20.size
  clear T19 S19 G19 hb20 b19
  generalize w19.heap.size = x19 at *
  obtain ⟨t0, t1, t2, t3, t4, t5, t6, t7, t8, t9⟩ := T20.out.ten
  go_wp2_with fail
  refine (toState_any A c A2 c2 s x0 w20 (HS.out _ b20) (by omega) hlen hlen2).mono ?_
  rintro e w21 ⟨A21, c21, B21, d21, rfl, ho21, _, _, _, hb21⟩
  have O21 := Lib.hid ho21; clear ho21
  have T21 := Lib.hid (T20.out.below hb21 (by omega))
  have S21 := Lib.hid (Sl.below S20.out hb21 (by omega))
  have G21 := Lib.hid (Sl.below G20.out hb21 (by omega))
  have b21 : Below x0 w w21 := b20.trans (hb21.mono (by omega))
  have s21 : w20.heap.size ≤ w21.heap.size := hb21.size
  clear T20 S20 G20 hb21 b20 t0 t1 t2 t3 t4 t5 t6 t7 t8 t9
  generalize w20.heap.size = x20 at *
  go_wp2_with fail
  refine (toStringS_any Ak ck ks x0 w21 (HKS.out _ b21) (by omega) hkn).mono ?_
  rintro e w22 ⟨A22, c22, rfl, hq22, _, _, _, hb22⟩
  have Q22 := Lib.hid hq22; clear hq22
  have T22 := Lib.hid (T21.out.below hb22 (by omega))
  have S22 := Lib.hid (Sl.below S21.out hb22 (by omega))
  have G22 := Lib.hid (Sl.below G21.out hb22 (by omega))
  have O22 := Lib.hid (O21.out.below hb22 (by omega))
  have b22 : Below x0 w w22 := b21.trans (hb22.mono (by omega))
  have s22 : w21.heap.size ≤ w22.heap.size := hb22.size
  clear T21 S21 G21 O21 hb22 b21
  generalize w21.heap.size = x21 at *
  go_wp2_with fail
  refine (orphansOf_any A21 c21 B21 d21 s A22 c22 ks w22.heap.size w22 (O22.out.more (by omega)) (Sl.more Q22.out (by omega)) (Nat.le_refl _) HFE.out HFT.out hlen hlen2 hkn HKF.out (HP.out _ b22).1 (HP.out _ b22).2).mono ?_
  rintro e w23 ⟨A23, c23, L2, z2, hv23, rfl, hy23, _, _, _, hb23⟩
  obtain ⟨rfl, rfl⟩ := Hv5.out.one hv23; clear hv23
  have Y23 := Lib.hid hy23; clear hy23
  have T23 := Lib.hid (T22.out.below hb23 (by omega))
  have S23 := Lib.hid (Sl.below S22.out hb23 (by omega))
  have G23 := Lib.hid (Sl.below G22.out hb23 (by omega))
  have O23 := Lib.hid (O22.out.below hb23 (by omega))
  have Q23 := Lib.hid (Sl.below Q22.out hb23 (by omega))
  have b23 : Below x0 w w23 := b22.trans (hb23.mono (by omega))
  have s23 : w22.heap.size ≤ w23.heap.size := hb23.size
  clear T22 S22 G22 O22 Q22 hb23 b22
  generalize w22.heap.size = x22 at *
  go_wp2_with fail
  refine (eqStringS_any A23 A5 c23 c5 L2 L2 w23.heap.size w23 (Sl.more Y23.out (by omega)) (Sl.more S23.out (by omega)) (Nat.le_refl _) (by omega) (by omega)).mono ?_
  rintro e w24 ⟨be, hbe, rfl, hb24⟩
  obtain rfl : be = true := hbe.2 rfl; clear hbe
  have T24 := Lib.hid (T23.out.below hb24 (by omega))
  have S24 := Lib.hid (Sl.below S23.out hb24 (by omega))
  have G24 := Lib.hid (Sl.below G23.out hb24 (by omega))
  have O24 := Lib.hid (O23.out.below hb24 (by omega))
  have Q24 := Lib.hid (Sl.below Q23.out hb24 (by omega))
  have Y24 := Lib.hid (Sl.below Y23.out hb24 (by omega))
  have b24 : Below x0 w w24 := b23.trans (hb24.mono (by omega))
  have s24 : w23.heap.size ≤ w24.heap.size := hb24.size
  clear T23 S23 G23 O23 Q23 Y23 hb24 b23
  generalize w23.heap.size = x23 at *
  go_wp2_with fail
  refine (heldStringS_any A9 c9 L2.length 1 x17 w24 G24.out (by omega) (by omega) (by omega) (by omega)).mono ?_
  rintro e w25 ⟨rfl, hb25⟩
  have T25 := Lib.hid (T24.out.below hb25 (by omega))
  have S25 := Lib.hid (Sl.below S24.out hb25 (by omega))
  have G25 := Lib.hid (Sl.below G24.out hb25 (by omega))
  have O25 := Lib.hid (O24.out.below hb25 (by omega))
  have Q25 := Lib.hid (Sl.below Q24.out hb25 (by omega))
  have Y25 := Lib.hid (Sl.below Y24.out hb25 (by omega))
  have b25 : Below x0 w w25 := b24.trans (hb25.mono (by omega))
  have s25 : w24.heap.size ≤ w25.heap.size := hb25.size
  clear T24 S24 G24 O24 Q24 Y24 hb25 b24
  generalize w24.heap.size = x24 at *
  go_wp2
  go_ret
  exact ⟨rfl, by rw [Hx0.out]; exact b25⟩

set_option maxRecDepth 100000 in
theorem contract (H : Type) (enc : TypeId × Value → H) (W : World) (base : Nat) (args : Array Value) (ds gs : List (DataW H)) (before : List MemPlace)
    (hval0 : ∀ (j : Nat) t v, Tryd.f6.params[j]? = some t → args[j]? = some v → Value.okWide Tryd.prog W .any base t v)
    (hW : DataW.Whole enc Tryd.prog Tryd.f6.params.toList Rows.fnExactOrphansOfSpec.vars false W args.toList ds gs before) (hL : laidMetH Tryd.prog Rows.fnExactOrphansOfRow.laid W) :
    Calls Tryd.prog 6 args W fun e W' => ∃ v, e = .returned v ∧ Rows.fnExactOrphansOfSpec.post enc Tryd.prog Tryd.f6 false true false false W args v W' := by
  obtain ⟨hQ, hz⟩ := paths_in hL List.mem_cons_self
  have hval : ∀ (j : Nat) t v, Tryd.f6.params[j]? = some t → args[j]? = some v → Value.okWide Tryd.prog W .any base t v := hval0
  have hW' := hW
  have hlt : ∀ p ∈ before, p.block < W.heap.size := fun p hp => hW.lt p hp
  obtain ⟨p, q, hA0, hV, rfl, hfz, hnd⟩ := hW
  have hA : DataW.TrodAll enc Tryd.prog W 0 (fun _ => true) true Tryd.f6.params.toList args.toList ds p := hA0
  rw [Tryd.params6] at hA hval
  obtain ⟨v0, vs0, d0, ds0, p0, q0, hargs, rfl, rfl, h0, r0⟩ := trodAll_cons hA
  obtain ⟨v1, vs1, d1, ds1, p1, q1, rfl, rfl, rfl, h1, r1⟩ := trodAll_cons r0
  obtain ⟨rfl, rfl, rfl⟩ := trodAll_nil r1
  obtain rfl : args = #[v0, v1] := by cases args; simp_all
  have hV1 : DataW.TrodVars enc Tryd.prog W (fun _ => true) ["loop.example/g00601/impl.tierPaths"] gs q := hV
  obtain ⟨dg, rfl⟩ : ∃ d, gs = [d] := by obtain ⟨_, _, _, _, d, _, h, _⟩ := trodVars_one hV1; exact ⟨d, h⟩
  have k0 := h0
  have lt0 : ∀ x ∈ p0, x.block < W.heap.size := by obtain ⟨m, hm⟩ := k0; exact DataW.trod_lt m _ _ _ hm
  obtain ⟨A0, c0, B0, e0, st0, rfl, ob0, ft0⟩ := open_lst (hval 0 26 v0 rfl rfl) h0
  have k1 := h1
  have lt1 : ∀ x ∈ p1, x.block < W.heap.size := by obtain ⟨m, hm⟩ := k1; exact DataW.trod_lt m _ _ _ hm
  obtain ⟨A1, c1, xs1, rfl, ob1, ft1, ln1⟩ := open_txts (hval 1 49 v1 rfl rfl) h1
  clear hA0 hval0
  refine (walk A0 c0 B0 e0 st0 A1 c1 xs1 W ob0 ft0 ob1 ft1 ln1 hQ hz).mono fun e W' ⟨he, bel⟩ => ?_
  subst he
  exact ⟨_, rfl, _, _, _, [], _, _, hW', trodAll_mk1 (shut_bool Tryd.underlying4 _), (trodAll_cons_mk (Below.trod laidOut (by kernel_rfl) (of_decide_eq_true (by kernel_rfl)) k0 bel lt0) (trodAll_cons_mk (Below.trod laidOut (by kernel_rfl) (of_decide_eq_true (by kernel_rfl)) k1 bel lt1) trodAll_mk0)), vars_backs bel ["loop.example/g00601/impl.tierPaths"] _ _ (by
    intro n hn
    simp only [List.mem_cons, List.not_mem_nil, or_false] at hn
    subst hn
    · exact ⟨_, _, gTab, gTabType, Or.inl rfl, hz⟩) hV1 (fun x hx => hlt x (List.mem_append_right _ hx)), bel.frame _, fun h => by cases h⟩

theorem laid_met (os : Os) : laidMet Tryd.prog Rows.fnExactOrphansOfRow.laid ((laidWorldP os).forCall (fun _ _ => 0) ⟨#[], #[.agg #[.int .i64 0, .int .i64 0, .slice none 0 0, .slice none 0 0, .int .i64 0, .int .i64 0, .int .i64 0, .int .i64 0, .int .i64 0, .int .i64 0], .slice none 0 0], []⟩).memory :=
  laidMet_of_run' 8 (by kernel_rfl) (by kernel_rfl)

theorem reads (os : Os) {H : Type} (enc : TypeId × Value → H) : ∃ places, DataW.whole enc Tryd.prog ((laidWorldP os).forCall (fun _ _ => 0) ⟨#[], #[.agg #[.int .i64 0, .int .i64 0, .slice none 0 0, .slice none 0 0, .int .i64 0, .int .i64 0, .int .i64 0, .int .i64 0, .int .i64 0, .int .i64 0], .slice none 0 0], []⟩).memory Tryd.f6.params.toList Rows.fnExactOrphansOfSpec.vars false (#[.agg #[.int .i64 0, .int .i64 0, .slice none 0 0, .slice none 0 0, .int .i64 0, .int .i64 0, .int .i64 0, .int .i64 0, .int .i64 0, .int .i64 0], .slice none 0 0] : Array Value).toList 8 = some ([.agg [.lit (.int .i64 0), .lit (.int .i64 0), .nil, .nil, .agg [.lit (.int .i64 0), .lit (.int .i64 0), .lit (.int .i64 0)], .agg [.lit (.int .i64 0), .lit (.int .i64 0), .lit (.int .i64 0)]], .nil], [.agg (pl.map fun z => .lit (.string z))], places) :=
  ⟨MemPlace.row ⟨2, 0, none⟩ 3, by kernel_rfl⟩

set_option maxRecDepth 100000 in
theorem lifted (os : Os) (started : os.Started) (H : Type) (enc : TypeId × Value → H) (F : Stop.Interp) :
    ReturnsInHanded {} Tryd.checked os 6 .any ((OpenSpec.ofChange Rows.fnExactOrphansOfSpec).preRow enc Tryd.prog Tryd.f6 Rows.fnExactOrphansOfRow.domain false Rows.fnExactOrphansOfRow.laid) (((OpenSpec.ofChange Rows.fnExactOrphansOfSpec).at F).post enc Tryd.prog Tryd.f6 false true false false) := by
  obtain ⟨places, hx⟩ := reads os enc
  refine returnsInHanded_of_row (C := Tryd.checked) (s := OpenSpec.ofChange Rows.fnExactOrphansOfSpec) own started (by kernel_rfl) Tryd.func6
    (witness_row_at (enc := enc) (C := Tryd.checked) false (laidWorldP os) #[.agg #[.int .i64 0, .int .i64 0, .slice none 0 0, .slice none 0 0, .int .i64 0, .int .i64 0, .int .i64 0, .int .i64 0, .int .i64 0, .int .i64 0], .slice none 0 0] rfl (by kernel_rfl) (by kernel_rfl) (by kernel_rfl)
      (OpenSpec.preRow_of_cond 8 hx (by kernel_rfl) (fun k hk => by cases hk) (by kernel_rfl) (laid_met os))) ?_
  intro W base args ds gs before hval hW _ _ _ hL _ _
  exact contract H enc W base args ds gs before hval hW hL

theorem said : Rows.FnExactOrphansOfSaid :=
  OpenClaim.holds_of_cond 6 Tryd.f6 rfl rfl rfl rfl rfl rfl rfl ⟨rfl, rfl, rfl, rfl, rfl⟩ rfl rfl rfl rfl rfl (by kernel_rfl) Tryd.func6 (by kernel_rfl)
    (of_decide_eq_true (by kernel_rfl)) (by unfold Func.isWrapper; first | (rw [if_pos (by decide +kernel)]; kernel_rfl) | (rw [if_neg (by decide +kernel)]; exact ⟨rfl, rfl⟩))
    (fun os started H enc _ F => by rw [OpenClaim.pre_eq_preRow]; exact lifted os started H enc F)

theorem plain (f : FuncId) (fn : Func) (hf : Tryd.pinned.checked.prog.funcNamed "loop.example/g00601/laws.FnExactOrphansOf" = some f) (hfn : Tryd.pinned.checked.prog.funcs[f]? = some fn) :
    false = Tryd.pinned.checked.prog.looks [] ∧ ∀ (j : Nat) t, fn.params[j]? = some t → Tryd.pinned.checked.prog.wantsStandIn t = false := by
  obtain rfl : f = 6 := Option.some.inj ((show Tryd.prog.funcNamed "loop.example/g00601/laws.FnExactOrphansOf" = some 6 by kernel_rfl).symm.trans hf) |>.symm
  obtain rfl : fn = Tryd.f6 := (Option.some.inj (Tryd.func6.symm.trans hfn)).symm
  refine ⟨by kernel_rfl, fun j t ht => ?_⟩
  rw [Tryd.params6] at ht
  have hm := Array.mem_of_getElem? ht
  simp at hm
  rcases hm with rfl | rfl
  · exact (show Tryd.prog.wantsStandIn 26 = false by kernel_rfl)
  · exact (show Tryd.prog.wantsStandIn 49 = false by kernel_rfl)

theorem proved : Rows.FnExactOrphansOfCardSaid :=
  Claim7.holds_tied_plain_at .later [] _ _ _ _ said (fun _ h => by cases h) (by kernel_rfl) (fun _ h => by cases h) fnExactOrphansOf_row_tie rfl ⟨rfl, rfl⟩ (by kernel_rfl) rfl plain (by kernel_rfl)
#print axioms proved
end Go.Proofs.YthmpmagajbmpaaaDoor.fnExactOrphansOf
