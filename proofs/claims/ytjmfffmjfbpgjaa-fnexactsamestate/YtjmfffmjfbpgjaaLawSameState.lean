/-
  'laws.FnExactSameState' answers true at every two states: SameState answers as its model does, and writes into no argument. Conditions: none.
-/
import Derived.Test.YtjmfffmjfbpgjaaSameS
import Derived.Test.YtjmfffmjfbpgjaaOpenStt
import Derived.Deep.RegionHeld3
import Derived.Deep.RegionWith
namespace Go.Proofs.Ytjmfffmjfbpgjaa.fnExactSameState
open Go.ChangeShapes Go.WideShapes Go.ChangeAt Go.RowKit
set_option linter.unusedVariables false

set_option maxRecDepth 100000 in
set_option maxHeartbeats 4000000 in
theorem walk (A : Option Addr) (c : Nat) (A2 : Option Addr) (c2 : Nat) (s : GSt) (A' : Option Addr) (c' : Nat) (A2' : Option Addr) (c2' : Nat) (t : GSt) (w : World) (h : StAt w w.heap.size A A2 s) (hf : s.fit) (h' : StAt w w.heap.size A' A2' t) (hf' : t.fit) :
    Calls Try.prog 3 #[.agg #[.int .i64 s.sq, .int .i64 s.fe, .slice A s.ents.length c, .slice A2 s.tmbs.length c2, .int .i64 s.lo.a, .int .i64 s.lo.b, .int .i64 s.lo.c, .int .i64 s.hi.a, .int .i64 s.hi.b, .int .i64 s.hi.c], .agg #[.int .i64 t.sq, .int .i64 t.fe, .slice A' t.ents.length c', .slice A2' t.tmbs.length c2', .int .i64 t.lo.a, .int .i64 t.lo.b, .int .i64 t.lo.c, .int .i64 t.hi.a, .int .i64 t.hi.b, .int .i64 t.hi.c]] w fun e w' => e = .returned (.bool true) ∧ Below w.heap.size w w' := by
  have H := Lib.hid h; clear h
  have Hf := Lib.hid hf; clear hf
  have H' := Lib.hid h'; clear h'
  have Hf' := Lib.hid hf'; clear hf'
  go_enter Try.func3, Try.ntmps3
  go_wp2_with fail
  obtain ⟨W, hW⟩ : ∃ W, W = (w.alloc (.cells #[.int .i64 s.sq, .int .i64 s.fe, .slice A s.ents.length c, .slice A2 s.tmbs.length c2, .int .i64 s.lo.a, .int .i64 s.lo.b, .int .i64 s.lo.c, .int .i64 s.hi.a, .int .i64 s.hi.b, .int .i64 s.hi.c] 26)).alloc (.cells #[.int .i64 t.sq, .int .i64 t.fe, .slice A' t.ents.length c', .slice A2' t.tmbs.length c2', .int .i64 t.lo.a, .int .i64 t.lo.b, .int .i64 t.lo.c, .int .i64 t.hi.a, .int .i64 t.hi.b, .int .i64 t.hi.c] 26) := ⟨_, rfl⟩
  have t1 : Cells W w.heap.size 0 [.int .i64 s.sq, .int .i64 s.fe, .slice A s.ents.length c, .slice A2 s.tmbs.length c2, .int .i64 s.lo.a, .int .i64 s.lo.b, .int .i64 s.lo.c, .int .i64 s.hi.a, .int .i64 s.hi.b, .int .i64 s.hi.c] := by rw [hW]; exact (Cells.new w _ _).below (bal (Below.refl _ _) _) (by simp)
  have t2 : Cells W (w.heap.size + 1) 0 [.int .i64 t.sq, .int .i64 t.fe, .slice A' t.ents.length c', .slice A2' t.tmbs.length c2', .int .i64 t.lo.a, .int .i64 t.lo.b, .int .i64 t.lo.c, .int .i64 t.hi.a, .int .i64 t.hi.b, .int .i64 t.hi.c] := by
    rw [hW]; have := Cells.new (w.alloc (.cells #[.int .i64 s.sq, .int .i64 s.fe, .slice A s.ents.length c, .slice A2 s.tmbs.length c2, .int .i64 s.lo.a, .int .i64 s.lo.b, .int .i64 s.lo.c, .int .i64 s.hi.a, .int .i64 s.hi.b, .int .i64 s.hi.c] 26)) [.int .i64 t.sq, .int .i64 t.fe, .slice A' t.ents.length c', .slice A2' t.tmbs.length c2', .int .i64 t.lo.a, .int .i64 t.lo.b, .int .i64 t.lo.c, .int .i64 t.hi.a, .int .i64 t.hi.b, .int .i64 t.hi.c] 26; simpa using this
  have b0 : Below w.heap.size w W := by rw [hW]; exact bal (bal (Below.refl _ _) _) _
  have s0 : w.heap.size + 1 < W.heap.size := by rw [hW]; simp
  rw [← hW]
  clear hW
  have T0 := Lib.hid t1; clear t1
  have U0 := Lib.hid t2; clear t2
  generalize hx0 : w.heap.size = x0 at *
  have Hx0 := Lib.hid hx0; clear hx0
  refine (szState_any A c A2 c2 s 1048576 x0 W (H.out.below b0 (Nat.le_refl _)) (by omega) Hf.out.2.2.2.2.1 Hf.out.2.2.2.2.2.1 Hf.out.2.2.2.2.2.2.1 Hf.out.2.2.2.2.2.2.2 (by omega) (by omega)).mono ?_
  rintro e w1 ⟨v, hv, hv1, hv2, rfl, hb1⟩
  have Hv := Lib.hid hv; clear hv
  have b1 : Below x0 w w1 := b0.trans (hb1.mono (by omega))
  by_cases hneg : v < 0
  · have d : decide (v < 0) = true := by simpa using hneg
    go_wp2
    go_ret
    exact ⟨rfl, by rw [Hx0.out]; exact b1⟩
  have d : decide (v < 0) = false := by simpa using hneg
  have hlen : s.ents.length ≤ 1048576 := (Hv.out (by omega)).1.1.1
  have hlen2 : s.tmbs.length ≤ 1048576 := (Hv.out (by omega)).1.2.1
  have T1 := Lib.hid (T0.out.below hb1 (by omega))
  have U1 := Lib.hid (U0.out.below hb1 s0)
  have s1 : x0 + 1 < w1.heap.size := by have := hb1.size; omega
  obtain ⟨u0, u1, u2, u3, u4, u5, u6, u7, u8, u9⟩ := U1.out.ten
  clear Hv T0 U0 hb1 b0 s0
  go_wp2_with fail
  refine (szState_any A' c' A2' c2' t v x0 w1 (H'.out.below b1 (Nat.le_refl _)) (by omega) Hf'.out.2.2.2.2.1 Hf'.out.2.2.2.2.2.1 Hf'.out.2.2.2.2.2.2.1 Hf'.out.2.2.2.2.2.2.2 (by omega) (by omega)).mono ?_
  rintro e w2 ⟨v2, hv, hv21, hv22, rfl, hb2⟩
  have Hv := Lib.hid hv; clear hv u0 u1 u2 u3 u4 u5 u6 u7 u8 u9
  have b2 : Below x0 w w2 := b1.trans (hb2.mono (by omega))
  by_cases hneg2 : v2 < 0
  · have d2 : decide (v2 < 0) = true := by simpa using hneg2
    go_wp2
    go_ret
    exact ⟨rfl, by rw [Hx0.out]; exact b2⟩
  have d2 : decide (v2 < 0) = false := by simpa using hneg2
  have klen : t.ents.length ≤ 1048576 := (Hv.out (by omega)).1.1.1
  have klen2 : t.tmbs.length ≤ 1048576 := (Hv.out (by omega)).1.2.1
  have T2 := Lib.hid (T1.out.below hb2 (by omega))
  have U2 := Lib.hid (U1.out.below hb2 s1)
  have s2 : x0 + 1 < w2.heap.size := by have := hb2.size; omega
  have s20 : x0 < w2.heap.size := by omega
  have CT2 := T2.out.ten
  have CU2 := U2.out.ten
  clear Hv T1 U1 hb2 b1
  go_wp2_with fail
  go_region_held3 (fun w' => (w'.cell? ⟨x0, 0, none⟩ = some (.int .i64 s.sq) ∧ w'.cell? ⟨x0, 1, none⟩ = some (.int .i64 s.fe) ∧ w'.cell? ⟨x0, 2, none⟩ = some (.slice A s.ents.length c) ∧ w'.cell? ⟨x0, 3, none⟩ = some (.slice A2 s.tmbs.length c2) ∧ w'.cell? ⟨x0, 4, none⟩ = some (.int .i64 s.lo.a) ∧ w'.cell? ⟨x0, 5, none⟩ = some (.int .i64 s.lo.b) ∧ w'.cell? ⟨x0, 6, none⟩ = some (.int .i64 s.lo.c) ∧ w'.cell? ⟨x0, 7, none⟩ = some (.int .i64 s.hi.a) ∧ w'.cell? ⟨x0, 8, none⟩ = some (.int .i64 s.hi.b) ∧ w'.cell? ⟨x0, 9, none⟩ = some (.int .i64 s.hi.c)) ∧ w'.cell? ⟨x0 + 1, 0, none⟩ = some (.int .i64 t.sq) ∧ w'.cell? ⟨x0 + 1, 1, none⟩ = some (.int .i64 t.fe) ∧ w'.cell? ⟨x0 + 1, 2, none⟩ = some (.slice A' t.ents.length c') ∧ w'.cell? ⟨x0 + 1, 3, none⟩ = some (.slice A2' t.tmbs.length c2') ∧ w'.cell? ⟨x0 + 1, 4, none⟩ = some (.int .i64 t.lo.a) ∧ w'.cell? ⟨x0 + 1, 5, none⟩ = some (.int .i64 t.lo.b) ∧ w'.cell? ⟨x0 + 1, 6, none⟩ = some (.int .i64 t.lo.c) ∧ w'.cell? ⟨x0 + 1, 7, none⟩ = some (.int .i64 t.hi.a) ∧ w'.cell? ⟨x0 + 1, 8, none⟩ = some (.int .i64 t.hi.b) ∧ w'.cell? ⟨x0 + 1, 9, none⟩ = some (.int .i64 t.hi.c))
    (first | exact ⟨CT2, CU2⟩ | exact ⟨(T2.out.below hb3 s20).ten, (U2.out.below hb3 s2).ten⟩ | exact ⟨((T2.out.below hb3 s20).below hb4 s30).ten, ((U2.out.below hb3 s2).below hb4 s3).ten⟩ | exact ⟨(((T2.out.below hb3 s20).below hb4 s30).below hb5 s40).ten, (((U2.out.below hb3 s2).below hb4 s3).below hb5 s4).ten⟩ | (go_keep; done))
    (first
      | (go_at_call_of 6 (Value.slice A s.ents.length c); refine (toState_any A c A2 c2 s x0 w2.drew (by exact H.out.below b2.drew (Nat.le_refl _)) (by exact Nat.le_of_lt s20) hlen hlen2).mono ?_; rintro e w3 ⟨A3, c3, B3, d3, rfl, ho3, hf3, hc3, hd3, hb3'⟩; have Ho3 := Lib.hid ho3; clear ho3 hf3 hc3 hd3; have hb3 : Below w2.heap.size w2 w3 := (Below.refl _ _).drew.trans hb3'; clear hb3'; have s3 : x0 + 1 < w3.heap.size := Nat.lt_of_lt_of_le s2 hb3.size; have s30 : x0 < w3.heap.size := Nat.lt_of_lt_of_le s20 hb3.size; have b3 : Below x0 w w3 := b2.trans (hb3.mono (Nat.le_of_lt s20)))
      | (go_at_call_of 6 (Value.slice A' t.ents.length c'); refine (toState_any A' c' A2' c2' t x0 w3 (by exact H'.out.below b3 (Nat.le_refl _)) (by exact Nat.le_of_lt s30) klen klen2).mono ?_; rintro e w4 ⟨A4, c4, B4, d4, rfl, ho4, hf4, hc4, hd4, hb4⟩; have Ho4 := Lib.hid ho4; clear ho4 hf4 hc4 hd4; have s4 : x0 + 1 < w4.heap.size := Nat.lt_of_lt_of_le s3 hb4.size; have s40 : x0 < w4.heap.size := Nat.lt_of_lt_of_le s30 hb4.size; have b4 : Below x0 w w4 := b3.trans (hb4.mono (Nat.le_of_lt s30)))
      | (go_at_call 5; refine (specSameState_any A3 c3 B3 d3 A4 c4 B4 d4 s t w4.heap.size w4 (by exact (Ho3.out.below hb4 (Nat.le_refl _)).more hb4.size) Ho4.out (Nat.le_refl _) (by omega) (by omega) (by omega) (by omega)).mono ?_; rintro e w5 ⟨bs, hbs, rfl, hb5⟩; have Hbs := Lib.hid hbs; clear hbs; have b5 : Below x0 w w5 := b4.trans (hb5.mono (Nat.le_of_lt s40))))
  have T5 := Lib.hid (((T2.out.below hb3 s20).below hb4 s30).below hb5 s40)
  have U5 := Lib.hid (((U2.out.below hb3 s2).below hb4 s3).below hb5 s4)
  have s5 : x0 + 1 < w5.heap.size := Nat.lt_of_lt_of_le s4 hb5.size
  clear T2 U2 CT2 CU2 hb3 hb4 hb5 b3 b4 b2 Ho3 Ho4
  obtain ⟨t0, t1, t2, t3, t4, t5, t6, t7, t8, t9⟩ := T5.out.ten
  go_wp2_with fail
  refine (toState_any A c A2 c2 s x0 w5 (H.out.below b5 (Nat.le_refl _)) (by omega) hlen hlen2).mono ?_
  rintro e w6 ⟨A6, c6, B6, d6, rfl, ho6, hf6, hc6, hd6, hb6⟩
  have Ho6 := Lib.hid ho6; clear ho6 hf6 hc6 hd6 t0 t1 t2 t3 t4 t5 t6 t7 t8 t9
  have b6 : Below x0 w w6 := b5.trans (hb6.mono (by omega))
  have T6 := Lib.hid (T5.out.below hb6 (by omega))
  have U6 := Lib.hid (U5.out.below hb6 s5)
  have s6 : x0 + 1 < w6.heap.size := Nat.lt_of_lt_of_le s5 hb6.size
  clear T5 U5 hb6 b5
  obtain ⟨u0, u1, u2, u3, u4, u5, u6, u7, u8, u9⟩ := U6.out.ten
  go_wp2_with fail
  obtain ⟨W7, hW7⟩ : ∃ W7, W7 = w6.alloc (.cells #[.int .i64 s.sq, .int .i64 s.fe, .slice A6 s.ents.length c6, .slice B6 s.tmbs.length d6, .int .i64 s.lo.a, .int .i64 s.lo.b, .int .i64 s.lo.c, .int .i64 s.hi.a, .int .i64 s.hi.b, .int .i64 s.hi.c] 32) := ⟨_, rfl⟩
  have t7 : Cells W7 w6.heap.size 0 [.int .i64 s.sq, .int .i64 s.fe, .slice A6 s.ents.length c6, .slice B6 s.tmbs.length d6, .int .i64 s.lo.a, .int .i64 s.lo.b, .int .i64 s.lo.c, .int .i64 s.hi.a, .int .i64 s.hi.b, .int .i64 s.hi.c] := by rw [hW7]; exact Cells.new _ _ _
  have bb7 : Below w6.heap.size w6 W7 := by rw [hW7]; exact bal (Below.refl _ _) _
  have s7 : w6.heap.size < W7.heap.size := by rw [hW7]; simp
  rw [← hW7]
  clear hW7 u0 u1 u2 u3 u4 u5 u6 u7 u8 u9
  have V7 := Lib.hid t7; clear t7
  have T7 := Lib.hid (T6.out.below bb7 (by omega))
  have U7 := Lib.hid (U6.out.below bb7 s6)
  have Ho7 := Lib.hid (Ho6.out.below bb7 (Nat.le_refl _))
  have b7 : Below x0 w W7 := b6.trans (bb7.mono (by omega))
  clear T6 U6 bb7 b6 Ho6
  generalize w6.heap.size = x6 at *
  refine (toState_any A' c' A2' c2' t x0 W7 (H'.out.below b7 (Nat.le_refl _)) (by omega) klen klen2).mono ?_
  rintro e w8 ⟨A8, c8, B8, d8, rfl, ho8, hf8, hc8, hd8, hb8⟩
  have Ho8 := Lib.hid ho8; clear ho8 hf8 hc8 hd8
  have b8 : Below x0 w w8 := b7.trans (hb8.mono (by omega))
  have T8 := Lib.hid (T7.out.below hb8 (by omega))
  have U8 := Lib.hid (U7.out.below hb8 (by omega))
  have V8 := Lib.hid (V7.out.below hb8 s7)
  have Hx8 := Lib.hid (Ho7.out.below hb8 (by omega))
  have s8 : x6 < w8.heap.size := Nat.lt_of_lt_of_le s7 hb8.size
  clear T7 U7 V7 hb8 b7 Ho7
  obtain ⟨z0, z1, z2, z3, z4, z5, z6, z7, z8, z9⟩ := V8.out.ten
  go_wp2_with fail
  obtain ⟨W9, hW9⟩ : ∃ W9, W9 = w8.alloc (.cells #[.int .i64 t.sq, .int .i64 t.fe, .slice A8 t.ents.length c8, .slice B8 t.tmbs.length d8, .int .i64 t.lo.a, .int .i64 t.lo.b, .int .i64 t.lo.c, .int .i64 t.hi.a, .int .i64 t.hi.b, .int .i64 t.hi.c] 32) := ⟨_, rfl⟩
  have t9 : Cells W9 w8.heap.size 0 [.int .i64 t.sq, .int .i64 t.fe, .slice A8 t.ents.length c8, .slice B8 t.tmbs.length d8, .int .i64 t.lo.a, .int .i64 t.lo.b, .int .i64 t.lo.c, .int .i64 t.hi.a, .int .i64 t.hi.b, .int .i64 t.hi.c] := by rw [hW9]; exact Cells.new _ _ _
  have bb9 : Below w8.heap.size w8 W9 := by rw [hW9]; exact bal (Below.refl _ _) _
  have s9 : w8.heap.size < W9.heap.size := by rw [hW9]; simp
  rw [← hW9]
  clear hW9 z0 z1 z2 z3 z4 z5 z6 z7 z8 z9
  have Z9 := Lib.hid t9; clear t9
  have T9 := Lib.hid (T8.out.below bb9 (by omega))
  have U9 := Lib.hid (U8.out.below bb9 (by omega))
  have V9 := Lib.hid (V8.out.below bb9 s8)
  have Hx9 := Lib.hid (Hx8.out.below bb9 (by omega))
  have Hy9 := Lib.hid (Ho8.out.below bb9 (Nat.le_refl _))
  have b9 : Below x0 w W9 := b8.trans (bb9.mono (by omega))
  clear T8 U8 V8 bb9 b8 Hx8 Ho8
  generalize w8.heap.size = x8 at *
  refine (sameState_any A6 c6 B6 d6 A8 c8 B8 d8 s t x8 W9 (Hx9.out.more (by omega)) Hy9.out (by omega) (by omega) (by omega) (by omega) (by omega)).mono ?_
  rintro e w10 ⟨bi, hbi, rfl, hb10⟩
  obtain rfl : bi = bs := by rw [Bool.eq_iff_iff]; exact hbi.trans Hbs.out.symm
  have b10 : Below x0 w w10 := b9.trans (hb10.mono (by omega))
  have T10 := Lib.hid (T9.out.below hb10 (by omega))
  have U10 := Lib.hid (U9.out.below hb10 (by omega))
  have V10 := Lib.hid (V9.out.below hb10 (by omega))
  have Z10 := Lib.hid (Z9.out.below hb10 s9)
  have Hx10 := Lib.hid (Hx9.out.below hb10 (by omega))
  have Hy10 := Lib.hid (Hy9.out.below hb10 (by omega))
  have s10 : x8 < w10.heap.size := Nat.lt_of_lt_of_le s9 hb10.size
  have s106 : x6 < w10.heap.size := by omega
  have s100 : x0 < w10.heap.size := by omega
  clear hbi Hbs T9 U9 V9 Z9 hb10 b9 Hx9 Hy9
  have CT := T10.out.ten
  have CV := V10.out.ten
  go_wp2_with fail
  go_region_held3 (fun w' => (w'.cell? ⟨x6, 0, none⟩ = some (.int .i64 s.sq) ∧ w'.cell? ⟨x6, 1, none⟩ = some (.int .i64 s.fe) ∧ w'.cell? ⟨x6, 2, none⟩ = some (.slice A6 s.ents.length c6) ∧ w'.cell? ⟨x6, 3, none⟩ = some (.slice B6 s.tmbs.length d6) ∧ w'.cell? ⟨x6, 4, none⟩ = some (.int .i64 s.lo.a) ∧ w'.cell? ⟨x6, 5, none⟩ = some (.int .i64 s.lo.b) ∧ w'.cell? ⟨x6, 6, none⟩ = some (.int .i64 s.lo.c) ∧ w'.cell? ⟨x6, 7, none⟩ = some (.int .i64 s.hi.a) ∧ w'.cell? ⟨x6, 8, none⟩ = some (.int .i64 s.hi.b) ∧ w'.cell? ⟨x6, 9, none⟩ = some (.int .i64 s.hi.c)) ∧ w'.cell? ⟨x0, 0, none⟩ = some (.int .i64 s.sq) ∧ w'.cell? ⟨x0, 1, none⟩ = some (.int .i64 s.fe) ∧ w'.cell? ⟨x0, 2, none⟩ = some (.slice A s.ents.length c) ∧ w'.cell? ⟨x0, 3, none⟩ = some (.slice A2 s.tmbs.length c2) ∧ w'.cell? ⟨x0, 4, none⟩ = some (.int .i64 s.lo.a) ∧ w'.cell? ⟨x0, 5, none⟩ = some (.int .i64 s.lo.b) ∧ w'.cell? ⟨x0, 6, none⟩ = some (.int .i64 s.lo.c) ∧ w'.cell? ⟨x0, 7, none⟩ = some (.int .i64 s.hi.a) ∧ w'.cell? ⟨x0, 8, none⟩ = some (.int .i64 s.hi.b) ∧ w'.cell? ⟨x0, 9, none⟩ = some (.int .i64 s.hi.c))
    (first | exact ⟨CV, CT⟩ | exact ⟨(V10.out.below hb11 s106).ten, (T10.out.below hb11 s100).ten⟩ | exact ⟨((V10.out.below hb11 s106).below hb12 s116).ten, ((T10.out.below hb11 s100).below hb12 s110).ten⟩ | (go_keep; done))
    (first
      | (go_at_call 6; refine (toState_any A c A2 c2 s x0 w10.drew (by exact H.out.below b10.drew (Nat.le_refl _)) (by exact Nat.le_of_lt s100) hlen hlen2).mono ?_; rintro e w11 ⟨A11, c11, B11, d11, rfl, ho11, hf11, hc11, hd11, hb11'⟩; have Ho11 := Lib.hid ho11; clear ho11 hf11 hc11 hd11; have hb11 : Below w10.heap.size w10 w11 := (Below.refl _ _).drew.trans hb11'; clear hb11'; have s116 : x6 < w11.heap.size := Nat.lt_of_lt_of_le s106 hb11.size; have s110 : x0 < w11.heap.size := Nat.lt_of_lt_of_le s100 hb11.size; have b11 : Below x0 w w11 := b10.trans (hb11.mono (Nat.le_of_lt s100)))
      | (go_at_call 8; refine (eqState_any A6 c6 B6 d6 A11 c11 B11 d11 s s w11.heap.size w11 (by exact (Hx10.out.below hb11 (Nat.le_of_lt s106)).more (Nat.le_of_lt s116)) Ho11.out (Nat.le_refl _) (by omega) (by omega) (by omega) (by omega)).mono ?_; rintro e w12 ⟨be, hbe, rfl, hb12⟩; obtain rfl : be = true := hbe.2 rfl; clear hbe; have b12 : Below x0 w w12 := b11.trans (hb12.mono (Nat.le_of_lt s110))))
  have hb1012 : Below w10.heap.size w10 w12 := bnext hb11 hb12
  have U12 := Lib.hid (U10.out.below hb1012 (by omega))
  have Z12 := Lib.hid (Z10.out.below hb1012 s10)
  have Hy12 := Lib.hid (Hy10.out.below hb1012 (by omega))
  have s12 : x8 < w12.heap.size := Nat.lt_of_lt_of_le s10 hb1012.size
  have s120 : x0 + 1 < w12.heap.size := by omega
  have s121 : x0 ≤ w12.heap.size := by omega
  clear CT CV hb11 hb12 b10 b11 hb1012 U10 Z10 Hy10 T10 V10 Hx10 Ho11
  have CU := U12.out.ten
  have CZ := Z12.out.ten
  go_wp2_with fail
  go_region_held3 (fun w' => (w'.cell? ⟨x8, 0, none⟩ = some (.int .i64 t.sq) ∧ w'.cell? ⟨x8, 1, none⟩ = some (.int .i64 t.fe) ∧ w'.cell? ⟨x8, 2, none⟩ = some (.slice A8 t.ents.length c8) ∧ w'.cell? ⟨x8, 3, none⟩ = some (.slice B8 t.tmbs.length d8) ∧ w'.cell? ⟨x8, 4, none⟩ = some (.int .i64 t.lo.a) ∧ w'.cell? ⟨x8, 5, none⟩ = some (.int .i64 t.lo.b) ∧ w'.cell? ⟨x8, 6, none⟩ = some (.int .i64 t.lo.c) ∧ w'.cell? ⟨x8, 7, none⟩ = some (.int .i64 t.hi.a) ∧ w'.cell? ⟨x8, 8, none⟩ = some (.int .i64 t.hi.b) ∧ w'.cell? ⟨x8, 9, none⟩ = some (.int .i64 t.hi.c)) ∧ w'.cell? ⟨x0 + 1, 0, none⟩ = some (.int .i64 t.sq) ∧ w'.cell? ⟨x0 + 1, 1, none⟩ = some (.int .i64 t.fe) ∧ w'.cell? ⟨x0 + 1, 2, none⟩ = some (.slice A' t.ents.length c') ∧ w'.cell? ⟨x0 + 1, 3, none⟩ = some (.slice A2' t.tmbs.length c2') ∧ w'.cell? ⟨x0 + 1, 4, none⟩ = some (.int .i64 t.lo.a) ∧ w'.cell? ⟨x0 + 1, 5, none⟩ = some (.int .i64 t.lo.b) ∧ w'.cell? ⟨x0 + 1, 6, none⟩ = some (.int .i64 t.lo.c) ∧ w'.cell? ⟨x0 + 1, 7, none⟩ = some (.int .i64 t.hi.a) ∧ w'.cell? ⟨x0 + 1, 8, none⟩ = some (.int .i64 t.hi.b) ∧ w'.cell? ⟨x0 + 1, 9, none⟩ = some (.int .i64 t.hi.c))
    (first | exact ⟨CZ, CU⟩ | exact ⟨(Z12.out.below hb13 s12).ten, (U12.out.below hb13 s120).ten⟩ | exact ⟨((Z12.out.below hb13 s12).below hb14 s138).ten, ((U12.out.below hb13 s120).below hb14 s130).ten⟩ | (go_keep; done))
    (first
      | (go_at_call 6; refine (toState_any A' c' A2' c2' t x0 w12.drew (by exact H'.out.below b12.drew (Nat.le_refl _)) (by exact s121) klen klen2).mono ?_; rintro e w13 ⟨A13, c13, B13, d13, rfl, ho13, hf13, hc13, hd13, hb13'⟩; have Ho13 := Lib.hid ho13; clear ho13 hf13 hc13 hd13; have hb13 : Below w12.heap.size w12 w13 := (Below.refl _ _).drew.trans hb13'; clear hb13'; have s138 : x8 < w13.heap.size := Nat.lt_of_lt_of_le s12 hb13.size; have s130 : x0 + 1 < w13.heap.size := Nat.lt_of_lt_of_le s120 hb13.size; have b13 : Below x0 w w13 := b12.trans (hb13.mono s121))
      | (go_at_call 8; refine (eqState_any A8 c8 B8 d8 A13 c13 B13 d13 t t w13.heap.size w13 (by exact (Hy12.out.below hb13 (Nat.le_of_lt s12)).more (Nat.le_of_lt s138)) Ho13.out (Nat.le_refl _) (by omega) (by omega) (by omega) (by omega)).mono ?_; rintro e w14 ⟨be, hbe, rfl, hb14⟩; obtain rfl : be = true := hbe.2 rfl; clear hbe; have b14 : Below x0 w w14 := b13.trans (hb14.mono (Nat.le_trans s121 hb13.size))))
  clear CU CZ hb13 hb14 b12 b13
  go_wp2
  go_ret
  exact ⟨rfl, by rw [Hx0.out]; exact b14⟩

theorem own : ownKnob Try.prog.godebug = none := by kernel_rfl
theorem laidOut : laidOutB Try.prog = true := by kernel_rfl

set_option maxRecDepth 100000 in
theorem lifted (os : Os) (started : os.Started) (H : Type) (enc : TypeId × Value → H) :
    ReturnsInHanded {} Try.checked os 3 .any (Rows.fnExactSameStateSpec.pre6 enc Try.prog Try.f3 Rows.fnExactSameStateRow.domain false) (Rows.fnExactSameStateSpec.post enc Try.prog Try.f3 false true false false) := by
  refine returnsInHanded_of_change (C := Try.checked) own started (by kernel_rfl) Try.func3
    (ChangeSpec.witness6 (enc := enc) (C := Try.checked) false ⟨#[], #[.agg #[.int .i64 0, .int .i64 0, .slice none 0 0, .slice none 0 0, .int .i64 0, .int .i64 0, .int .i64 0, .int .i64 0, .int .i64 0, .int .i64 0], .agg #[.int .i64 0, .int .i64 0, .slice none 0 0, .slice none 0 0, .int .i64 0, .int .i64 0, .int .i64 0, .int .i64 0, .int .i64 0, .int .i64 0]], []⟩ 8 (by kernel_rfl) (by kernel_rfl) (by kernel_rfl) (by kernel_rfl)) ?_
  intro W base args ds gs before hval0 hW hcnd _
  have hval : ∀ (j : Nat) t v, Try.f3.params[j]? = some t → args[j]? = some v → Value.okWide Try.prog W .any base t v := hval0
  have hW' := hW
  obtain ⟨p, q, hA0, hV, rfl, hfz, hnd⟩ := hW
  have hA : DataW.TrodAll enc Try.prog W 0 (fun _ => true) true Try.f3.params.toList args.toList ds p := hA0
  rw [Try.params3] at hA hval
  obtain ⟨v0, vs0, d0, ds0, p0, q0, hargs, rfl, rfl, h0, r0⟩ := trodAll_cons hA
  obtain ⟨v1, vs1, d1, ds1, p1, q1, rfl, rfl, rfl, h1, r1⟩ := trodAll_cons r0
  obtain ⟨rfl, rfl, rfl⟩ := trodAll_nil r1
  obtain rfl : args = #[v0, v1] := by cases args; simp_all
  obtain ⟨rfl, rfl⟩ := trodVars_none hV
  have k0 := h0
  have lt0 : ∀ x ∈ p0, x.block < W.heap.size := by obtain ⟨m, hm⟩ := k0; exact DataW.trod_lt m _ _ _ hm
  obtain ⟨A0, c0, B0, e0, st0, rfl, ob0, ft0⟩ := open_lst (hval 0 26 v0 rfl rfl) h0
  have k1 := h1
  have lt1 : ∀ x ∈ p1, x.block < W.heap.size := by obtain ⟨m, hm⟩ := k1; exact DataW.trod_lt m _ _ _ hm
  obtain ⟨A1, c1, B1, e1, st1, rfl, ob1, ft1⟩ := open_lst (hval 1 26 v1 rfl rfl) h1
  clear hA0 hval0
  refine (walk A0 c0 B0 e0 st0 A1 c1 B1 e1 st1 W ob0 ft0 ob1 ft1).mono fun e W' ⟨he, bel⟩ => ?_
  subst he
  exact ⟨_, rfl, _, _, _, [], _, [], hW', trodAll_mk1 (shut_bool Try.underlying4 _), (trodAll_cons_mk (Below.trod laidOut (by kernel_rfl) (of_decide_eq_true (by kernel_rfl)) k0 bel lt0) (trodAll_cons_mk (Below.trod laidOut (by kernel_rfl) (of_decide_eq_true (by kernel_rfl)) k1 bel lt1) trodAll_mk0)), rfl, bel.frame _, fun h => by cases h⟩

theorem over : Rows.fnExactSameStateRow.holds Try.pinned (OpenSpec.ofChange Rows.fnExactSameStateSpec) :=
  OpenClaim.holds_of_wide 3 Try.f3 rfl rfl rfl rfl rfl rfl rfl ⟨rfl, rfl, rfl, rfl, rfl⟩ rfl rfl rfl rfl rfl (by kernel_rfl) Try.func3 (by kernel_rfl)
    (of_decide_eq_true (by kernel_rfl)) (by unfold Func.isWrapper; first | (rw [if_pos (by decide +kernel)]; kernel_rfl) | (rw [if_neg (by decide +kernel)]; exact ⟨rfl, rfl⟩))
    (fun os started H enc _ => lifted os started H enc)

theorem proved : Rows.FnExactSameStateSaid := over
#print axioms proved
end Go.Proofs.Ytjmfffmjfbpgjaa.fnExactSameState
