/-
  'laws.FnExactListKeys' answers true at every store, prefix, text and number: ListKeys answers as its model does, writes into no argument, and its keys lie in new memory. Conditions: none.
-/
import Derived.Test.YtpgilbmajbpdkabList
import Derived.Test.YtpgilbmajbpdkabMarkStore
import Derived.Test.YtpgilbmajbpdkabOpen
import Derived.Deep.RegionHeld3
namespace Go.Proofs.Ytpgilbmajbpdkab.fnExactListKeys
open Go.ChangeShapes Go.WideShapes Go.ChangeAt Go.RowKit
set_option linter.unusedVariables false

theorem ListR.len {xs : List GObj} {next : Int} {p a : ByteArray} {n : Int} {ss : List ByteArray} {code : Int} (h : ListR xs next p a n ss code) : ss.length ≤ 300 := by
  rcases h with ⟨_, rfl, _⟩ | ⟨_, _, rfl, _⟩ | ⟨_, _, _, rfl, _⟩ | ⟨_, _, h3, rfl, _⟩
  · simp
  · simp
  · simp
  · have := lkAll_len p a n.toNat xs; omega

set_option maxRecDepth 100000 in
set_option maxHeartbeats 1000000 in
theorem walk (A : Option Addr) (c : Nat) (nx : Int) (xs : List GObj) (p a : ByteArray) (n : Int) (w : World) (h : ObjsAt w w.heap.size A xs) (hf : ∀ o ∈ xs, o.fit) (hl : xs.length ≤ maxLen) (hp : p.size ≤ maxLen) (ha : a.size ≤ maxLen) :
    Calls Try.prog 4 #[.agg #[.slice A xs.length c, .int .i64 nx], .string p, .string a, .int .i64 n] w fun e w' => e = .returned (.bool true) ∧ Below w.heap.size w w' := by
  have H := Lib.hid h; clear h
  have Hf := Lib.hid hf; clear hf
  have Hp := Lib.hid hp
  have Ha := Lib.hid ha
  unfold maxLen at hp ha
  by_cases l1 : 1048576 < p.size
  · have d1 : decide (1048576 < (p.size : Int)) = true := by simp; omega
    go_enter Try.func4, Try.ntmps4
    go_wp2
    go_ret
    exact ⟨rfl, bal (Below.refl _ _) _⟩
  have d1 : decide (1048576 < (p.size : Int)) = false := by simp; omega
  by_cases l2 : 1048576 < a.size
  · have d2 : decide (1048576 < (a.size : Int)) = true := by simp; omega
    go_enter Try.func4, Try.ntmps4
    go_wp2
    go_ret
    exact ⟨rfl, bal (Below.refl _ _) _⟩
  have d2 : decide (1048576 < (a.size : Int)) = false := by simp; omega
  go_enter Try.func4, Try.ntmps4
  go_wp2_with fail
  obtain ⟨W, hW⟩ : ∃ W, W = w.alloc (.cells #[.slice A xs.length c, .int .i64 nx] 24) := ⟨_, rfl⟩
  have t0 : Two W w.heap.size (.slice A xs.length c) (.int .i64 nx) := by rw [hW]; exact Two.new _ _ _ _
  have b0 : Below w.heap.size w W := by rw [hW]; exact bal (Below.refl _ _) _
  have s0 : w.heap.size < W.heap.size := by rw [hW]; simp
  rw [← hW]
  clear hW
  have T0 := Lib.hid t0; clear t0
  generalize hx0 : w.heap.size = x0 at *
  have Hx0 := Lib.hid hx0; clear hx0
  refine (szStore_any A c nx xs 1048576 x0 W (Sl.below H.out b0 (Nat.le_refl _)) (by omega) (fun o ho => (Hf.out o ho).1) hl (by omega) (by omega)).mono ?_
  rintro e w1 ⟨v, hv, hv1, hv2, rfl, hb1⟩
  have Hv := Lib.hid hv; clear hv
  have b1 : Below x0 w w1 := b0.trans (hb1.mono (by omega))
  by_cases hneg : v < 0
  · have d : decide (v < 0) = true := by simpa using hneg
    go_wp2
    go_ret
    exact ⟨rfl, by rw [Hx0.out]; exact b1⟩
  have d : decide (v < 0) = false := by simpa using hneg
  have hlen : xs.length ≤ 1048576 := (Hv.out (by omega)).1.1
  have T1 := Lib.hid (T0.out.below hb1 s0)
  have s1 : x0 < w1.heap.size := Nat.lt_of_lt_of_le s0 hb1.size
  clear Hv T0 hb1 b0 s0
  obtain ⟨t10, t11⟩ := T1.out
  go_wp2_with fail
  refine (toStore_any A c nx xs x0 w1 (Sl.below H.out b1 (Nat.le_refl _)) (by omega) hlen).mono ?_
  rintro e w2 ⟨A2, c2, rfl, ho2, hf2, hbl2, hc2, hb2⟩
  have Ho2 := Lib.hid ho2; clear ho2 hf2 hbl2 hc2 t10 t11
  have b2 : Below x0 w w2 := b1.trans (hb2.mono (by omega))
  have T2 := Lib.hid (T1.out.below hb2 s1)
  have s2 : x0 < w2.heap.size := Nat.lt_of_lt_of_le s1 hb2.size
  clear T1 hb2 b1
  go_wp2_with fail
  refine (specListKeys_any A2 c2 nx xs p a n w2.heap.size w2 Ho2.out (Nat.le_refl _) Hf.out hlen Hp.out Ha.out).mono ?_
  rintro e w3 ⟨ss, code, A3, c3, hr, rfl, hs3, hf3, hbl3, hc3, hb3⟩
  have hssl := ListR.len hr
  have Hr := Lib.hid hr; clear hr hf3 hc3
  have Hs3 := Lib.hid hs3; clear hs3
  have Hbl3 := Lib.hid hbl3; clear hbl3
  have b3 : Below x0 w w3 := b2.trans (hb3.mono (by omega))
  have T3 := Lib.hid (T2.out.below hb3 s2)
  have s3 : x0 < w3.heap.size := Nat.lt_of_lt_of_le s2 hb3.size
  clear T2 hb3 b2 Ho2
  obtain ⟨t10, t11⟩ := T3.out
  go_wp2_with fail
  refine (toStore_any A c nx xs x0 w3 (Sl.below H.out b3 (Nat.le_refl _)) (by omega) hlen).mono ?_
  rintro e w4 ⟨A4, c4, rfl, ho4, hf4, hbl4, hc4, hb4⟩
  have Ho4 := Lib.hid ho4; clear ho4 hc4 t10 t11
  have Hf4 := Lib.hid hf4; clear hf4
  have Hbl4 := Lib.hid hbl4; clear hbl4
  have b4 : Below x0 w w4 := b3.trans (hb4.mono (by omega))
  have T4 := Lib.hid (T3.out.below hb4 s3)
  have S4 := Lib.hid (Sl.below Hs3.out hb4 (Nat.le_refl _))
  have s4 : w3.heap.size ≤ w4.heap.size := hb4.size
  clear T3 hb4 b3 Hs3
  go_wp2_with fail
  obtain ⟨W5, hW5⟩ : ∃ W5, W5 = w4.alloc (.cells #[.slice A4 xs.length c4, .int .i64 nx] 28) := ⟨_, rfl⟩
  have t5 : Two W5 w4.heap.size (.slice A4 xs.length c4) (.int .i64 nx) := by rw [hW5]; exact Two.new _ _ _ _
  have bb5 : Below w4.heap.size w4 W5 := by rw [hW5]; exact bal (Below.refl _ _) _
  have s5 : w4.heap.size < W5.heap.size := by rw [hW5]; simp
  rw [← hW5]
  clear hW5
  have V5 := Lib.hid t5; clear t5
  have T5 := Lib.hid (T4.out.below bb5 (by omega))
  have S5 := Lib.hid (Sl.below S4.out bb5 s4)
  have O5 := Lib.hid (Sl.below Ho4.out bb5 (Nat.le_refl _))
  have F5 := Lib.hid (Hf4.out.below bb5 (fun b e => (Hbl4.out b e).2))
  have b5 : Below x0 w W5 := b4.trans (bb5.mono (by omega))
  clear T4 S4 Ho4 Hf4 bb5 b4
  generalize w4.heap.size = x4 at *
  generalize w3.heap.size = x3 at *
  refine (listKeys_any A4 c4 nx xs p a n x4 W5 O5.out (by omega) Hf.out hlen Hp.out Ha.out).mono ?_
  rintro e w6 ⟨ss', code', A6, c6, hr', rfl, hs6, hf6, hbl6, hc6, hb6⟩
  obtain ⟨e1, e2⟩ := ListR.one Hr.out hr'
  subst e1 e2
  have Hs6 := Lib.hid hs6; clear hs6 hc6 hr'
  have Hf6 := Lib.hid hf6; clear hf6
  have Hbl6 := Lib.hid hbl6; clear hbl6
  have b6 : Below x0 w w6 := b5.trans (hb6.mono (by omega))
  have V6 := Lib.hid (V5.out.below hb6 s5)
  have T6 := Lib.hid (T5.out.below hb6 (by omega))
  have S6 := Lib.hid (Sl.below S5.out hb6 (by omega))
  have O6 := Lib.hid (Sl.below O5.out hb6 (by omega))
  have F6 := Lib.hid (F5.out.below hb6 (fun b e => by have := (Hbl4.out b e).2; omega))
  have s6 : W5.heap.size ≤ w6.heap.size := hb6.size
  clear V5 T5 S5 O5 F5 hb6 b5
  generalize W5.heap.size = x5 at *
  go_wp2_with fail
  refine (eqStringS_any A6 A3 c6 c3 ss' ss' w6.heap.size w6 Hs6.out (Sl.more S6.out (by omega)) (Nat.le_refl _) (by omega) (by omega)).mono ?_
  rintro e w7 ⟨be, hbe, rfl, hb7⟩
  obtain rfl : be = true := hbe.2 rfl
  clear hbe
  have b7 : Below x0 w w7 := b6.trans (hb7.mono (by omega))
  have V7 := Lib.hid (V6.out.below hb7 (by omega))
  have T7 := Lib.hid (T6.out.below hb7 (by omega))
  have S7 := Lib.hid (Sl.below S6.out hb7 (by omega))
  have O7 := Lib.hid (Sl.below O6.out hb7 (by omega))
  have F7 := Lib.hid (F6.out.below hb7 (fun b e => by have := (Hbl4.out b e).2; omega))
  have G7 := Lib.hid (Sl.below Hs6.out hb7 (Nat.le_refl _))
  have E7 := Lib.hid (Hf6.out.below hb7 (fun b e => (Hbl6.out b e).2))
  have s7 : w6.heap.size ≤ w7.heap.size := hb7.size
  clear V6 T6 S6 O6 F6 Hs6 Hf6 hb7 b6
  generalize w6.heap.size = x6 at *
  obtain ⟨t10, t11⟩ := T7.out
  obtain ⟨v10, v11⟩ := V7.out
  have s74 : x4 < w7.heap.size := by omega
  have s70 : x0 < w7.heap.size := by omega
  go_wp2_with fail
  go_region_held3 (fun w' => w'.cell? ⟨x4, 0, none⟩ = some (.slice A4 xs.length c4) ∧ w'.cell? ⟨x4, 1, none⟩ = some (.int .i64 nx) ∧ w'.cell? ⟨x0, 0, none⟩ = some (.slice A xs.length c) ∧ w'.cell? ⟨x0, 1, none⟩ = some (.int .i64 nx))
    (first | go_keep | exact ⟨(hb8.cell s74).trans v10, (hb8.cell s74).trans v11, (hb8.cell s70).trans t10, (hb8.cell s70).trans t11⟩ | exact ⟨(hb9.cell s84).trans ((hb8.cell s74).trans v10), (hb9.cell s84).trans ((hb8.cell s74).trans v11), (hb9.cell s80).trans ((hb8.cell s70).trans t10), (hb9.cell s80).trans ((hb8.cell s70).trans t11)⟩)
    (first
      | (go_at_call 8; refine (toStore_any A c nx xs x0 w7.drew (by exact Sl.below H.out b7.drew (Nat.le_refl _)) (by exact Nat.le_of_lt s70) hlen).mono ?_; rintro e w8 ⟨A8, c8, rfl, ho8, hf8, hbl8, hc8, hb8'⟩; have Ho8 := Lib.hid ho8; clear ho8 hf8 hbl8 hc8; have hb8 : Below w7.heap.size w7 w8 := (Below.refl _ _).drew.trans hb8'; clear hb8'; have s84 : x4 < w8.heap.size := Nat.lt_of_lt_of_le s74 hb8.size; have s80 : x0 < w8.heap.size := Nat.lt_of_lt_of_le s70 hb8.size)
      | (go_at_call 10; refine (eqStore_any A4 A8 c4 c8 nx nx xs xs w8.heap.size w8 (by exact Sl.more (Sl.below O7.out hb8 (Nat.le_of_lt s74)) (Nat.le_of_lt s84)) Ho8.out (Nat.le_refl _) (by omega) (by omega)).mono ?_; rintro e w9 ⟨be, hbe, rfl, hb9⟩; obtain rfl : be = true := hbe.2 ⟨rfl, rfl⟩; clear hbe))
  have hb79 : Below w7.heap.size w7 w9 := bnext hb8 hb9
  clear t10 t11 v10 v11 hb8 hb9 Ho8 s84 s80
  have b9 : Below x0 w w9 := b7.trans (hb79.mono (by omega))
  have V9 := Lib.hid (V7.out.below hb79 (by omega))
  have T9 := Lib.hid (T7.out.below hb79 (by omega))
  have S9 := Lib.hid (Sl.below S7.out hb79 (by omega))
  have O9 := Lib.hid (Sl.below O7.out hb79 (by omega))
  have F9 := Lib.hid (F7.out.below hb79 (fun b e => by have := (Hbl4.out b e).2; omega))
  have G9 := Lib.hid (Sl.below G7.out hb79 (by omega))
  have E9 := Lib.hid (E7.out.below hb79 (fun b e => by have := (Hbl6.out b e).2; omega))
  have s9 : x6 ≤ w9.heap.size := Nat.le_trans s7 hb79.size
  clear V7 T7 S7 O7 F7 G7 E7 hb79 b7 s74 s70 s7
  obtain ⟨v10, v11⟩ := V9.out
  go_wp2_with fail
  refine (markStore_any A4 c4 nx 1 xs x4 w9 O9.out F9.out (fun b e => by have := (Hbl4.out b e).2; omega) (by omega) (by omega) (by omega) (by omega)).mono ?_
  rintro e w10 ⟨rfl, _, hg10, _⟩
  have bb10 : Below x3 w9 w10 := below_of_grown hg10 (by omega) (fun g e => (Hbl4.out g e).1)
  have b10 : Below x0 w w10 := b9.trans (bb10.mono (by omega))
  have T10 := Lib.hid (T9.out.below bb10 (by omega))
  have S10 := Lib.hid (Sl.below S9.out bb10 (by omega))
  have ne46 : blk A6 = none ∨ blk A6 ≠ blk A4 := by
    cases hq : blk A6 with
    | none => exact .inl rfl
    | some b6 => exact .inr (fun e => by have h1 := (Hbl6.out b6 hq).1; have h2 := (Hbl4.out b6 e.symm).2; omega)
  have G10 := Lib.hid (Sl.grown G9.out hg10 (by omega) ne46)
  have E10 := Lib.hid (show Free w10 A6 from fun b e i => by
    have hne : some b ≠ blk A4 := fun e4 => by rcases ne46 with h | h; (· rw [h] at e; cases e); (· exact h (e.trans e4))
    exact (World.frozen?_of_block (a := ⟨b, i, none⟩) (hg10.block b (by have := (Hbl6.out b e).2; omega) hne)).trans (E9.out b e i))
  have s10 : x6 ≤ w10.heap.size := Nat.le_trans s9 hg10.size
  have dk : decide (1 + 3 * (xs.length : Int) < 0) = false := by simp; omega
  clear V9 T9 S9 O9 F9 G9 E9 hg10 bb10 b9 v10 v11 ne46 s9
  go_wp2_with fail
  refine (eqStringS_any A6 A3 c6 c3 ss' ss' x6 w10 G10.out (Sl.more S10.out (by omega)) (by omega) (by omega) (by omega)).mono ?_
  rintro e w11 ⟨be, hbe, rfl, hb11⟩
  obtain rfl : be = true := hbe.2 rfl
  clear hbe
  have b11 : Below x0 w w11 := b10.trans (hb11.mono (by omega))
  have T11 := Lib.hid (T10.out.below hb11 (by omega))
  have S11 := Lib.hid (Sl.below S10.out hb11 (by omega))
  have G11 := Lib.hid (Sl.below G10.out hb11 (by omega))
  have E11 := Lib.hid (E10.out.below hb11 (fun b e => by have := (Hbl6.out b e).2; omega))
  have s11 : x6 ≤ w11.heap.size := Nat.le_trans s10 hb11.size
  clear T10 S10 G10 E10 hb11 b10 s10
  go_wp2_with fail
  refine (markStringS_any A6 c6 1 ss' x6 w11 G11.out E11.out (by omega) (by omega) (by omega) (by omega)).mono ?_
  rintro e w12 ⟨rfl, hs12, hg12, _⟩
  have G12 := Lib.hid hs12; clear hs12
  have bb12 : Below x5 w11 w12 := below_of_grown hg12 (by omega) (fun g e => (Hbl6.out g e).1)
  have b12 : Below x0 w w12 := b11.trans (bb12.mono (by omega))
  have T12 := Lib.hid (T11.out.below bb12 (by omega))
  have S12 := Lib.hid (Sl.below S11.out bb12 (by omega))
  have s12 : x6 ≤ w12.heap.size := Nat.le_trans s11 hg12.size
  clear T11 S11 G11 E11 hg12 bb12 b11 s11 dk
  have dq : decide (1 + (ss'.length : Int) < 0) = false := by simp; omega
  go_wp2_with fail
  refine (heldStringS_any A6 c6 ss'.length 1 x6 w12 G12.out (by omega) (by omega) (by omega) (by omega)).mono ?_
  rintro e w13 ⟨rfl, hb13⟩
  have b13 : Below x0 w w13 := b12.trans (hb13.mono (by omega))
  have T13 := Lib.hid (T12.out.below hb13 (by omega))
  have S13 := Lib.hid (Sl.below S12.out hb13 (by omega))
  have G13 := Lib.hid (Sl.below G12.out hb13 (by omega))
  have s13 : x6 ≤ w13.heap.size := Nat.le_trans s12 hb13.size
  clear T12 S12 G12 hb13 b12 s12
  obtain ⟨t10, t11⟩ := T13.out
  go_wp2_with fail
  refine (toStore_any A c nx xs x0 w13 (Sl.below H.out b13 (Nat.le_refl _)) (by omega) hlen).mono ?_
  rintro e w14 ⟨A14, c14, rfl, ho14, hf14, hbl14, hc14, hb14⟩
  have Ho14 := Lib.hid ho14; clear ho14 hf14 hbl14 hc14 t10 t11
  have b14 : Below x0 w w14 := b13.trans (hb14.mono (by omega))
  have S14 := Lib.hid (Sl.below S13.out hb14 (by omega))
  have G14 := Lib.hid (Sl.below G13.out hb14 (by omega))
  have s14 : x6 ≤ w14.heap.size := Nat.le_trans s13 hb14.size
  clear T13 S13 G13 hb14 b13 s13
  go_wp2_with fail
  refine (listKeys_any A14 c14 nx xs p a n w14.heap.size w14 Ho14.out (Nat.le_refl _) Hf.out hlen Hp.out Ha.out).mono ?_
  rintro e w15 ⟨ss2, code2, A15, c15, hr2, rfl, hs15, hf15, hbl15, hc15, hb15⟩
  obtain ⟨e1, e2⟩ := ListR.one Hr.out hr2
  subst e1 e2
  have Hs15 := Lib.hid hs15; clear hs15 hf15 hbl15 hc15 hr2 Ho14
  have b15 : Below x0 w w15 := b14.trans (hb15.mono (by omega))
  have S15 := Lib.hid (Sl.below S14.out hb15 (by omega))
  have G15 := Lib.hid (Sl.below G14.out hb15 (by omega))
  have s15 : x6 ≤ w15.heap.size := Nat.le_trans s14 hb15.size
  clear S14 G14 hb15 b14 s14
  go_wp2_with fail
  refine (eqStringS_any A15 A3 c15 c3 ss2 ss2 w15.heap.size w15 Hs15.out (Sl.more S15.out (by omega)) (Nat.le_refl _) (by omega) (by omega)).mono ?_
  rintro e w16 ⟨be, hbe, rfl, hb16⟩
  obtain rfl : be = true := hbe.2 rfl
  clear hbe
  have b16 : Below x0 w w16 := b15.trans (hb16.mono (by omega))
  have G16 := Lib.hid (Sl.below G15.out hb16 (by omega))
  have s16 : x6 ≤ w16.heap.size := Nat.le_trans s15 hb16.size
  clear S15 G15 hb16 b15 s15 Hs15
  go_wp2_with fail
  refine (heldStringS_any A6 c6 ss2.length 1 x6 w16 G16.out (by omega) (by omega) (by omega) (by omega)).mono ?_
  rintro e w17 ⟨rfl, hb17⟩
  have b17 : Below x0 w w17 := b16.trans (hb17.mono (by omega))
  clear G16 hb17 b16 s16
  go_wp2
  go_ret
  exact ⟨rfl, by rw [Hx0.out]; exact b17⟩

theorem own : ownKnob Try.prog.godebug = none := by kernel_rfl
theorem laidOut : laidOutB Try.prog = true := by kernel_rfl

set_option maxRecDepth 100000 in
theorem lifted (os : Os) (started : os.Started) (H : Type) (enc : TypeId × Value → H) :
    ReturnsInHanded {} Try.checked os 4 .any (Rows.fnExactListKeysSpec.pre6 enc Try.prog Try.f4 Rows.fnExactListKeysRow.domain false) (Rows.fnExactListKeysSpec.post enc Try.prog Try.f4 false true false false) := by
  refine returnsInHanded_of_change (C := Try.checked) own started (by kernel_rfl) Try.func4
    (ChangeSpec.witness6 (enc := enc) (C := Try.checked) false ⟨#[], #[.agg #[.slice none 0 0, .int .i64 0], .string ByteArray.empty, .string ByteArray.empty, .int .i64 0], []⟩ 8 (by kernel_rfl) (by kernel_rfl) (by kernel_rfl) (by kernel_rfl)) ?_
  intro W base args ds gs before hval0 hW hcnd _
  have hval : ∀ (j : Nat) t v, Try.f4.params[j]? = some t → args[j]? = some v → Value.okWide Try.prog W .any base t v := hval0
  have hW' := hW
  obtain ⟨p, q, hA0, hV, rfl, hfz, hnd⟩ := hW
  have hA : DataW.TrodAll enc Try.prog W 0 (fun _ => true) true Try.f4.params.toList args.toList ds p := hA0
  rw [Try.params4] at hA hval
  obtain ⟨v0, vs0, d0, ds0, p0, q0, hargs, rfl, rfl, h0, r0⟩ := trodAll_cons hA
  obtain ⟨v1, vs1, d1, ds1, p1, q1, rfl, rfl, rfl, h1, r1⟩ := trodAll_cons r0
  obtain ⟨v2, vs2, d2, ds2, p2, q2, rfl, rfl, rfl, h2, r2⟩ := trodAll_cons r1
  obtain ⟨v3, vs3, d3, ds3, p3, q3, rfl, rfl, rfl, h3, r3⟩ := trodAll_cons r2
  obtain ⟨rfl, rfl, rfl⟩ := trodAll_nil r3
  obtain rfl : args = #[v0, v1, v2, v3] := by cases args; simp_all
  obtain ⟨rfl, rfl⟩ := trodVars_none hV
  have k0 := h0
  have lt0 : ∀ x ∈ p0, x.block < W.heap.size := by obtain ⟨m, hm⟩ := k0; exact DataW.trod_lt m _ _ _ hm
  obtain ⟨A0, c0, xs0, nx0, rfl, ob0, ft0, ln0, wn0⟩ := open_store (hval 0 24 v0 rfl rfl) h0
  have k1 := h1
  have lt1 : ∀ x ∈ p1, x.block < W.heap.size := by obtain ⟨m, hm⟩ := k1; exact DataW.trod_lt m _ _ _ hm
  obtain ⟨s1, rfl, hd1, hp1, ls1⟩ := Go.ChangeMaps.open_string Try.underlying9 (hval 1 9 v1 rfl rfl) h1
  have k2 := h2
  have lt2 : ∀ x ∈ p2, x.block < W.heap.size := by obtain ⟨m, hm⟩ := k2; exact DataW.trod_lt m _ _ _ hm
  obtain ⟨s2, rfl, hd2, hp2, ls2⟩ := Go.ChangeMaps.open_string Try.underlying9 (hval 2 9 v2 rfl rfl) h2
  have k3 := h3
  have lt3 : ∀ x ∈ p3, x.block < W.heap.size := by obtain ⟨m, hm⟩ := k3; exact DataW.trod_lt m _ _ _ hm
  obtain ⟨i3, rfl, hd3, hp3, wi3⟩ := open_int Try.underlying3 (hval 3 3 v3 rfl rfl) h3
  clear hA0 hval0
  refine (walk A0 c0 nx0 xs0 s1 s2 i3 W ob0 ft0 ln0 ls1 ls2).mono fun e W' ⟨he, bel⟩ => ?_
  subst he
  exact ⟨_, rfl, _, _, _, [], _, [], hW', trodAll_mk1 (shut_bool Try.underlying4 _), (trodAll_cons_mk (Below.trod laidOut (by kernel_rfl) (of_decide_eq_true (by kernel_rfl)) k0 bel lt0) (trodAll_cons_mk (Below.trod laidOut (by kernel_rfl) (of_decide_eq_true (by kernel_rfl)) k1 bel lt1) (trodAll_cons_mk (Below.trod laidOut (by kernel_rfl) (of_decide_eq_true (by kernel_rfl)) k2 bel lt2) (trodAll_cons_mk (Below.trod laidOut (by kernel_rfl) (of_decide_eq_true (by kernel_rfl)) k3 bel lt3) trodAll_mk0)))), rfl, bel.frame _, fun h => by cases h⟩

theorem over : Rows.fnExactListKeysRow.holds Try.pinned (OpenSpec.ofChange Rows.fnExactListKeysSpec) :=
  OpenClaim.holds_of_wide 4 Try.f4 rfl rfl rfl rfl rfl rfl rfl ⟨rfl, rfl, rfl, rfl, rfl⟩ rfl rfl rfl rfl rfl (by kernel_rfl) Try.func4 (by kernel_rfl)
    (of_decide_eq_true (by kernel_rfl)) (by unfold Func.isWrapper; first | (rw [if_pos (by decide +kernel)]; kernel_rfl) | (rw [if_neg (by decide +kernel)]; exact ⟨rfl, rfl⟩))
    (fun os started H enc _ => lifted os started H enc)

theorem proved : Rows.FnExactListKeysSaid := over
#print axioms proved
end Go.Proofs.Ytpgilbmajbpdkab.fnExactListKeys
