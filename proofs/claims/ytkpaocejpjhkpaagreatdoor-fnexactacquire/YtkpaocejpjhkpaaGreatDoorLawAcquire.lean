/-
  'laws.FnExactAcquire' answers true at every argument: Acquire answers as its model does, writes into no argument, and its store lies in new memory. Conditions: the library's tables hold what its text lays there (tied by the card).
-/
import Derived.Test.YtkpaocejpjhkpaaGreatDoorM3
import Derived.Test.YtkpaocejpjhkpaaGreatDoorM2
import Derived.Deep.RegionHeld3
import Derived.Test.YtkpaocejpjhkpaaGreatDoorCards
import Derived.Test.YtkpaocejpjhkpaaGreatDoorTie
import Derived.ProofKit
import Derived.OpenShut
import Derived.Deep.DeepHandedRow
import Derived.Lib.LaidTab
import Derived.Outline
import Derived.ShutString
namespace Go.Proofs.YtkpaocejpjhkpaaGreatDoor.fnExactAcquire
open Go.ChangeShapes Go.WideShapes Go.ChangeAt Go.RowKit
set_option linter.unusedVariables false


set_option maxRecDepth 100000 in
set_option maxHeartbeats 2000000 in
theorem walk (A : Option Addr) (c : Nat) (nx : Int) (xs : List GObj) (who now : Int) (w : World) (h : ObjsAt w w.heap.size A xs) (hf : ∀ o ∈ xs, o.fit) (hl : xs.length ≤ maxLen) (hE : Errs w) (hP : Pow w) (hM : MaxL w) :
    Calls Tryz.prog 3 #[.agg #[.slice A xs.length c, .int .i64 nx], .int .i64 who, .int .i64 now] w fun e w' => e = .returned (.bool true) ∧ Below w.heap.size w w' := by
  have H := Lib.hid h; clear h
  have Hf := Lib.hid hf; clear hf
  have hEP := fun w' (h : Below w.heap.size w w') => And.intro (hE.below h (Nat.le_refl _)) (And.intro (hP.below h (Nat.le_refl _)) (hM.below h (Nat.le_refl _)))
  have HEP := Lib.hid hEP; clear hEP hE hP hM
  go_enter Tryz.func3, Tryz.ntmps3
  go_wp2_with fail
  obtain ⟨W, hW⟩ : ∃ W, W = w.alloc (.cells #[.slice A xs.length c, .int .i64 nx] 24) := ⟨_, rfl⟩
  have t0 : Two W w.heap.size (.slice A xs.length c) (.int .i64 nx) := by rw [hW]; exact Two.new _ _ _ _
  have b0 : Below w.heap.size w W := by rw [hW]; exact bal (Below.refl _ _) _
  have s0 : w.heap.size < W.heap.size := by rw [hW]; simp
  rw [← hW]
  clear hW
  have T0 := Lib.hid t0; clear t0
  generalize hx0 : w.heap.size = x0 at *
  have Hx0 := Lib.hid hx0; clear hx0
  refine (szStore_any A c nx xs 1048576 x0 W (Sl.below H.out b0 (Nat.le_refl _)) (by omega) (fun o ho => (Hf.out o ho).1) hl (by omega) (by omega)).mono ?_
  rintro e w1 ⟨v, hv, hv1, hv2, rfl, hb1⟩
  have Hv := Lib.hid hv; clear hv
  have b1 : Below x0 w w1 := b0.trans (hb1.mono (by omega))
  by_cases hneg : v < 0
  · have d : decide (v < 0) = true := by simpa using hneg
    go_wp2
    go_ret
    exact ⟨rfl, by rw [Hx0.out]; exact b1⟩
  have d : decide (v < 0) = false := by simpa using hneg
  have hlen : xs.length ≤ 1048576 := (Hv.out (by omega)).1.1
  have T1 := Lib.hid (T0.out.below hb1 s0)
  have s1 : x0 < w1.heap.size := Nat.lt_of_lt_of_le s0 hb1.size
  clear Hv T0 hb1 b0 s0
  obtain ⟨t10, t11⟩ := T1.out
  go_wp2_with fail
  refine (toStore_at A c nx xs x0 w1 (Sl.below H.out b1 (Nat.le_refl _)) (by omega) hlen).mono ?_
  rintro e w2 ⟨g2, c2, rfl, ho2, hf2, hbl2, hc2, hb2⟩
  have Ho2 := Lib.hid ho2; clear ho2 hf2 hbl2 t10 t11
  have b2 : Below x0 w w2 := b1.trans (hb2.mono (by omega))
  have T2 := Lib.hid (T1.out.below hb2 s1)
  have s2 : x0 < w2.heap.size := Nat.lt_of_lt_of_le s1 hb2.size
  clear T1 hb2 b1
  go_wp2_with fail
  refine (specAcquire_any g2 0 c2 nx xs who now w2.heap.size w2 Ho2.out (Nat.le_refl _) Hf.out hlen hc2 ).mono ?_
  rintro e w3 ⟨L, nx3, tok, code, A3, c3, hr, rfl, hs3, hf3, hbl3, hc3, hb3⟩
  have hLl := AcqR.len hr
  have Hr := Lib.hid hr; clear hr hf3 hc3
  have Hs3 := Lib.hid hs3; clear hs3 hbl3
  have b3 : Below x0 w w3 := b2.trans (hb3.mono (by omega))
  have T3 := Lib.hid (T2.out.below hb3 s2)
  have s3 : x0 < w3.heap.size := Nat.lt_of_lt_of_le s2 hb3.size
  clear T2 hb3 b2 Ho2
  obtain ⟨t10, t11⟩ := T3.out
  go_wp2_with fail
  obtain ⟨V3, hV3⟩ : ∃ V3, V3 = w3.alloc (.cells #[.slice A3 L.length c3, .int .i64 nx3] 28) := ⟨_, rfl⟩
  have tb3 : Two V3 w3.heap.size (.slice A3 L.length c3) (.int .i64 nx3) := by rw [hV3]; exact Two.new _ _ _ _
  have bv3 : Below w3.heap.size w3 V3 := by rw [hV3]; exact bal (Below.refl _ _) _
  have sv3 : w3.heap.size < V3.heap.size := by rw [hV3]; simp
  rw [← hV3]
  clear hV3 t10 t11
  have WB3 := Lib.hid tb3; clear tb3
  have TV3 := Lib.hid (T3.out.below bv3 s3); clear T3
  have SV3 := Lib.hid (Sl.below Hs3.out bv3 (Nat.le_refl _)); clear Hs3
  have bV3 : Below x0 w V3 := b3.trans (bv3.mono (by omega))
  clear bv3 b3
  generalize w3.heap.size = xb at *
  refine (toStore_any A c nx xs x0 V3 (Sl.below H.out bV3 (Nat.le_refl _)) (by omega) hlen).mono ?_
  rintro e w4 ⟨A4, c4, rfl, ho4, hf4, hbl4, hc4, hb4⟩
  have Ho4 := Lib.hid ho4; clear ho4 hc4
  have Hf4 := Lib.hid hf4; clear hf4
  have Hbl4 := Lib.hid hbl4; clear hbl4
  have b4 : Below x0 w w4 := bV3.trans (hb4.mono (by omega))
  have T4 := Lib.hid (TV3.out.below hb4 (by omega))
  have WB4 := Lib.hid (WB3.out.below hb4 sv3)
  have S4 := Lib.hid (Sl.below SV3.out hb4 (by omega))
  have s4 : V3.heap.size ≤ w4.heap.size := hb4.size
  clear TV3 WB3 SV3 hb4 bV3
  generalize V3.heap.size = x3 at *
  go_wp2_with fail
  obtain ⟨W5, hW5⟩ : ∃ W5, W5 = w4.alloc (.cells #[.slice A4 xs.length c4, .int .i64 nx] 28) := ⟨_, rfl⟩
  have t5 : Two W5 w4.heap.size (.slice A4 xs.length c4) (.int .i64 nx) := by rw [hW5]; exact Two.new _ _ _ _
  have bb5 : Below w4.heap.size w4 W5 := by rw [hW5]; exact bal (Below.refl _ _) _
  have s5 : w4.heap.size < W5.heap.size := by rw [hW5]; simp
  rw [← hW5]
  clear hW5
  have V5 := Lib.hid t5; clear t5
  have T5 := Lib.hid (T4.out.below bb5 (by omega))
  have WB5 := Lib.hid (WB4.out.below bb5 (by omega))
  have S5 := Lib.hid (Sl.below S4.out bb5 (by omega))
  have O5 := Lib.hid (Sl.below Ho4.out bb5 (Nat.le_refl _))
  have F5 := Lib.hid (Hf4.out.below bb5 (fun b e => (Hbl4.out b e).2))
  have b5 : Below x0 w W5 := b4.trans (bb5.mono (by omega))
  clear T4 WB4 S4 Ho4 Hf4 bb5 b4
  generalize w4.heap.size = x4 at *
  refine (acquire_any A4 c4 nx xs who now x4 W5 O5.out (by omega) Hf.out hlen (HEP.out W5 b5).1 (HEP.out W5 b5).2.1 (HEP.out W5 b5).2.2).mono ?_
  rintro e w6 ⟨L', nx6, tok', code', A6, c6, hr', rfl, hs6, hf6, hbl6, hc6, hb6⟩
  obtain ⟨e0, e1, e2, e3⟩ := AcqR.one Hr.out hr'
  subst e0 e1 e2 e3
  have Hs6 := Lib.hid hs6; clear hs6 hc6 hr'
  have Hf6 := Lib.hid hf6; clear hf6
  have Hbl6 := Lib.hid hbl6; clear hbl6
  have b6 : Below x0 w w6 := b5.trans (hb6.mono (by omega))
  have V6 := Lib.hid (V5.out.below hb6 s5)
  have T6 := Lib.hid (T5.out.below hb6 (by omega))
  have WB6 := Lib.hid (WB5.out.below hb6 (by omega))
  have S6 := Lib.hid (Sl.below S5.out hb6 (by omega))
  have O6 := Lib.hid (Sl.below O5.out hb6 (by omega))
  have F6 := Lib.hid (F5.out.below hb6 (fun b e => by have := (Hbl4.out b e).2; omega))
  have s6 : W5.heap.size ≤ w6.heap.size := hb6.size
  clear V5 T5 WB5 S5 O5 F5 hb6 b5
  generalize W5.heap.size = x5 at *
  obtain ⟨p0, p1⟩ := WB6.out
  have sxb : xb < w6.heap.size := by omega
  go_wp2_with fail
  obtain ⟨W7, hW7⟩ : ∃ W7, W7 = w6.alloc (.cells #[.slice A6 L'.length c6, .int .i64 nx6] 28) := ⟨_, rfl⟩
  have t7 : Two W7 w6.heap.size (.slice A6 L'.length c6) (.int .i64 nx6) := by rw [hW7]; exact Two.new _ _ _ _
  have bb7 : Below w6.heap.size w6 W7 := by rw [hW7]; exact bal (Below.refl _ _) _
  have s7 : w6.heap.size < W7.heap.size := by rw [hW7]; simp
  try rw [← hW7]
  clear hW7 p0 p1 sxb
  have GB7 := Lib.hid t7; clear t7
  have V7 := Lib.hid (V6.out.below bb7 (by omega))
  have T7 := Lib.hid (T6.out.below bb7 (by omega))
  have WB7 := Lib.hid (WB6.out.below bb7 (by omega))
  have S7 := Lib.hid (Sl.below S6.out bb7 (by omega))
  have O7 := Lib.hid (Sl.below O6.out bb7 (by omega))
  have F7 := Lib.hid (F6.out.below bb7 (fun b e => by have := (Hbl4.out b e).2; omega))
  have G7 := Lib.hid (Sl.below Hs6.out bb7 (Nat.le_refl _))
  have E7 := Lib.hid (Hf6.out.below bb7 (fun b e => (Hbl6.out b e).2))
  have b7 : Below x0 w W7 := b6.trans (bb7.mono (by omega))
  clear V6 T6 WB6 S6 O6 F6 Hs6 Hf6 bb7 b6
  generalize w6.heap.size = x6 at *
  refine (eqStore_any A6 A3 c6 c3 nx6 nx6 L' L' x6 W7 G7.out (Sl.more S7.out (by omega)) (by omega) (by omega) (by omega)).mono ?_
  rintro e w8 ⟨be, hbe, rfl, hb8⟩
  obtain rfl : be = true := hbe.2 ⟨rfl, rfl⟩
  clear hbe
  have b8 : Below x0 w w8 := b7.trans (hb8.mono (by omega))
  have GB8 := Lib.hid (GB7.out.below hb8 s7)
  have V8 := Lib.hid (V7.out.below hb8 (by omega))
  have T8 := Lib.hid (T7.out.below hb8 (by omega))
  have WB8 := Lib.hid (WB7.out.below hb8 (by omega))
  have S8 := Lib.hid (Sl.below S7.out hb8 (by omega))
  have O8 := Lib.hid (Sl.below O7.out hb8 (by omega))
  have F8 := Lib.hid (F7.out.below hb8 (fun b e => by have := (Hbl4.out b e).2; omega))
  have G8 := Lib.hid (Sl.below G7.out hb8 (by omega))
  have E8 := Lib.hid (E7.out.below hb8 (fun b e => by have := (Hbl6.out b e).2; omega))
  have s8 : x6 < w8.heap.size := Nat.lt_of_lt_of_le s7 hb8.size
  clear GB7 V7 T7 WB7 S7 O7 F7 G7 E7 hb8 b7 s7
  obtain ⟨t10, t11⟩ := T8.out
  obtain ⟨v10, v11⟩ := V8.out
  have s74 : x4 < w8.heap.size := by omega
  have s70 : x0 < w8.heap.size := by omega
  go_wp2_with fail
  go_region_held3 (fun w' => w'.cell? ⟨x4, 0, none⟩ = some (.slice A4 xs.length c4) ∧ w'.cell? ⟨x4, 1, none⟩ = some (.int .i64 nx) ∧ w'.cell? ⟨x0, 0, none⟩ = some (.slice A xs.length c) ∧ w'.cell? ⟨x0, 1, none⟩ = some (.int .i64 nx))
    (first | go_keep | exact ⟨(hb9.cell s74).trans v10, (hb9.cell s74).trans v11, (hb9.cell s70).trans t10, (hb9.cell s70).trans t11⟩ | exact ⟨(hb10.cell s84).trans ((hb9.cell s74).trans v10), (hb10.cell s84).trans ((hb9.cell s74).trans v11), (hb10.cell s80).trans ((hb9.cell s70).trans t10), (hb10.cell s80).trans ((hb9.cell s70).trans t11)⟩)
    (first
      | (go_at_call 8; refine (toStore_any A c nx xs x0 w8.drew (by exact Sl.below H.out b8.drew (Nat.le_refl _)) (by exact Nat.le_of_lt s70) hlen).mono ?_; rintro e w9 ⟨A9, c9, rfl, ho9, hf9, hbl9, hc9, hb9'⟩; have Ho9 := Lib.hid ho9; clear ho9 hf9 hbl9 hc9; have hb9 : Below w8.heap.size w8 w9 := (Below.refl _ _).drew.trans hb9'; clear hb9'; have s84 : x4 < w9.heap.size := Nat.lt_of_lt_of_le s74 hb9.size; have s80 : x0 < w9.heap.size := Nat.lt_of_lt_of_le s70 hb9.size)
      | (go_at_call 10; refine (eqStore_any A4 A9 c4 c9 nx nx xs xs w9.heap.size w9 (by exact Sl.more (Sl.below O8.out hb9 (Nat.le_of_lt s74)) (Nat.le_of_lt s84)) Ho9.out (Nat.le_refl _) (by omega) (by omega)).mono ?_; rintro e w10 ⟨be, hbe, rfl, hb10⟩; obtain rfl : be = true := hbe.2 ⟨rfl, rfl⟩; clear hbe))
  have hbA : Below w8.heap.size w8 w10 := bnext hb9 hb10
  clear t10 t11 v10 v11 hb9 hb10 Ho9 s84 s80
  have b10 : Below x0 w w10 := b8.trans (hbA.mono (by omega))
  have GB10 := Lib.hid (GB8.out.below hbA s8)
  have V10 := Lib.hid (V8.out.below hbA (by omega))
  have T10 := Lib.hid (T8.out.below hbA (by omega))
  have WB10 := Lib.hid (WB8.out.below hbA (by omega))
  have S10 := Lib.hid (Sl.below S8.out hbA (by omega))
  have O10 := Lib.hid (Sl.below O8.out hbA (by omega))
  have F10 := Lib.hid (F8.out.below hbA (fun b e => by have := (Hbl4.out b e).2; omega))
  have G10 := Lib.hid (Sl.below G8.out hbA (by omega))
  have E10 := Lib.hid (E8.out.below hbA (fun b e => by have := (Hbl6.out b e).2; omega))
  have s10 : x6 < w10.heap.size := Nat.lt_of_lt_of_le s8 hbA.size
  clear GB8 V8 T8 WB8 S8 O8 F8 G8 E8 hbA b8 s74 s70 s8
  obtain ⟨v10, v11⟩ := V10.out
  go_wp2_with fail
  refine (markStore_any A4 c4 nx 1 xs x4 w10 O10.out F10.out (fun b e => by have := (Hbl4.out b e).2; omega) (by omega) (by omega) (by omega) (by omega)).mono ?_
  rintro e w11 ⟨rfl, _, hg11, _⟩
  have bb11 : Below x3 w10 w11 := below_of_grown hg11 (by omega) (fun g e => (Hbl4.out g e).1)
  have b11 : Below x0 w w11 := b10.trans (bb11.mono (by omega))
  have T11 := Lib.hid (T10.out.below bb11 (by omega))
  have WB11 := Lib.hid (WB10.out.below bb11 (by omega))
  have S11 := Lib.hid (Sl.below S10.out bb11 (by omega))
  have GB11 := Lib.hid (GB10.out.grown hg11 s10 (fun g e => by have := (Hbl4.out g e).2; omega))
  have ne46 : blk A6 = none ∨ blk A6 ≠ blk A4 := by
    cases hq : blk A6 with
    | none => exact .inl rfl
    | some b6 => exact .inr (fun e => by have h1 := (Hbl6.out b6 hq).1; have h2 := (Hbl4.out b6 e.symm).2; omega)
  have G11 := Lib.hid (Sl.grown G10.out hg11 (by omega) ne46)
  have E11 := Lib.hid (show Free w11 A6 from fun b e i => by
    have hne : some b ≠ blk A4 := fun e4 => by rcases ne46 with h | h; (· rw [h] at e; cases e); (· exact h (e.trans e4))
    exact (World.frozen?_of_block (a := ⟨b, i, none⟩) (hg11.block b (by have := (Hbl6.out b e).2; omega) hne)).trans (E10.out b e i))
  have s11 : x6 < w11.heap.size := Nat.lt_of_lt_of_le s10 hg11.size
  have dk : decide (1 + 3 * (xs.length : Int) < 0) = false := by simp; omega
  clear GB10 V10 T10 WB10 S10 O10 F10 G10 E10 hg11 bb11 b10 v10 v11 ne46 s10
  obtain ⟨q0, q1⟩ := GB11.out
  obtain ⟨p0, p1⟩ := WB11.out
  go_wp2_with fail
  refine (eqStore_any A6 A3 c6 c3 nx6 nx6 L' L' x6 w11 G11.out (Sl.more S11.out (by omega)) (by omega) (by omega) (by omega)).mono ?_
  rintro e w12 ⟨be, hbe, rfl, hb12⟩
  obtain rfl : be = true := hbe.2 ⟨rfl, rfl⟩
  clear hbe q0 q1 p0 p1
  have b12 : Below x0 w w12 := b11.trans (hb12.mono (by omega))
  have T12 := Lib.hid (T11.out.below hb12 (by omega))
  have WB12 := Lib.hid (WB11.out.below hb12 (by omega))
  have GB12 := Lib.hid (GB11.out.below hb12 (by omega))
  have S12 := Lib.hid (Sl.below S11.out hb12 (by omega))
  have G12 := Lib.hid (Sl.below G11.out hb12 (by omega))
  have E12 := Lib.hid (E11.out.below hb12 (fun b e => by have := (Hbl6.out b e).2; omega))
  have s12 : x6 < w12.heap.size := Nat.lt_of_lt_of_le s11 hb12.size
  clear T11 WB11 GB11 S11 G11 E11 hb12 b11 s11
  obtain ⟨q0, q1⟩ := GB12.out
  go_wp2_with fail
  refine (markStore_any A6 c6 nx6 1 L' x6 w12 G12.out E12.out (fun b e => by have := (Hbl6.out b e).2; omega) (by omega) (by omega) (by omega) (by omega)).mono ?_
  rintro e w13 ⟨rfl, hs13, hg13, _⟩
  have G13 := Lib.hid hs13; clear hs13
  have bb13 : Below x5 w12 w13 := below_of_grown hg13 (by omega) (fun g e => (Hbl6.out g e).1)
  have b13 : Below x0 w w13 := b12.trans (bb13.mono (by omega))
  have T13 := Lib.hid (T12.out.below bb13 (by omega))
  have WB13 := Lib.hid (WB12.out.below bb13 (by omega))
  have S13 := Lib.hid (Sl.below S12.out bb13 (by omega))
  have GB13 := Lib.hid (GB12.out.grown hg13 s12 (fun g e => by have := (Hbl6.out g e).2; omega))
  have s13 : x6 < w13.heap.size := Nat.lt_of_lt_of_le s12 hg13.size
  clear T12 WB12 GB12 S12 G12 E12 hg13 bb13 b12 s12 dk q0 q1
  have dq : decide (1 + 3 * (L'.length : Int) < 0) = false := by simp; omega
  obtain ⟨q0, q1⟩ := GB13.out
  go_wp2_with fail
  refine (heldStore_any A6 c6 L'.length nx6 1 x6 w13 G13.out (by omega) (by omega) (by omega) (by omega)).mono ?_
  rintro e w14 ⟨rfl, hb14⟩
  have b14 : Below x0 w w14 := b13.trans (hb14.mono (by omega))
  have T14 := Lib.hid (T13.out.below hb14 (by omega))
  have WB14 := Lib.hid (WB13.out.below hb14 (by omega))
  have GB14 := Lib.hid (GB13.out.below hb14 (by omega))
  have S14 := Lib.hid (Sl.below S13.out hb14 (by omega))
  have G14 := Lib.hid (Sl.below G13.out hb14 (by omega))
  have s14 : x6 < w14.heap.size := Nat.lt_of_lt_of_le s13 hb14.size
  clear T13 WB13 GB13 S13 G13 hb14 b13 s13 q0 q1
  obtain ⟨t10, t11⟩ := T14.out
  go_wp2_with fail
  refine (toStore_any A c nx xs x0 w14 (Sl.below H.out b14 (Nat.le_refl _)) (by omega) hlen).mono ?_
  rintro e w15 ⟨A15, c15, rfl, ho15, hf15, hbl15, hc15, hb15⟩
  have Ho15 := Lib.hid ho15; clear ho15 hf15 hbl15 hc15 t10 t11
  have b15 : Below x0 w w15 := b14.trans (hb15.mono (by omega))
  have WB15 := Lib.hid (WB14.out.below hb15 (by omega))
  have GB15 := Lib.hid (GB14.out.below hb15 (by omega))
  have S15 := Lib.hid (Sl.below S14.out hb15 (by omega))
  have G15 := Lib.hid (Sl.below G14.out hb15 (by omega))
  have s15 : x6 < w15.heap.size := Nat.lt_of_lt_of_le s14 hb15.size
  clear T14 WB14 GB14 S14 G14 hb15 b14 s14
  go_wp2_with fail
  refine (acquire_any A15 c15 nx xs who now w15.heap.size w15 Ho15.out (Nat.le_refl _) Hf.out hlen (HEP.out w15 b15).1 (HEP.out w15 b15).2.1 (HEP.out w15 b15).2.2).mono ?_
  rintro e w16 ⟨L2, nx16, tok2, code2, A16, c16, hr2, rfl, hs16, hf16, hbl16, hc16, hb16⟩
  obtain ⟨e0, e1, e2, e3⟩ := AcqR.one Hr.out hr2
  subst e0 e1 e2 e3
  have Hs16 := Lib.hid hs16; clear hs16 hf16 hbl16 hc16 hr2 Ho15
  have b16 : Below x0 w w16 := b15.trans (hb16.mono (by omega))
  have WB16 := Lib.hid (WB15.out.below hb16 (by omega))
  have GB16 := Lib.hid (GB15.out.below hb16 (by omega))
  have S16 := Lib.hid (Sl.below S15.out hb16 (by omega))
  have G16 := Lib.hid (Sl.below G15.out hb16 (by omega))
  have s16 : x6 < w16.heap.size := Nat.lt_of_lt_of_le s15 hb16.size
  clear WB15 GB15 S15 G15 hb16 b15 s15
  obtain ⟨p0, p1⟩ := WB16.out
  have sxb : xb < w16.heap.size := by omega
  go_wp2_with fail
  obtain ⟨W17, hW17⟩ : ∃ W17, W17 = w16.alloc (.cells #[.slice A16 L2.length c16, .int .i64 nx16] 28) := ⟨_, rfl⟩
  have bb17 : Below w16.heap.size w16 W17 := by rw [hW17]; exact bal (Below.refl _ _) _
  try rw [← hW17]
  clear hW17 p0 p1
  have b17 : Below x0 w W17 := b16.trans (bb17.mono (by omega))
  have GB17 := Lib.hid (GB16.out.below bb17 (by omega))
  have S17 := Lib.hid (Sl.below S16.out bb17 (by omega))
  have G17 := Lib.hid (Sl.below G16.out bb17 (by omega))
  have H17 := Lib.hid (Sl.below Hs16.out bb17 (Nat.le_refl _))
  have s17 : w16.heap.size ≤ W17.heap.size := bb17.size
  clear WB16 GB16 S16 G16 Hs16 bb17 b16
  refine (eqStore_any A16 A3 c16 c3 nx16 nx16 L2 L2 w16.heap.size W17 H17.out (Sl.more S17.out (by omega)) s17 (by omega) (by omega)).mono ?_
  rintro e w18 ⟨be, hbe, rfl, hb18⟩
  obtain rfl : be = true := hbe.2 ⟨rfl, rfl⟩
  clear hbe
  have b18 : Below x0 w w18 := b17.trans (hb18.mono (by omega))
  have GB18 := Lib.hid (GB17.out.below hb18 (by omega))
  have G18 := Lib.hid (Sl.below G17.out hb18 (by omega))
  have s18 : x6 < w18.heap.size := by have := hb18.size; omega
  clear GB17 S17 G17 H17 hb18 b17
  obtain ⟨q0, q1⟩ := GB18.out
  go_wp2_with fail
  refine (heldStore_any A6 c6 L2.length nx16 1 x6 w18 G18.out (by omega) (by omega) (by omega) (by omega)).mono ?_
  rintro e w19 ⟨rfl, hb19⟩
  have b19 : Below x0 w w19 := b18.trans (hb19.mono (by omega))
  clear G18 GB18 hb19 b18 q0 q1
  go_wp2
  go_ret
  exact ⟨rfl, by rw [Hx0.out]; exact b19⟩

set_option maxRecDepth 100000 in
theorem contract (H : Type) (enc : TypeId × Value → H) (W : World) (base : Nat) (args : Array Value) (ds gs : List (DataW H)) (before : List MemPlace)
    (hval0 : ∀ (j : Nat) t v, Tryz.f3.params[j]? = some t → args[j]? = some v → Value.okWide Tryz.prog W .any base t v)
    (hW : DataW.Whole enc Tryz.prog Tryz.f3.params.toList Rows.fnExactAcquireSpec.vars false W args.toList ds gs before) (hL : laidMetH Tryz.prog Rows.fnExactAcquireRow.laid W) (hSh : W.ShapedOpen Tryz.prog) :
    Calls Tryz.prog 3 args W fun e W' => ∃ v, e = .returned v ∧ Rows.fnExactAcquireSpec.post enc Tryz.prog Tryz.f3 false true false false W args v W' := by
  have hP : Pow W := pow_of hL
  have hval : ∀ (j : Nat) t v, Tryz.f3.params[j]? = some t → args[j]? = some v → Value.okWide Tryz.prog W .any base t v := hval0
  have hW' := hW
  obtain ⟨p, q, hA0, hV, rfl, hfz, hnd⟩ := hW
  have hA : DataW.TrodAll enc Tryz.prog W 0 (fun _ => true) true Tryz.f3.params.toList args.toList ds p := hA0
  rw [Tryz.params3] at hA hval
  obtain ⟨v0, vs0, d0, ds0, p0, q0, hargs, rfl, rfl, h0, r0⟩ := trodAll_cons hA
  obtain ⟨v1, vs1, d1, ds1, p1, q1, rfl, rfl, rfl, h1, r1⟩ := trodAll_cons r0
  obtain ⟨v2, vs2, d2, ds2, p2, q2, rfl, rfl, rfl, h2, r2⟩ := trodAll_cons r1
  obtain ⟨rfl, rfl, rfl⟩ := trodAll_nil r2
  obtain rfl : args = #[v0, v1, v2] := by cases args; simp_all
  obtain ⟨rfl, rfl⟩ := trodVars_none hV
  have k0 := h0
  have lt0 : ∀ x ∈ p0, x.block < W.heap.size := by obtain ⟨m, hm⟩ := k0; exact DataW.trod_lt m _ _ _ hm
  obtain ⟨A0, c0, xs0, nx0, rfl, ob0, ft0, ln0, wn0⟩ := open_store (hval 0 24 v0 rfl rfl) h0
  have k1 := h1
  have lt1 : ∀ x ∈ p1, x.block < W.heap.size := by obtain ⟨m, hm⟩ := k1; exact DataW.trod_lt m _ _ _ hm
  obtain ⟨i1, rfl, hd1, hp1, wi1⟩ := open_int Tryz.underlying3 (hval 1 3 v1 rfl rfl) h1
  have k2 := h2
  have lt2 : ∀ x ∈ p2, x.block < W.heap.size := by obtain ⟨m, hm⟩ := k2; exact DataW.trod_lt m _ _ _ hm
  obtain ⟨i2, rfl, hd2, hp2, wi2⟩ := open_int Tryz.underlying3 (hval 2 3 v2 rfl rfl) h2
  clear hA0 hval0
  refine (walk A0 c0 nx0 xs0 i1 i2 W ob0 ft0 ln0 (errs_of7 hL) hP (maxL_of hSh)).mono fun e W' ⟨he, bel⟩ => ?_
  subst he
  exact ⟨_, rfl, _, _, _, [], _, [], hW', trodAll_mk1 (shut_bool Tryz.underlying4 _), (trodAll_cons_mk (Below.trod laidOut (by kernel_rfl) (of_decide_eq_true (by kernel_rfl)) k0 bel lt0) (trodAll_cons_mk (Below.trod laidOut (by kernel_rfl) (of_decide_eq_true (by kernel_rfl)) k1 bel lt1) (trodAll_cons_mk (Below.trod laidOut (by kernel_rfl) (of_decide_eq_true (by kernel_rfl)) k2 bel lt2) trodAll_mk0))), rfl, bel.frame _, fun h => by cases h⟩

theorem laid_met (os : Os) : laidMet Tryz.prog Rows.fnExactAcquireRow.laid ((laidWorld7 os).forCall (fun _ _ => 0) ⟨#[], #[.agg #[.slice none 0 0, .int .i64 0], .int .i64 0, .int .i64 0], []⟩).memory :=
  laidMet_of_run3 8 (by kernel_rfl) (by kernel_rfl) (by kernel_rfl)

theorem reads (os : Os) {H : Type} (enc : TypeId × Value → H) : ∃ places, DataW.whole enc Tryz.prog ((laidWorld7 os).forCall (fun _ _ => 0) ⟨#[], #[.agg #[.slice none 0 0, .int .i64 0], .int .i64 0, .int .i64 0], []⟩).memory Tryz.f3.params.toList Rows.fnExactAcquireSpec.vars false (#[.agg #[.slice none 0 0, .int .i64 0], .int .i64 0, .int .i64 0] : Array Value).toList 8 = some ([.agg [.nil, .lit (.int .i64 0)], .lit (.int .i64 0), .lit (.int .i64 0)], [], places) :=
  ⟨[], by kernel_rfl⟩

set_option maxRecDepth 100000 in
theorem lifted (os : Os) (started : os.Started) (H : Type) (enc : TypeId × Value → H) (F : Stop.Interp) :
    ReturnsInHanded {} Tryz.checked os 3 .any ((OpenSpec.ofChange Rows.fnExactAcquireSpec).preRow enc Tryz.prog Tryz.f3 Rows.fnExactAcquireRow.domain false Rows.fnExactAcquireRow.laid) (((OpenSpec.ofChange Rows.fnExactAcquireSpec).at F).post enc Tryz.prog Tryz.f3 false true false false) := by
  obtain ⟨places, hx⟩ := reads os enc
  refine returnsInHanded_of_row (C := Tryz.checked) (s := OpenSpec.ofChange Rows.fnExactAcquireSpec) own started (by kernel_rfl) Tryz.func3
    (witness_row_at (enc := enc) (C := Tryz.checked) false (laidWorld7 os) #[.agg #[.slice none 0 0, .int .i64 0], .int .i64 0, .int .i64 0] rfl (by kernel_rfl) (by kernel_rfl) (by kernel_rfl)
      (OpenSpec.preRow_of_cond 8 hx (by kernel_rfl) (fun k hk => by cases hk) (by kernel_rfl) (laid_met os))) ?_
  intro W base args ds gs before hval hW _ _ _ hL hSh _
  exact contract H enc W base args ds gs before hval hW hL hSh

theorem said : Rows.FnExactAcquireSaid :=
  OpenClaim.holds_of_cond 3 Tryz.f3 rfl rfl rfl rfl rfl rfl rfl ⟨rfl, rfl, rfl, rfl, rfl⟩ rfl rfl rfl rfl rfl (by kernel_rfl) Tryz.func3 (by kernel_rfl)
    (of_decide_eq_true (by kernel_rfl)) (by unfold Func.isWrapper; first | (rw [if_pos (by decide +kernel)]; kernel_rfl) | (rw [if_neg (by decide +kernel)]; exact ⟨rfl, rfl⟩))
    (fun os started H enc _ F => by rw [OpenClaim.pre_eq_preRow]; exact lifted os started H enc F)

theorem plain (f : FuncId) (fn : Func) (hf : Tryz.pinned.checked.prog.funcNamed "loop.example/g00601/laws.FnExactAcquire" = some f) (hfn : Tryz.pinned.checked.prog.funcs[f]? = some fn) :
    true = Tryz.pinned.checked.prog.looks [] ∧ ∀ (j : Nat) t, fn.params[j]? = some t → Tryz.pinned.checked.prog.wantsStandIn t = false := by
  obtain rfl : f = 3 := Option.some.inj ((show Tryz.prog.funcNamed "loop.example/g00601/laws.FnExactAcquire" = some 3 by kernel_rfl).symm.trans hf) |>.symm
  obtain rfl : fn = Tryz.f3 := (Option.some.inj (Tryz.func3.symm.trans hfn)).symm
  refine ⟨by kernel_rfl, fun j t ht => ?_⟩
  rw [Tryz.params3] at ht
  have hm := Array.mem_of_getElem? ht
  simp at hm
  rcases hm with rfl | rfl
  · exact (show Tryz.prog.wantsStandIn 24 = false by kernel_rfl)
  · exact (show Tryz.prog.wantsStandIn 3 = false by kernel_rfl)

theorem proved : Rows.FnExactAcquireCardSaid :=
  Claim7.holds_tied_plain_at .later [] _ _ _ _ said (fun _ h => by cases h) (by kernel_rfl) (fun _ h => by cases h) fnExactAcquire_row_tie rfl ⟨rfl, rfl⟩ (by kernel_rfl) rfl plain (by kernel_rfl)
#print axioms proved
end Go.Proofs.YtkpaocejpjhkpaaGreatDoor.fnExactAcquire
