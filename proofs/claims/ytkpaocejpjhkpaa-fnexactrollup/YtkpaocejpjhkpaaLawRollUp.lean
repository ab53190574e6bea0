/-
  'laws.FnExactRollUp' answers true at every list and every range: RollUp answers as its model does, writes into no argument, and its buckets lie in new memory. Conditions: none.
-/
import Derived.Test.YtkpaocejpjhkpaaRollR
import Derived.Test.YtkpaocejpjhkpaaToAt
import Derived.Test.YtkpaocejpjhkpaaMarkBkt
namespace Go.Proofs.Ytkpaocejpjhkpaa.fnExactRollUp
open Go.ChangeShapes Go.WideShapes Go.ChangeAt Go.RowKit
set_option linter.unusedVariables false
set_option linter.unusedSimpArgs false

theorem Free.grown {w w' : World} {A : Option Addr} {row : Option Nat} (h : Free w A) (hg : w.grownBy w' row) (hb : ∀ b, blk A = some b → b < w.heap.size ∧ some b ≠ row) : Free w' A := fun b e i => by
  have hblk := hg.block b (hb b e).1 (hb b e).2
  have := h b e i
  unfold World.frozen? at this ⊢
  rw [hblk]
  exact this

set_option maxRecDepth 100000 in
set_option maxHeartbeats 2000000 in
theorem walk (A : Option Addr) (c : Nat) (xs : List GBkt) (f t : Int) (w : World) (h : BktsAt w w.heap.size A xs) (hl : xs.length ≤ maxLen) :
    Calls Try.prog 5 #[.slice A xs.length c, .int .i64 f, .int .i64 t] w fun e w' => e = .returned (.bool true) ∧ Below w.heap.size w w' := by
  have H := Lib.hid h; clear h
  go_enter Try.func5, Try.ntmps5
  go_wp2_with fail
  refine (szBucketS_any A c xs 1048576 w hl (by omega) (by omega)).mono ?_
  rintro e w' ⟨u, hu, hu1, hu2, rfl, rfl⟩
  have Hu := Lib.hid hu; clear hu
  by_cases hneg : u < 0
  · have d : decide (u < 0) = true := by simpa using hneg
    go_wp2
    go_ret
    exact ⟨rfl, Below.refl _ _⟩
  have d : decide (u < 0) = false := by simpa using hneg
  have hlen : xs.length ≤ 1048576 := by have := (Hu.out (by omega)).1; omega
  clear Hu
  go_wp2_with fail
  refine (toBucketS_any A c xs w.heap.size w H.out (Nat.le_refl _) hlen).mono ?_
  rintro e w2 ⟨A2, c2, rfl, ho2, hf2, hbl2, hc2, hb2⟩
  have Ho2 := Lib.hid ho2; clear ho2 hf2 hbl2 hc2
  go_wp2_with fail
  refine (specRollUp_any A2 c2 xs f t w2.heap.size w2 Ho2.out (Nat.le_refl _) hlen).mono ?_
  rintro e w3 ⟨L, cd, A3, c3, rfl, hr, hs3, hf3, hk3, hc3, hb3⟩
  have hL1 : L.length ≤ 1 := hr.len
  have Hr := Lib.hid hr; have S3 := Lib.hid hs3; have K3 := Lib.hid hk3
  have b3 := bnext hb2 hb3
  have z3 := b3.size
  clear hr hs3 hk3 hf3 hc3 hb2 hb3 Ho2
  have dcd : (cd != cd) = false := by simp
  go_wp2_with fail
  refine (toBucketS_at A c xs w.heap.size w3 (Sl.below H.out b3 (Nat.le_refl _)) b3.size hlen).mono ?_
  rintro e w4 ⟨g4, c4, rfl, ho4, hf4, hg4, hgl4, hc4, hb4⟩
  have b4 := bnext b3 hb4
  have z4 := hb4.size
  have S4 := Lib.hid (Sl.below S3.out hb4 (Nat.le_refl _))
  have X4 := Lib.hid ho4; have FX4 := Lib.hid hf4
  clear S3 ho4 hf4 hb4 b3
  go_wp2_with fail
  refine (rollUp_any g4 0 c4 xs f t w4.heap.size w4 X4.out (Nat.le_refl _) hlen hc4).mono ?_
  rintro e w5 ⟨L', cd', A5, c5, rfl, hr', hs5, hf5, hk5, hc5, hb5⟩
  obtain ⟨rfl, rfl⟩ := Hr.out.one hr'
  have b5 := bnext b4 hb5
  have z5 := hb5.size
  have S5 := Lib.hid (Sl.below S4.out hb5 z4)
  have X5 := Lib.hid (Sl.below X4.out hb5 (Nat.le_refl _))
  have FX5 := Lib.hid (FX4.out.below hb5 (fun b e => by simp [blk] at e; omega))
  have G5 := Lib.hid hs5; have FG5 := Lib.hid hf5; have K5 := Lib.hid hk5
  clear S4 X4 FX4 hs5 hf5 hk5 hr' hb5 b4
  go_wp2_with fail
  refine (eqBucketS_any A5 A3 c5 c3 L L w5.heap.size w5 G5.out (Sl.more S5.out (by omega)) (Nat.le_refl _) (by omega) (by omega)).mono ?_
  rintro e w6 ⟨be, hbe, rfl, hb6⟩
  obtain rfl : be = true := hbe.2 rfl
  have b6 := bnext b5 hb6
  have z6 := hb6.size
  have S6 := Lib.hid (Sl.below S5.out hb6 (by omega))
  have X6 := Lib.hid (Sl.below X5.out hb6 (by omega))
  have FX6 := Lib.hid (FX5.out.below hb6 (fun b e => by simp [blk] at e; omega))
  have G6 := Lib.hid (Sl.below G5.out hb6 (Nat.le_refl _))
  have FG6 := Lib.hid (FG5.out.below hb6 (fun b e => (K5.out b e).2))
  clear hbe hb6 S5 X5 FX5 G5 FG5 b5
  go_wp2_with fail
  refine (toBucketS_any A c xs w.heap.size w6 (Sl.below H.out b6 (Nat.le_refl _)) b6.size hlen).mono ?_
  rintro e w7 ⟨A7, c7, rfl, ho7, hf7, hbl7, hc7, hb7⟩
  have Ho7 := Lib.hid ho7; clear ho7 hf7 hbl7 hc7
  have b7 := bnext b6 hb7
  have z7 := hb7.size
  have S7 := Lib.hid (Sl.below S6.out hb7 (by omega))
  have X7 := Lib.hid (Sl.below X6.out hb7 (by omega))
  have FX7 := Lib.hid (FX6.out.below hb7 (fun b e => by simp [blk] at e; omega))
  have G7 := Lib.hid (Sl.below G6.out hb7 (by omega))
  have FG7 := Lib.hid (FG6.out.below hb7 (fun b e => by have := (K5.out b e).2; omega))
  clear hb7 S6 X6 FX6 G6 FG6 b6
  go_wp2_with fail
  refine (eqBucketS_any (some ⟨g4, 0, none⟩) A7 c4 c7 xs xs w7.heap.size w7 (Sl.more X7.out (by omega)) Ho7.out (Nat.le_refl _) (by omega) (by omega)).mono ?_
  rintro e w8 ⟨be, hbe, rfl, hb8⟩
  obtain rfl : be = true := hbe.2 rfl
  have b8 := bnext b7 hb8
  have z8 := hb8.size
  have S8 := Lib.hid (Sl.below S7.out hb8 (by omega))
  have X8 := Lib.hid (Sl.below X7.out hb8 (by omega))
  have FX8 := Lib.hid (FX7.out.below hb8 (fun b e => by simp [blk] at e; omega))
  have G8 := Lib.hid (Sl.below G7.out hb8 (by omega))
  have FG8 := Lib.hid (FG7.out.below hb8 (fun b e => by have := (K5.out b e).2; omega))
  clear hbe hb8 S7 X7 FX7 G7 FG7 b7 Ho7
  go_wp2_with fail
  refine (markBucketS_any (some ⟨g4, 0, none⟩) c4 1 xs w4.heap.size w8 X8.out FX8.out (by omega) (by omega) (by omega) (by omega)).mono ?_
  rintro e w9 ⟨rfl, _, hg9, _⟩
  have z9 := hg9.size
  have zw := b8.size
  have b9 : Below w.heap.size w w9 := b8.trans (below_of_grown hg9 b8.size (fun g e => by simp [blk] at e; omega))
  have S9 := Lib.hid (Sl.grown S8.out hg9 (by omega) (by
    cases hA : blk A3 with
    | none => exact Or.inl rfl
    | some b => exact Or.inr (fun e => by simp [blk] at e; have := (K3.out b hA).2; omega)))
  have G9 := Lib.hid (Sl.grown G8.out hg9 (by omega) (by
    cases hA : blk A5 with
    | none => exact Or.inl rfl
    | some b => exact Or.inr (fun e => by simp [blk] at e; have := (K5.out b hA).1; omega)))
  have FG9 := Lib.hid (Free.grown FG8.out hg9 (fun b e => ⟨by have := (K5.out b e).2; omega, fun e' => by simp [blk] at e'; have := (K5.out b e).1; omega⟩))
  clear S8 X8 FX8 G8 FG8 hg9 b8
  have hp1 : ¬ (1 + 7 * (xs.length : Int)) < 0 := by omega
  generalize (1 + 7 * (xs.length : Int)) = q1 at *
  have hd1 : decide (q1 < 0) = false := by simpa using hp1
  clear hp1
  go_wp2_with fail
  refine (eqBucketS_any A5 A3 c5 c3 L L w5.heap.size w9 G9.out (Sl.more S9.out (by omega)) (by omega) (by omega) (by omega)).mono ?_
  rintro e w10 ⟨be, hbe, rfl, hb10⟩
  obtain rfl : be = true := hbe.2 rfl
  have b10 := bnext b9 hb10
  have z10 := hb10.size
  have S10 := Lib.hid (Sl.below S9.out hb10 (by omega))
  have G10 := Lib.hid (Sl.below G9.out hb10 (by omega))
  have FG10 := Lib.hid (FG9.out.below hb10 (fun b e => by have := (K5.out b e).2; omega))
  clear hbe hb10 S9 G9 FG9 b9
  go_wp2_with fail
  refine (markBucketS_any A5 c5 1 L w5.heap.size w10 G10.out FG10.out (by omega) (by omega) (by omega) (by omega)).mono ?_
  rintro e w11 ⟨rfl, hm11, hg11, _⟩
  have z11 := hg11.size
  have zw := b10.size
  have b11 : Below w.heap.size w w11 := b10.trans (below_of_grown hg11 b10.size (fun g e => by have := (K5.out g e).1; omega))
  have S11 := Lib.hid (Sl.grown S10.out hg11 (by omega) (by
    cases hA : blk A3 with
    | none => exact Or.inl rfl
    | some b => exact Or.inr (fun e => by have := (K3.out b hA).2; have := (K5.out b e.symm).1; omega)))
  have M11 := Lib.hid hm11
  clear S10 G10 FG10 hg11 hm11 b10
  have hp : ¬ (1 + 7 * (L.length : Int)) < 0 := by omega
  generalize hq : (1 + 7 * (L.length : Int)) = q at *
  have HQ := Lib.hid hq; clear hq
  have hd0 : decide (q < 0) = false := by simpa using hp
  have hdq : (q != q) = false := by simp
  clear hp
  go_wp2_with fail
  refine (heldBucketS_any A5 c5 L.length 1 w5.heap.size w11 M11.out (by omega) (by omega) (by omega) (by omega)).mono ?_
  rw [HQ.out]
  rintro e w12 ⟨rfl, hb12⟩
  have b12 := bnext b11 hb12
  have z12 := hb12.size
  have S12 := Lib.hid (Sl.below S11.out hb12 (by omega))
  have M12 := Lib.hid (Sl.below M11.out hb12 (by omega))
  clear hb12 S11 M11 b11
  go_wp2_with fail
  refine (toBucketS_at A c xs w.heap.size w12 (Sl.below H.out b12 (Nat.le_refl _)) b12.size hlen).mono ?_
  rintro e w13 ⟨g13, c13, rfl, ho13, hf13, hg13, hgl13, hc13, hb13⟩
  have b13 := bnext b12 hb13
  have z13 := hb13.size
  have S13 := Lib.hid (Sl.below S12.out hb13 (by omega))
  have M13 := Lib.hid (Sl.below M12.out hb13 (by omega))
  have X13 := Lib.hid ho13
  clear S12 M12 ho13 hf13 hb13 b12
  go_wp2_with fail
  refine (rollUp_any g13 0 c13 xs f t w13.heap.size w13 X13.out (Nat.le_refl _) hlen hc13).mono ?_
  rintro e w14 ⟨L', cd', A14, c14, rfl, hr', hs14, hf14, hk14, hc14, hb14⟩
  obtain ⟨rfl, rfl⟩ := Hr.out.one hr'
  have b14 := bnext b13 hb14
  have z14 := hb14.size
  have S14 := Lib.hid (Sl.below S13.out hb14 (by omega))
  have M14 := Lib.hid (Sl.below M13.out hb14 (by omega))
  have G14 := Lib.hid hs14
  clear S13 M13 X13 hs14 hf14 hk14 hr' hb14 b13
  go_wp2_with fail
  refine (eqBucketS_any A14 A3 c14 c3 L L w14.heap.size w14 G14.out (Sl.more S14.out (by omega)) (Nat.le_refl _) (by omega) (by omega)).mono ?_
  rintro e w15 ⟨be, hbe, rfl, hb15⟩
  obtain rfl : be = true := hbe.2 rfl
  have b15 := bnext b14 hb15
  have z15 := hb15.size
  have M15 := Lib.hid (Sl.below M14.out hb15 (by omega))
  clear hbe hb15 S14 M14 G14 b14
  go_wp2_with fail
  refine (heldBucketS_any A5 c5 L.length 1 w5.heap.size w15 M15.out (by omega) (by omega) (by omega) (by omega)).mono ?_
  rw [HQ.out]
  rintro e w16 ⟨rfl, hb16⟩
  have b16 := bnext b15 hb16
  clear hb16 M15 b15
  go_wp2
  go_ret
  exact ⟨rfl, b16⟩

theorem own : ownKnob Try.prog.godebug = none := by kernel_rfl
theorem laidOut : laidOutB Try.prog = true := by kernel_rfl

set_option maxRecDepth 100000 in
theorem lifted (os : Os) (started : os.Started) (H : Type) (enc : TypeId × Value → H) :
    ReturnsInHanded {} Try.checked os 5 .any (Rows.fnExactRollUpSpec.pre6 enc Try.prog Try.f5 Rows.fnExactRollUpRow.domain false) (Rows.fnExactRollUpSpec.post enc Try.prog Try.f5 false true false false) := by
  refine returnsInHanded_of_change (C := Try.checked) own started (by kernel_rfl) Try.func5
    (ChangeSpec.witness6 (enc := enc) (C := Try.checked) false ⟨#[], #[.slice none 0 0, .int .i64 0, .int .i64 0], []⟩ 8 (by kernel_rfl) (by kernel_rfl) (by kernel_rfl) (by kernel_rfl)) ?_
  intro W base args ds gs before hval0 hW hcnd _
  have hval : ∀ (j : Nat) t v, Try.f5.params[j]? = some t → args[j]? = some v → Value.okWide Try.prog W .any base t v := hval0
  have hW' := hW
  obtain ⟨p, q, hA0, hV, rfl, hfz, hnd⟩ := hW
  have hA : DataW.TrodAll enc Try.prog W 0 (fun _ => true) true Try.f5.params.toList args.toList ds p := hA0
  rw [Try.params5] at hA hval
  obtain ⟨v0, vs0, d0, ds0, p0, q0, hargs, rfl, rfl, h0, r0⟩ := trodAll_cons hA
  obtain ⟨v1, vs1, d1, ds1, p1, q1, rfl, rfl, rfl, h1, r1⟩ := trodAll_cons r0
  obtain ⟨v2, vs2, d2, ds2, p2, q2, rfl, rfl, rfl, h2, r2⟩ := trodAll_cons r1
  obtain ⟨rfl, rfl, rfl⟩ := trodAll_nil r2
  obtain rfl : args = #[v0, v1, v2] := by cases args; simp_all
  obtain ⟨rfl, rfl⟩ := trodVars_none hV
  have k0 := h0
  have lt0 : ∀ x ∈ p0, x.block < W.heap.size := by obtain ⟨m, hm⟩ := k0; exact DataW.trod_lt m _ _ _ hm
  obtain ⟨A0, c0, xs0, rfl, ob0, ft0, ln0⟩ := open_lbkts (hval 0 40 v0 rfl rfl) h0
  have k1 := h1
  have lt1 : ∀ x ∈ p1, x.block < W.heap.size := by obtain ⟨m, hm⟩ := k1; exact DataW.trod_lt m _ _ _ hm
  obtain ⟨i1, rfl, hd1, hp1, wi1⟩ := open_int Try.underlying3 (hval 1 3 v1 rfl rfl) h1
  have k2 := h2
  have lt2 : ∀ x ∈ p2, x.block < W.heap.size := by obtain ⟨m, hm⟩ := k2; exact DataW.trod_lt m _ _ _ hm
  obtain ⟨i2, rfl, hd2, hp2, wi2⟩ := open_int Try.underlying3 (hval 2 3 v2 rfl rfl) h2
  clear hA0 hval0
  refine (walk A0 c0 xs0 i1 i2 W ob0 ln0).mono fun e W' ⟨he, bel⟩ => ?_
  subst he
  exact ⟨_, rfl, _, _, _, [], _, [], hW', trodAll_mk1 (shut_bool Try.underlying4 _), (trodAll_cons_mk (Below.trod laidOut (by kernel_rfl) (of_decide_eq_true (by kernel_rfl)) k0 bel lt0) (trodAll_cons_mk (Below.trod laidOut (by kernel_rfl) (of_decide_eq_true (by kernel_rfl)) k1 bel lt1) (trodAll_cons_mk (Below.trod laidOut (by kernel_rfl) (of_decide_eq_true (by kernel_rfl)) k2 bel lt2) trodAll_mk0))), rfl, bel.frame _, fun h => by cases h⟩

theorem over : Rows.fnExactRollUpRow.holds Try.pinned (OpenSpec.ofChange Rows.fnExactRollUpSpec) :=
  OpenClaim.holds_of_wide 5 Try.f5 rfl rfl rfl rfl rfl rfl rfl ⟨rfl, rfl, rfl, rfl, rfl⟩ rfl rfl rfl rfl rfl (by kernel_rfl) Try.func5 (by kernel_rfl)
    (of_decide_eq_true (by kernel_rfl)) (by unfold Func.isWrapper; first | (rw [if_pos (by decide +kernel)]; kernel_rfl) | (rw [if_neg (by decide +kernel)]; exact ⟨rfl, rfl⟩))
    (fun os started H enc _ => lifted os started H enc)

theorem proved : Rows.FnExactRollUpSaid := over
#print axioms proved
end Go.Proofs.Ytkpaocejpjhkpaa.fnExactRollUp
