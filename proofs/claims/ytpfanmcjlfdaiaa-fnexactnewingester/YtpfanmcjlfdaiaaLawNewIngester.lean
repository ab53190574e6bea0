/-
  'laws.FnExactNewIngester' answers true at every number: NewIngester answers as its model does, in memory of its own. Conditions: none.
-/
import Derived.Test.YtpfanmcjlfdaiaaNewI
import Derived.WalkKit
import Derived.ProofKit
import Derived.OpenShut
import Derived.Deep.DeepCutAuto
import Derived.Deep.MidRow
namespace Go.Proofs.Ytpfanmcjlfdaiaa.fnExactNewIngester
open Go.ChangeShapes Go.WideShapes Go.ChangeAt Go.RowKit
set_option linter.unusedVariables false

theorem infoIng : (Try.prog.info? 24).map (·.size) = some 6 := by kernel_rfl

set_option maxRecDepth 100000 in
set_option maxHeartbeats 4000000 in
theorem walk (id : Int) (w : World) :
    Calls Try.prog 3 #[.int .i64 id] w fun e w' => e = .returned (.bool true) ∧ Below w.heap.size w w' := by
  go_enter Try.func3, Try.ntmps3
  go_wp2_with fail
  refine (specNewIngester_any id w).mono ?_
  rintro e w1 ⟨A1, c1, i, cd, hv, rfl, _, _, hb1⟩
  have Hv := Lib.hid hv; clear hv
  go_upto_region 2 with fail
  -- the model's answer is kept
  obtain ⟨w2, hw2⟩ : ∃ W, W = w1.alloc (.cells #[.int .i64 i, .int .i64 0, .int .i64 0, .int .i64 0, .slice A1 0 c1, .bool false] 24) := ⟨_, rfl⟩
  obtain ⟨LT, hLT⟩ : ∃ L : List Value, L = [.int .i64 i, .int .i64 0, .int .i64 0, .int .i64 0, .slice A1 0 c1, .bool false] := ⟨_, rfl⟩
  have T2 : Hid (Cells w2 w1.heap.size 0 LT) := Lib.hid (by rw [hw2, hLT]; exact Cells.new _ _ _)
  have lenT : LT.length = 6 := by rw [hLT]; rfl
  have HLT := Lib.hid hLT; clear hLT
  have HNT := Lib.hid lenT; clear lenT
  have hb2 : Below w1.heap.size w1 w2 := by rw [hw2]; exact bal (Below.refl _ _) _
  have y2 : w1.heap.size < w2.heap.size := by rw [hw2]; simp
  rw [← hw2]
  clear hw2
  generalize (Value.agg #[.int .i64 i, .int .i64 0, .int .i64 0, .int .i64 0, .slice A1 0 c1, .bool false]) = va2
  have b2 : Below w.heap.size w w2 := bnext hb1 hb2
  clear hb1 hb2
  generalize w1.heap.size = x1 at *
  go_wp2_with fail
  refine (newIngester_any id w2).mono ?_
  rintro e w3 ⟨A3, c3, i', cd', hv, rfl, hf3, hbl3, hb3⟩
  obtain ⟨rfl, rfl⟩ := Hv.out.one hv
  clear hv
  have F3 := Lib.hid hf3; have L3 := Lib.hid hbl3; clear hf3 hbl3
  have T3 := Lib.hid (T2.out.below hb3 y2)
  have b3 : Below w.heap.size w w3 := bnext b2 hb3
  have y3 : x1 < w3.heap.size := Nat.lt_of_lt_of_le y2 hb3.size
  have z3 : w2.heap.size ≤ w3.heap.size := hb3.size
  have q2 : w.heap.size ≤ w2.heap.size := b2.size
  clear T2 hb3 b2
  go_upto_region 3 with fail
  obtain ⟨w4, hw4⟩ : ∃ W, W = w3.alloc (.cells #[.int .i64 i, .int .i64 0, .int .i64 0, .int .i64 0, .slice A3 0 c3, .bool false] 24) := ⟨_, rfl⟩
  obtain ⟨LU, hLU⟩ : ∃ L : List Value, L = [.int .i64 i, .int .i64 0, .int .i64 0, .int .i64 0, .slice A3 0 c3, .bool false] := ⟨_, rfl⟩
  have U4 : Hid (Cells w4 w3.heap.size 0 LU) := Lib.hid (by rw [hw4, hLU]; exact Cells.new _ _ _)
  have lenU : LU.length = 6 := by rw [hLU]; rfl
  have HLU := Lib.hid hLU; clear hLU
  have HNU := Lib.hid lenU; clear lenU
  have hb4 : Below w3.heap.size w3 w4 := by rw [hw4]; exact bal (Below.refl _ _) _
  have y4 : w3.heap.size < w4.heap.size := by rw [hw4]; simp
  rw [← hw4]
  clear hw4
  generalize (Value.agg #[.int .i64 i, .int .i64 0, .int .i64 0, .int .i64 0, .slice A3 0 c3, .bool false]) = va4
  have T4 := Lib.hid (T3.out.below hb4 y3)
  have F4 := Lib.hid (F3.out.below hb4 (fun b e => (L3.out b e).2))
  have b4 : Below w.heap.size w w4 := bnext b3 hb4
  have L4 : Hid (∀ b, blk A3 = some b → w2.heap.size ≤ b ∧ b < w3.heap.size) := L3
  clear T3 F3 L3 hb4 b3
  have q4 : w3.heap.size < w4.heap.size := y4
  have q1 : x1 < w2.heap.size := y2
  generalize w2.heap.size = x2 at *
  generalize w3.heap.size = x3 at *
  apply wp_region_lit
  refine wpList_load_mid rfl 24 (.tmp 5) rfl x3 0 rfl LU _ (fun j v hv => U4.out j v hv) Try.underlying24 rfl (infoIng.trans (by rw [HNU.out])) ?_
  simp only [Act.put, List.setIfInBounds_toArray, List.set_cons_zero, List.set_cons_succ]
  refine wpList_load_mid rfl 24 (.tmp 3) rfl x1 0 rfl LT _ (fun j v hv => T4.out j v hv) Try.underlying24 rfl (infoIng.trans (by rw [HNT.out])) ?_
  simp only [Act.put, List.setIfInBounds_toArray, List.set_cons_zero, List.set_cons_succ]
  have hq : Calls Try.prog 9 #[.agg LU.toArray, .agg LT.toArray] w4 (IsBB (nIng i = nIng i) w4) := by
    rw [HLU.out, HLT.out]
    exact eqIngester_any A3 c3 A1 c1 (nIng i) (nIng i) 0 w4 Sl.nil Sl.nil (Nat.zero_le _) (by simp [nIng]) (by simp [nIng])
  have dcd : (cd != cd) = false := by simp
  have dcd2 : (cd == cd) = true := by simp
  have Hq := Lib.hid hq; clear hq
  go_wp2_with fail
  refine Hq.out.mono ?_
  rintro e w5 ⟨be, hbe, rfl, hb5⟩
  obtain rfl : be = true := hbe.2 (by trivial)
  clear hbe Hq
  have T5 := Lib.hid (T4.out.below hb5 (by omega))
  have U5 := Lib.hid (U4.out.below hb5 (by omega))
  have F5 := Lib.hid (F4.out.below hb5 (fun b e => by have := L4.out b e; omega))
  have b5 : Below w.heap.size w w5 := bnext b4 hb5
  have y5 : x3 < w5.heap.size := Nat.lt_of_lt_of_le y4 hb5.size
  clear T4 U4 F4 hb5 b4
  go_upto_region 6 with fail
  apply wp_region_lit
  refine wpList_load_mid rfl 24 (.tmp 5) rfl x3 0 rfl LU _ (fun j v hv => U5.out j v hv) Try.underlying24 rfl (infoIng.trans (by rw [HNU.out])) ?_
  simp only [Act.put, List.setIfInBounds_toArray, List.set_cons_zero, List.set_cons_succ]
  have hq : Calls Try.prog 10 #[.agg LU.toArray, .int .i64 1] w5 fun e w' => e = .returned (.int .i64 1) ∧ w5.grownBy w' (blk A3) := by
    rw [HLU.out]
    exact (markIngester_any A3 c3 (nIng i) 1 w5 Sl.nil x2 F5.out (fun b e => by have := L4.out b e; omega) (by simp [nIng]) (by omega) (by omega)).mono (fun e w' h => ⟨by rw [h.1]; simp [nIng], h.2.2.2⟩)
  have Hq := Lib.hid hq; clear hq
  go_wp2_with fail
  refine Hq.out.mono ?_
  rintro e w6 ⟨rfl, hg6⟩
  have hb6 : Below x2 w5 w6 := below_of_grown hg6 (by omega) (fun g e => (L4.out g e).1)
  have T6 := Lib.hid (T5.out.below hb6 q1)
  have nq : ∀ b, blk A3 = some b → b ≠ x3 := fun b e => by have := L4.out b e; omega
  have U6 : Hid (Cells w6 x3 0 LU) := Lib.hid (fun j v hv => (World.cell?_of_block (a := ⟨x3, 0 + j, none⟩) (hg6.block x3 y5 (fun e => nq x3 e.symm rfl))).trans (U5.out j v hv))
  have b6 : Below w.heap.size w w6 := b5.trans (hb6.mono q2)
  have y6 : x3 < w6.heap.size := by have := hb6.size; omega
  clear T5 U5 F5 hb6 hg6 b5 Hq dcd dcd2 nq
  go_upto_region 8 with fail
  apply wp_region_lit
  refine wpList_load_mid rfl 24 (.tmp 5) rfl x3 0 rfl LU _ (fun j v hv => U6.out j v hv) Try.underlying24 rfl (infoIng.trans (by rw [HNU.out])) ?_
  simp only [Act.put, List.setIfInBounds_toArray, List.set_cons_zero, List.set_cons_succ]
  have hq : Calls Try.prog 11 #[.agg LU.toArray, .int .i64 1] w6 fun e w' => e = .returned (.int .i64 1) ∧ Below w6.heap.size w6 w' := by
    rw [HLU.out]
    exact (heldIngester_any A3 c3 (nIng i) 1 0 w6 Sl.nil (Nat.zero_le _) (by simp [nIng]) (by omega) (by omega)).mono (fun e w' h => ⟨by rw [h.1]; simp [nIng], h.2⟩)
  have Hq := Lib.hid hq; clear hq
  go_wp2_with fail
  refine Hq.out.mono ?_
  rintro e w7 ⟨rfl, hb7⟩
  clear Hq
  have T7 := Lib.hid (T6.out.below hb7 (by omega))
  have U7 := Lib.hid (U6.out.below hb7 (by omega))
  have b7 : Below w.heap.size w w7 := bnext b6 hb7
  have y7 : x3 < w7.heap.size := Nat.lt_of_lt_of_le y6 hb7.size
  clear T6 U6 hb7 b6
  go_wp2_with fail
  refine (newIngester_any id w7).mono ?_
  rintro e w8 ⟨A8, c8, i', cd', hv, rfl, _, _, hb8⟩
  obtain ⟨rfl, rfl⟩ := Hv.out.one hv
  clear hv
  have T8 := Lib.hid (T7.out.below hb8 (by omega))
  have U8 := Lib.hid (U7.out.below hb8 (by omega))
  have b8 : Below w.heap.size w w8 := bnext b7 hb8
  have y8 : x3 < w8.heap.size := Nat.lt_of_lt_of_le y7 hb8.size
  clear T7 U7 hb8 b7
  go_upto_region 14 with fail
  obtain ⟨w9, hw9⟩ : ∃ W, W = w8.alloc (.cells #[.int .i64 i, .int .i64 0, .int .i64 0, .int .i64 0, .slice A8 0 c8, .bool false] 24) := ⟨_, rfl⟩
  obtain ⟨LV, hLV⟩ : ∃ L : List Value, L = [.int .i64 i, .int .i64 0, .int .i64 0, .int .i64 0, .slice A8 0 c8, .bool false] := ⟨_, rfl⟩
  have V9 : Hid (Cells w9 w8.heap.size 0 LV) := Lib.hid (by rw [hw9, hLV]; exact Cells.new _ _ _)
  have lenV : LV.length = 6 := by rw [hLV]; rfl
  have HLV := Lib.hid hLV; clear hLV
  have HNV := Lib.hid lenV; clear lenV
  have hb9 : Below w8.heap.size w8 w9 := by rw [hw9]; exact bal (Below.refl _ _) _
  have y9 : w8.heap.size < w9.heap.size := by rw [hw9]; simp
  rw [← hw9]
  clear hw9
  generalize (Value.agg #[.int .i64 i, .int .i64 0, .int .i64 0, .int .i64 0, .slice A8 0 c8, .bool false]) = va9
  have T9 := Lib.hid (T8.out.below hb9 (by omega))
  have U9 := Lib.hid (U8.out.below hb9 (by omega))
  have b9 : Below w.heap.size w w9 := bnext b8 hb9
  have y93 : x3 < w9.heap.size := by omega
  clear T8 U8 hb9 b8
  generalize w8.heap.size = x8 at *
  apply wp_region_lit
  refine wpList_load_mid rfl 24 (.tmp 9) rfl x8 0 rfl LV _ (fun j v hv => V9.out j v hv) Try.underlying24 rfl (infoIng.trans (by rw [HNV.out])) ?_
  simp only [Act.put, List.setIfInBounds_toArray, List.set_cons_zero, List.set_cons_succ]
  refine wpList_load_mid rfl 24 (.tmp 3) rfl x1 0 rfl LT _ (fun j v hv => T9.out j v hv) Try.underlying24 rfl (infoIng.trans (by rw [HNT.out])) ?_
  simp only [Act.put, List.setIfInBounds_toArray, List.set_cons_zero, List.set_cons_succ]
  have hq : Calls Try.prog 9 #[.agg LV.toArray, .agg LT.toArray] w9 (IsBB (nIng i = nIng i) w9) := by
    rw [HLV.out, HLT.out]
    exact eqIngester_any A8 c8 A1 c1 (nIng i) (nIng i) 0 w9 Sl.nil Sl.nil (Nat.zero_le _) (by simp [nIng]) (by simp [nIng])
  have dcd : (cd != cd) = false := by simp
  have dcd2 : (cd == cd) = true := by simp
  have Hq := Lib.hid hq; clear hq
  go_wp2_with fail
  refine Hq.out.mono ?_
  rintro e w10 ⟨be, hbe, rfl, hb10⟩
  obtain rfl : be = true := hbe.2 (by trivial)
  clear hbe Hq
  have U10 := Lib.hid (U9.out.below hb10 y93)
  have b10 : Below w.heap.size w w10 := bnext b9 hb10
  clear T9 U9 V9 hb10 b9
  go_upto_region 17 with fail
  apply wp_region_lit
  refine wpList_load_mid rfl 24 (.tmp 5) rfl x3 0 rfl LU _ (fun j v hv => U10.out j v hv) Try.underlying24 rfl (infoIng.trans (by rw [HNU.out])) ?_
  simp only [Act.put, List.setIfInBounds_toArray, List.set_cons_zero, List.set_cons_succ]
  have hq : Calls Try.prog 11 #[.agg LU.toArray, .int .i64 1] w10 fun e w' => e = .returned (.int .i64 1) ∧ Below w10.heap.size w10 w' := by
    rw [HLU.out]
    exact (heldIngester_any A3 c3 (nIng i) 1 0 w10 Sl.nil (Nat.zero_le _) (by simp [nIng]) (by omega) (by omega)).mono (fun e w' h => ⟨by rw [h.1]; simp [nIng], h.2⟩)
  have Hq := Lib.hid hq; clear hq
  go_wp2_with fail
  refine Hq.out.mono ?_
  rintro e w11 ⟨rfl, hb11⟩
  clear Hq
  have b11 : Below w.heap.size w w11 := bnext b10 hb11
  clear hb11 b10 U10
  go_wp2
  go_ret
  exact ⟨rfl, b11⟩

theorem own : ownKnob Try.prog.godebug = none := by kernel_rfl
theorem laidOut : laidOutB Try.prog = true := by kernel_rfl

set_option maxRecDepth 100000 in
theorem lifted (os : Os) (started : os.Started) (H : Type) (enc : TypeId × Value → H) :
    ReturnsInHanded {} Try.checked os 3 .any (Rows.fnExactNewIngesterSpec.pre6 enc Try.prog Try.f3 Rows.fnExactNewIngesterRow.domain false) (Rows.fnExactNewIngesterSpec.post enc Try.prog Try.f3 false true false false) := by
  refine returnsInHanded_of_change (C := Try.checked) own started (by kernel_rfl) Try.func3
    (ChangeSpec.witness6 (enc := enc) (C := Try.checked) false ⟨#[], #[.int .i64 0], []⟩ 8 (by kernel_rfl) (by kernel_rfl) (by kernel_rfl) (by kernel_rfl)) ?_
  intro W base args ds gs before hval0 hW hcnd _
  have hval : ∀ (j : Nat) t v, Try.f3.params[j]? = some t → args[j]? = some v → Value.okWide Try.prog W .any base t v := hval0
  have hW' := hW
  obtain ⟨p, q, hA0, hV, rfl, hfz, hnd⟩ := hW
  have hA : DataW.TrodAll enc Try.prog W 0 (fun _ => true) true Try.f3.params.toList args.toList ds p := hA0
  rw [Try.params3] at hA hval
  obtain ⟨v0, vs0, d0, ds0, p0, q0, hargs, rfl, rfl, h0, r0⟩ := trodAll_cons hA
  obtain ⟨rfl, rfl, rfl⟩ := trodAll_nil r0
  obtain rfl : args = #[v0] := by cases args; simp_all
  obtain ⟨rfl, rfl⟩ := trodVars_none hV
  have k0 := h0
  have lt0 : ∀ x ∈ p0, x.block < W.heap.size := by obtain ⟨m, hm⟩ := k0; exact DataW.trod_lt m _ _ _ hm
  obtain ⟨i0, rfl, hd0, hp0, wi0⟩ := open_int Try.underlying3 (hval 0 3 v0 rfl rfl) h0
  clear hA0 hval0
  refine (walk i0 W).mono fun e W' ⟨he, bel⟩ => ?_
  subst he
  exact ⟨_, rfl, _, _, _, [], _, [], hW', trodAll_mk1 (shut_bool Try.underlying4 _), (trodAll_cons_mk (Below.trod laidOut (by kernel_rfl) (of_decide_eq_true (by kernel_rfl)) k0 bel lt0) trodAll_mk0), rfl, bel.frame _, fun h => by cases h⟩

theorem over : Rows.fnExactNewIngesterRow.holds Try.pinned (OpenSpec.ofChange Rows.fnExactNewIngesterSpec) :=
  OpenClaim.holds_of_wide 3 Try.f3 rfl rfl rfl rfl rfl rfl rfl ⟨rfl, rfl, rfl, rfl, rfl⟩ rfl rfl rfl rfl rfl (by kernel_rfl) Try.func3 (by kernel_rfl)
    (of_decide_eq_true (by kernel_rfl)) (by unfold Func.isWrapper; first | (rw [if_pos (by decide +kernel)]; kernel_rfl) | (rw [if_neg (by decide +kernel)]; exact ⟨rfl, rfl⟩))
    (fun os started H enc _ => lifted os started H enc)

theorem proved : Rows.FnExactNewIngesterSaid := over
#print axioms proved
end Go.Proofs.Ytpfanmcjlfdaiaa.fnExactNewIngester
