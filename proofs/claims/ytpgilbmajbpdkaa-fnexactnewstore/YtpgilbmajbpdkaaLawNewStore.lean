/-
  'laws.FnExactNewStore' answers true: NewStore answers as its model does, in new memory each time. Conditions: none.
-/
import Derived.Test.YtpgilbmajbpdkaaMarkStore
namespace Go.Proofs.Ytpgilbmajbpdkaa.fnExactNewStore
open Go.ChangeShapes Go.WideShapes Go.ChangeAt Go.RowKit
set_option linter.unusedVariables false

theorem walk (w : World) :
    Calls Try.prog 7 #[] w fun e w' => e = .returned (.bool true) ∧ Below w.heap.size w w' := by
  go_enter Try.func7, Try.ntmps7
  go_wp2_with fail
  refine (specNewStore_any w).mono ?_
  rintro e w1 ⟨A1, c1, rfl, ho1, hf1, hbl1, hc1, hb1⟩
  have Ho1 := Lib.hid ho1; clear ho1 hf1 hbl1
  simp only [List.length_nil]
  go_wp2_with fail
  have t1 := Two.new w1 (.slice A1 0 c1) (.int .i64 1) 25
  have hW1 : Below w.heap.size w (w1.alloc (.cells #[.slice A1 0 c1, .int .i64 1] 25)) := bal hb1 _
  have s1 : w1.heap.size < (w1.alloc (.cells #[.slice A1 0 c1, .int .i64 1] 25)).heap.size := by simp
  generalize w1.alloc (.cells #[.slice A1 0 c1, .int .i64 1] 25) = W1 at t1 hW1 s1 ⊢
  generalize w1.heap.size = x1 at t1 s1 ⊢
  refine (newStore_any W1).mono ?_
  rintro e w2 ⟨A2, c2, rfl, ho2, hf2, hbl2, hc2, hb2⟩
  simp only [List.length_nil]
  obtain ⟨t10, t11⟩ := t1.below hb2 s1
  have s2 : x1 < w2.heap.size := by have := hb2.size; omega
  have s0 : w.heap.size ≤ W1.heap.size := hW1.size
  have hW2 : Below w.heap.size w w2 := bnext hW1 hb2
  have Hbl := Lib.hid hbl2
  clear hb1 hW1 hb2 hbl2 t1 ho2 hc1 hc2 Ho1
  have Hf2 := Lib.hid hf2; clear hf2
  go_wp2_with fail
  obtain ⟨W3, hW3⟩ : ∃ W3, W3 = w2.alloc (.cells #[.slice A2 0 c2, .int .i64 1] 25) := ⟨_, rfl⟩
  have t1 : Two W3 x1 (.slice A1 0 c1) (.int .i64 1) := by rw [hW3]; exact Two.alloc ⟨t10, t11⟩ s2 _
  have t2 : Two W3 w2.heap.size (.slice A2 0 c2) (.int .i64 1) := by rw [hW3]; exact Two.new _ _ _ _
  have b3 : Below w.heap.size w W3 := by rw [hW3]; exact bal hW2 _
  have z3 : w2.heap.size < W3.heap.size := by rw [hW3]; simp
  have F3 : Free W3 A2 := by rw [hW3]; exact Hf2.out.below (bal (Below.refl _ _) _) (fun b e => (Hbl.out b e).2)
  have bl2 : ∀ b, blk A2 = some b → b ≠ x1 ∧ b ≠ w2.heap.size ∧ b < W3.heap.size ∧ w.heap.size ≤ b := fun b e => by have := Hbl.out b e; exact ⟨by omega, by omega, by omega, by omega⟩
  rw [← hW3]
  clear hW3 t10 t11 hW2 Hbl Hf2
  generalize w2.heap.size = x2 at *
  have Bl2 := Lib.hid bl2; clear bl2
  have HF3 := Lib.hid F3; clear F3
  have T1 := Lib.hid t1; clear t1
  have T2 := Lib.hid t2; clear t2
  refine (eqStore_any A2 A1 c2 c1 1 1 [] [] 0 W3 Sl.nil Sl.nil (Nat.zero_le _) (by simp) (by simp)).mono ?_
  rintro e W4 ⟨b, hb, rfl, hb4⟩
  obtain rfl : b = true := hb.2 ⟨rfl, rfl⟩
  clear hb
  obtain ⟨t20, t21⟩ := T2.out.below hb4 z3
  go_wp2_with fail
  refine (markStore_any A2 c2 1 1 [] 0 W4 Sl.nil (HF3.out.below hb4 (fun b e => (Bl2.out b e).2.2.1)) (fun b e => Nat.lt_of_lt_of_le (Bl2.out b e).2.2.1 hb4.size) (Nat.zero_le _) (by simp) (by omega) (by omega)).mono ?_
  rintro e W5 ⟨rfl, ho5, hg5, hf5⟩
  have t1 : Two W5 x1 (.slice A1 0 c1) (.int .i64 1) := (T1.out.below hb4 (by omega)).grown hg5 (by have := hb4.size; omega) (fun g e => (Bl2.out g e).1)
  have t2 : Two W5 x2 (.slice A2 0 c2) (.int .i64 1) := (T2.out.below hb4 z3).grown hg5 (by have := hb4.size; omega) (fun g e => (Bl2.out g e).2.1)
  have b5 : Below w.heap.size w W5 := (bnext b3 hb4).trans (below_of_grown hg5 (bnext b3 hb4).size (fun g e => (Bl2.out g e).2.2.2))
  have z5 : x2 < W5.heap.size := by have := hb4.size; have := hg5.size; omega
  have bl5 : ∀ b, blk A2 = some b → b < W5.heap.size := fun b e => by have := (Bl2.out b e).2.2.1; have := hb4.size; have := hg5.size; omega
  have Bl5 := Lib.hid bl5
  clear bl5 hb4 hg5 b3 T1 T2 t20 t21 ho5 HF3 hf5 Bl2
  simp only [List.length_nil, Int.natCast_zero, Int.mul_zero, Int.add_zero]
  have T1 := Lib.hid t1; clear t1
  have T2 := Lib.hid t2
  obtain ⟨t20, t21⟩ := t2
  go_wp2_with fail
  refine (heldStore_any A2 c2 0 1 1 0 W5 (Sl.nil (f := GObj.vals)) (Nat.zero_le _) (by omega) (by omega) (by omega)).mono ?_
  rintro e W6 ⟨rfl, hb6⟩
  have b6 : Below w.heap.size w W6 := bnext b5 hb6
  have z6 : x2 < W6.heap.size := by have := hb6.size; omega
  have T16 := Lib.hid (T1.out.below hb6 (by omega))
  have T26 := Lib.hid (T2.out.below hb6 (by omega))
  clear t20 t21 hb6 T1 T2 b5
  simp only [Int.natCast_zero, Int.mul_zero, Int.add_zero]
  go_wp2_with fail
  refine (newStore_any W6).mono ?_
  rintro e w7 ⟨A7, c7, rfl, ho7, hf7, hbl7, hc7, hb7⟩
  simp only [List.length_nil]
  have b7 : Below w.heap.size w w7 := bnext b6 hb7
  have z7 : x2 < w7.heap.size := by have := hb7.size; omega
  have T17 := Lib.hid (T16.out.below hb7 (by omega))
  have T27 := Lib.hid (T26.out.below hb7 (by omega))
  obtain ⟨t10, t11⟩ := T17.out
  obtain ⟨t20, t21⟩ := T27.out
  have z17 : x1 < w7.heap.size := by omega
  clear ho7 hf7 hbl7 hc7 hb7 T16 T26 b6
  go_wp2_with fail
  refine (eqStore_any A7 A1 c7 c1 1 1 [] [] 0 _ Sl.nil Sl.nil (Nat.zero_le _) (by simp) (by simp)).mono ?_
  rintro e W8 ⟨b, hb, rfl, hb8⟩
  obtain rfl : b = true := hb.2 ⟨rfl, rfl⟩
  clear hb
  have b8 : Below w.heap.size w W8 := bnext (bal b7 _) hb8
  have T28 := (T27.out.alloc z7 _).below hb8 (by simp; omega)
  clear t10 t11 t20 t21 T17 T27 b7 hb8
  obtain ⟨t20, t21⟩ := T28
  go_wp2_with fail
  refine (heldStore_any A2 c2 0 1 1 0 W8 (Sl.nil (f := GObj.vals)) (Nat.zero_le _) (by omega) (by omega) (by omega)).mono ?_
  rintro e W9 ⟨rfl, hb9⟩
  have b9 : Below w.heap.size w W9 := bnext b8 hb9
  clear hb9 t20 t21 b8
  simp only [Int.natCast_zero, Int.mul_zero, Int.add_zero]
  go_wp2
  go_ret
  exact ⟨rfl, b9⟩

theorem own : ownKnob Try.prog.godebug = none := by kernel_rfl
theorem laidOut : laidOutB Try.prog = true := by kernel_rfl

set_option maxRecDepth 100000 in
theorem lifted (os : Os) (started : os.Started) (H : Type) (enc : TypeId × Value → H) :
    ReturnsInHanded {} Try.checked os 7 .any (Rows.fnExactNewStoreSpec.pre6 enc Try.prog Try.f7 Rows.fnExactNewStoreRow.domain false) (Rows.fnExactNewStoreSpec.post enc Try.prog Try.f7 false true false false) := by
  refine returnsInHanded_of_change (C := Try.checked) own started (by kernel_rfl) Try.func7
    (ChangeSpec.witness6 (enc := enc) (C := Try.checked) false ⟨#[], #[], []⟩ 8 (by kernel_rfl) (by kernel_rfl) (by kernel_rfl) (by kernel_rfl)) ?_
  intro W base args ds gs before hval0 hW hcnd _
  have hW' := hW
  obtain ⟨p, q, hA0, hV, rfl, hfz, hnd⟩ := hW
  have hA : DataW.TrodAll enc Try.prog W 0 (fun _ => true) true Try.f7.params.toList args.toList ds p := hA0
  rw [Try.params7] at hA
  obtain ⟨rfl, rfl, rfl⟩ := trodAll_none hA
  obtain ⟨rfl, rfl⟩ := trodVars_none hV
  clear hA0 hval0
  refine (walk W).mono fun e W' ⟨he, bel⟩ => ?_
  subst he
  exact ⟨_, rfl, _, _, _, [], _, [], hW', trodAll_mk1 (shut_bool Try.underlying4 _), trodAll_mk0, rfl, bel.frame _, fun h => by cases h⟩

theorem over : Rows.fnExactNewStoreRow.holds Try.pinned (OpenSpec.ofChange Rows.fnExactNewStoreSpec) :=
  OpenClaim.holds_of_wide 7 Try.f7 rfl rfl rfl rfl rfl rfl rfl ⟨rfl, rfl, rfl, rfl, rfl⟩ rfl rfl rfl rfl rfl (by kernel_rfl) Try.func7 (by kernel_rfl)
    (of_decide_eq_true (by kernel_rfl)) (by unfold Func.isWrapper; first | (rw [if_pos (by decide +kernel)]; kernel_rfl) | (rw [if_neg (by decide +kernel)]; exact ⟨rfl, rfl⟩))
    (fun os started H enc _ => lifted os started H enc)

theorem proved : Rows.FnExactNewStoreSaid := over
#print axioms proved
end Go.Proofs.Ytpgilbmajbpdkaa.fnExactNewStore
