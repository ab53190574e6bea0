/-
  'laws.FnExactMeanOf' answers true at every aggregate: MeanOf answers as its model does. Conditions: none.
-/
import Derived.Test.YthcnlgjklbodjabMean
namespace Go.Proofs.Ythcnlgjklbodjab.fnExactMeanOf
open Go.ChangeShapes Go.WideShapes Go.ChangeAt Go.RowKit
set_option linter.unusedVariables false

theorem walk (a : GAgg) (w : World) : Calls Try.prog 12 #[.agg #[.int .i64 a.cnt, .int .i64 a.sum, .int .i64 a.mn, .int .i64 a.mx, .int .i64 a.fst, .int .i64 a.lst]] w fun e w' => e = .returned (.bool true) ∧ Below w.heap.size w w' := by
  go_enter Try.func12, Try.ntmps12
  go_wp2_with fail
  obtain ⟨W, hW⟩ : ∃ W, W = w.alloc (.cells #[.int .i64 a.cnt, .int .i64 a.sum, .int .i64 a.mn, .int .i64 a.mx, .int .i64 a.fst, .int .i64 a.lst] 55) := ⟨_, rfl⟩
  have t0 : Six W w.heap.size a := by rw [hW]; exact Six.new _ _ _
  have b0 : Below w.heap.size w W := by rw [hW]; exact bal (Below.refl _ _) _
  have s0 : w.heap.size < W.heap.size := by rw [hW]; simp
  rw [← hW]
  clear hW
  have T0 := Lib.hid t0; clear t0
  generalize hx0 : w.heap.size = x0 at *
  have Hx0 := Lib.hid hx0; clear hx0
  refine (toAgg_any a W).mono ?_
  rintro e w1 ⟨rfl, hb1⟩
  have b1 : Below x0 w w1 := b0.trans (hb1.mono (by omega))
  have T1 := Lib.hid (T0.out.below hb1 s0)
  have s1 : x0 < w1.heap.size := by have := hb1.size; omega
  clear T0 hb1 b0 s0
  go_wp2_with fail
  refine (specMeanOf_any a w1).mono ?_
  rintro e w2 ⟨q, r, c, rfl, hm, hb2⟩
  have Hm := Lib.hid hm; clear hm
  have b2 : Below x0 w w2 := b1.trans (hb2.mono (by omega))
  obtain ⟨p0, p1, p2, p3, p4, p5⟩ := T1.out.below hb2 s1
  have s2 : x0 < w2.heap.size := by have := hb2.size; omega
  clear T1 hb2 b1 s1
  go_wp2_with fail
  refine (toAgg_any a w2).mono ?_
  rintro e w3 ⟨rfl, hb3⟩
  have b3 : Below x0 w w3 := b2.trans (hb3.mono (by omega))
  have s3 : x0 < w3.heap.size := by have := hb3.size; omega
  clear p0 p1 p2 p3 p4 p5 hb3 b2 s2
  go_wp2_with fail
  refine (meanOf_any a w3).mono ?_
  rintro e w4 ⟨q', r', c', rfl, hm', hb4⟩
  obtain ⟨rfl, rfl, rfl⟩ := Hm.out.one hm'
  have b4 : Below x0 w w4 := b3.trans (hb4.mono (by omega))
  clear hm' Hm hb4 b3
  go_wp2
  go_ret
  exact ⟨rfl, by rw [Hx0.out]; exact b4⟩

theorem own : ownKnob Try.prog.godebug = none := by kernel_rfl
theorem laidOut : laidOutB Try.prog = true := by kernel_rfl

set_option maxRecDepth 100000 in
theorem lifted (os : Os) (started : os.Started) (H : Type) (enc : TypeId × Value → H) :
    ReturnsInHanded {} Try.checked os 12 .any (Rows.fnExactMeanOfSpec.pre6 enc Try.prog Try.f12 Rows.fnExactMeanOfRow.domain false) (Rows.fnExactMeanOfSpec.post enc Try.prog Try.f12 false true false false) := by
  refine returnsInHanded_of_change (C := Try.checked) own started (by kernel_rfl) Try.func12
    (ChangeSpec.witness6 (enc := enc) (C := Try.checked) false ⟨#[], #[.agg #[.int .i64 0, .int .i64 0, .int .i64 0, .int .i64 0, .int .i64 0, .int .i64 0]], []⟩ 8 (by kernel_rfl) (by kernel_rfl) (by kernel_rfl) (by kernel_rfl)) ?_
  intro W base args ds gs before hval0 hW hcnd _
  have hval : ∀ (j : Nat) t v, Try.f12.params[j]? = some t → args[j]? = some v → Value.okWide Try.prog W .any base t v := hval0
  have hW' := hW
  obtain ⟨p, q, hA0, hV, rfl, hfz, hnd⟩ := hW
  have hA : DataW.TrodAll enc Try.prog W 0 (fun _ => true) true Try.f12.params.toList args.toList ds p := hA0
  rw [Try.params12] at hA hval
  obtain ⟨v0, vs0, d0, ds0, p0, q0, hargs, rfl, rfl, h0, r0⟩ := trodAll_cons hA
  obtain ⟨rfl, rfl, rfl⟩ := trodAll_nil r0
  obtain rfl : args = #[v0] := by cases args; simp_all
  obtain ⟨rfl, rfl⟩ := trodVars_none hV
  have k0 := h0
  have lt0 : ∀ x ∈ p0, x.block < W.heap.size := by obtain ⟨m, hm⟩ := k0; exact DataW.trod_lt m _ _ _ hm
  obtain ⟨a0, rfl, ft0⟩ := open_lagg (hval 0 55 v0 rfl rfl) h0
  clear hA0 hval0
  refine (walk a0 W).mono fun e W' ⟨he, bel⟩ => ?_
  subst he
  exact ⟨_, rfl, _, _, _, [], _, [], hW', trodAll_mk1 (shut_bool Try.underlying4 _), (trodAll_cons_mk (Below.trod laidOut (by kernel_rfl) (of_decide_eq_true (by kernel_rfl)) k0 bel lt0) trodAll_mk0), rfl, bel.frame _, fun h => by cases h⟩

theorem over : Rows.fnExactMeanOfRow.holds Try.pinned (OpenSpec.ofChange Rows.fnExactMeanOfSpec) :=
  OpenClaim.holds_of_wide 12 Try.f12 rfl rfl rfl rfl rfl rfl rfl ⟨rfl, rfl, rfl, rfl, rfl⟩ rfl rfl rfl rfl rfl (by kernel_rfl) Try.func12 (by kernel_rfl)
    (of_decide_eq_true (by kernel_rfl)) (by unfold Func.isWrapper; first | (rw [if_pos (by decide +kernel)]; kernel_rfl) | (rw [if_neg (by decide +kernel)]; exact ⟨rfl, rfl⟩))
    (fun os started H enc _ => lifted os started H enc)

theorem proved : Rows.FnExactMeanOfSaid := over
#print axioms proved
end Go.Proofs.Ythcnlgjklbodjab.fnExactMeanOf
