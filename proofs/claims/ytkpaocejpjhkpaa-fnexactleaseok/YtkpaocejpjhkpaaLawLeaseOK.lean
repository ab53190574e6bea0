/-
  'laws.FnExactLeaseOK' answers true at every lease: LeaseOK answers as its model does. Conditions: none.
-/
import Derived.Test.YtkpaocejpjhkpaaLse
namespace Go.Proofs.Ytkpaocejpjhkpaa.fnExactLeaseOK
open Go.ChangeShapes Go.WideShapes Go.ChangeAt Go.RowKit
set_option linter.unusedVariables false

theorem walk (a : GLse) (w : World) : Calls Try.prog 3 #[.agg #[.int .i64 a.tk, .int .i64 a.ow, .int .i64 a.un]] w fun e w' => e = .returned (.bool true) ∧ Below w.heap.size w w' := by
  go_enter Try.func3, Try.ntmps3
  go_wp2_with fail
  obtain ⟨W, hW⟩ : ∃ W, W = w.alloc (.cells #[.int .i64 a.tk, .int .i64 a.ow, .int .i64 a.un] 23) := ⟨_, rfl⟩
  have t0 : Thr W w.heap.size a := by rw [hW]; exact Thr.new _ _ _
  have b0 : Below w.heap.size w W := by rw [hW]; exact bal (Below.refl _ _) _
  have s0 : w.heap.size < W.heap.size := by rw [hW]; simp
  rw [← hW]
  clear hW
  have T0 := Lib.hid t0; clear t0
  generalize hx0 : w.heap.size = x0 at *
  have Hx0 := Lib.hid hx0; clear hx0
  refine (toLease_any a W).mono ?_
  rintro e w1 ⟨rfl, hb1⟩
  have b1 : Below x0 w w1 := b0.trans (hb1.mono (by omega))
  have T1 := Lib.hid (T0.out.below hb1 s0)
  have s1 : x0 < w1.heap.size := by have := hb1.size; omega
  clear T0 hb1 b0 s0
  go_wp2_with fail
  refine (specLeaseOK_any a w1).mono ?_
  rintro e w2 ⟨b, hb, rfl, hb2⟩
  have Hb := Lib.hid hb; clear hb
  have b2 : Below x0 w w2 := b1.trans (hb2.mono (by omega))
  obtain ⟨p0, p1, p2⟩ := T1.out.below hb2 s1
  have s2 : x0 < w2.heap.size := by have := hb2.size; omega
  clear T1 hb2 b1 s1
  go_wp2_with fail
  refine (toLease_any a w2).mono ?_
  rintro e w3 ⟨rfl, hb3⟩
  have b3 : Below x0 w w3 := b2.trans (hb3.mono (by omega))
  have s3 : x0 < w3.heap.size := by have := hb3.size; omega
  clear p0 p1 p2 hb3 b2 s2
  go_wp2_with fail
  refine (leaseOK_any a w3).mono ?_
  rintro e w4 ⟨b', hb', rfl, hb4⟩
  obtain rfl : b' = b := by rw [Bool.eq_iff_iff]; exact hb'.trans Hb.out.symm
  have b4 : Below x0 w w4 := b3.trans (hb4.mono (by omega))
  clear hb' Hb hb4 b3
  go_wp2
  go_ret
  exact ⟨rfl, by rw [Hx0.out]; exact b4⟩

theorem own : ownKnob Try.prog.godebug = none := by kernel_rfl
theorem laidOut : laidOutB Try.prog = true := by kernel_rfl

set_option maxRecDepth 100000 in
theorem lifted (os : Os) (started : os.Started) (H : Type) (enc : TypeId × Value → H) :
    ReturnsInHanded {} Try.checked os 3 .any (Rows.fnExactLeaseOKSpec.pre6 enc Try.prog Try.f3 Rows.fnExactLeaseOKRow.domain false) (Rows.fnExactLeaseOKSpec.post enc Try.prog Try.f3 false true false false) := by
  refine returnsInHanded_of_change (C := Try.checked) own started (by kernel_rfl) Try.func3
    (ChangeSpec.witness6 (enc := enc) (C := Try.checked) false ⟨#[], #[.agg #[.int .i64 0, .int .i64 0, .int .i64 0]], []⟩ 8 (by kernel_rfl) (by kernel_rfl) (by kernel_rfl) (by kernel_rfl)) ?_
  intro W base args ds gs before hval0 hW hcnd _
  have hval : ∀ (j : Nat) t v, Try.f3.params[j]? = some t → args[j]? = some v → Value.okWide Try.prog W .any base t v := hval0
  have hW' := hW
  obtain ⟨p, q, hA0, hV, rfl, hfz, hnd⟩ := hW
  have hA : DataW.TrodAll enc Try.prog W 0 (fun _ => true) true Try.f3.params.toList args.toList ds p := hA0
  rw [Try.params3] at hA hval
  obtain ⟨v0, vs0, d0, ds0, p0, q0, hargs, rfl, rfl, h0, r0⟩ := trodAll_cons hA
  obtain ⟨rfl, rfl, rfl⟩ := trodAll_nil r0
  obtain rfl : args = #[v0] := by cases args; simp_all
  obtain ⟨rfl, rfl⟩ := trodVars_none hV
  have k0 := h0
  have lt0 : ∀ x ∈ p0, x.block < W.heap.size := by obtain ⟨m, hm⟩ := k0; exact DataW.trod_lt m _ _ _ hm
  obtain ⟨a0, rfl, ft0⟩ := open_llse (hval 0 23 v0 rfl rfl) h0
  clear hA0 hval0
  refine (walk a0 W).mono fun e W' ⟨he, bel⟩ => ?_
  subst he
  exact ⟨_, rfl, _, _, _, [], _, [], hW', trodAll_mk1 (shut_bool Try.underlying4 _), (trodAll_cons_mk (Below.trod laidOut (by kernel_rfl) (of_decide_eq_true (by kernel_rfl)) k0 bel lt0) trodAll_mk0), rfl, bel.frame _, fun h => by cases h⟩

theorem over : Rows.fnExactLeaseOKRow.holds Try.pinned (OpenSpec.ofChange Rows.fnExactLeaseOKSpec) :=
  OpenClaim.holds_of_wide 3 Try.f3 rfl rfl rfl rfl rfl rfl rfl ⟨rfl, rfl, rfl, rfl, rfl⟩ rfl rfl rfl rfl rfl (by kernel_rfl) Try.func3 (by kernel_rfl)
    (of_decide_eq_true (by kernel_rfl)) (by unfold Func.isWrapper; first | (rw [if_pos (by decide +kernel)]; kernel_rfl) | (rw [if_neg (by decide +kernel)]; exact ⟨rfl, rfl⟩))
    (fun os started H enc _ => lifted os started H enc)

theorem proved : Rows.FnExactLeaseOKSaid := over
#print axioms proved
end Go.Proofs.Ytkpaocejpjhkpaa.fnExactLeaseOK
