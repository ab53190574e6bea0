/-
  'laws.FnExactBucketsOK' answers true at every list of buckets: BucketsOK answers as its model does, and writes into no argument. Conditions: none.
-/
import Derived.Test.YtcocgocnffnkpaaBktImpl
namespace Go.Proofs.Ytcocgocnffnkpaa.fnExactBucketsOK
open Go.ChangeShapes Go.WideShapes Go.ChangeAt Go.RowKit
set_option linter.unusedVariables false

theorem walk (A : Option Addr) (c : Nat) (xs : List GBkt) (w : World) (h : BktsAt w w.heap.size A xs) (hl : xs.length ≤ maxLen) :
    Calls Try.prog 6 #[.slice A xs.length c] w fun e w' => e = .returned (.bool true) ∧ Below w.heap.size w w' := by
  have H := Lib.hid h; clear h
  go_enter Try.func6, Try.ntmps6
  go_wp2_with fail
  refine (szBucketS_any A c xs 1048576 w hl (by omega) (by omega)).mono ?_
  rintro e w' ⟨u, hu, hu1, hu2, rfl, rfl⟩
  have Hu := Lib.hid hu; clear hu
  by_cases hneg : u < 0
  · have d : decide (u < 0) = true := by simpa using hneg
    go_wp2
    go_ret
    exact ⟨rfl, Below.refl _ _⟩
  have d : decide (u < 0) = false := by simpa using hneg
  have hlen : xs.length ≤ 1048576 := by have := (Hu.out (by omega)).1; omega
  clear Hu
  go_wp2_with fail
  refine (toBucketS_any A c xs w.heap.size w H.out (Nat.le_refl _) hlen).mono ?_
  rintro e w2 ⟨A2, c2, rfl, ho2, hf2, hbl2, hc2, hb2⟩
  have Ho2 := Lib.hid ho2; clear ho2 hf2 hbl2 hc2
  go_wp2_with fail
  refine (specBucketsOK_any A2 c2 xs w2.heap.size w2 Ho2.out (Nat.le_refl _) hlen).mono ?_
  rintro e w3 ⟨b, hbb, rfl, hb3⟩
  have Hbb := Lib.hid hbb; clear hbb
  have b3 : Below w.heap.size w w3 := hb2.trans (hb3.mono hb2.size)
  clear hb2 hb3 Ho2
  go_wp2_with fail
  refine (toBucketS_any A c xs w.heap.size w3 (Sl.below H.out b3 (Nat.le_refl _)) b3.size hlen).mono ?_
  rintro e w4 ⟨A4, c4, rfl, ho4, hf4, hbl4, hc4, hb4⟩
  have Ho4 := Lib.hid ho4; clear ho4 hf4 hbl4 hc4
  have b4 : Below w.heap.size w w4 := b3.trans (hb4.mono b3.size)
  clear hb4 b3
  go_wp2_with fail
  refine (bucketsOK_any A4 c4 xs w4.heap.size w4 Ho4.out (Nat.le_refl _) hlen).mono ?_
  rintro e w5 ⟨b', hb', rfl, hb5⟩
  obtain rfl : b' = b := by rw [Bool.eq_iff_iff]; exact hb'.trans Hbb.out.symm
  have b5 : Below w.heap.size w w5 := b4.trans (hb5.mono b4.size)
  have Ho5 := Lib.hid (Sl.below Ho4.out hb5 (Nat.le_refl _))
  have s5 := hb5.size
  clear hb' Hbb hb5 Ho4
  go_wp2_with fail
  refine (toBucketS_any A c xs w.heap.size w5 (Sl.below H.out b5 (Nat.le_refl _)) b5.size hlen).mono ?_
  rintro e w6 ⟨A6, c6, rfl, ho6, hf6, hbl6, hc6, hb6⟩
  have Ho6 := Lib.hid ho6; clear ho6 hf6 hbl6 hc6
  have b6 : Below w.heap.size w w6 := b5.trans (hb6.mono b5.size)
  go_wp2_with fail
  refine (eqBucketS_any A4 A6 c4 c6 xs xs w6.heap.size w6 (Sl.more (Sl.below Ho5.out hb6 s5) (Nat.le_trans s5 hb6.size)) Ho6.out (Nat.le_refl _) (by omega) (by omega)).mono ?_
  rintro e w7 ⟨be, hbe, rfl, hb7⟩
  obtain rfl : be = true := hbe.2 rfl
  have b7 : Below w.heap.size w w7 := b6.trans (hb7.mono b6.size)
  clear hbe hb7 hb6 b6 b5 b4 Ho5 Ho6
  go_wp2
  go_ret
  exact ⟨rfl, b7⟩

theorem own : ownKnob Try.prog.godebug = none := by kernel_rfl
theorem laidOut : laidOutB Try.prog = true := by kernel_rfl

set_option maxRecDepth 100000 in
theorem lifted (os : Os) (started : os.Started) (H : Type) (enc : TypeId × Value → H) :
    ReturnsInHanded {} Try.checked os 6 .any (Rows.fnExactBucketsOKSpec.pre6 enc Try.prog Try.f6 Rows.fnExactBucketsOKRow.domain false) (Rows.fnExactBucketsOKSpec.post enc Try.prog Try.f6 false true false false) := by
  refine returnsInHanded_of_change (C := Try.checked) own started (by kernel_rfl) Try.func6
    (ChangeSpec.witness6 (enc := enc) (C := Try.checked) false ⟨#[], #[.slice none 0 0], []⟩ 8 (by kernel_rfl) (by kernel_rfl) (by kernel_rfl) (by kernel_rfl)) ?_
  intro W base args ds gs before hval0 hW hcnd _
  have hval : ∀ (j : Nat) t v, Try.f6.params[j]? = some t → args[j]? = some v → Value.okWide Try.prog W .any base t v := hval0
  have hW' := hW
  obtain ⟨p, q, hA0, hV, rfl, hfz, hnd⟩ := hW
  have hA : DataW.TrodAll enc Try.prog W 0 (fun _ => true) true Try.f6.params.toList args.toList ds p := hA0
  rw [Try.params6] at hA hval
  obtain ⟨v0, vs0, d0, ds0, p0, q0, hargs, rfl, rfl, h0, r0⟩ := trodAll_cons hA
  obtain ⟨rfl, rfl, rfl⟩ := trodAll_nil r0
  obtain rfl : args = #[v0] := by cases args; simp_all
  obtain ⟨rfl, rfl⟩ := trodVars_none hV
  have k0 := h0
  have lt0 : ∀ x ∈ p0, x.block < W.heap.size := by obtain ⟨m, hm⟩ := k0; exact DataW.trod_lt m _ _ _ hm
  obtain ⟨A0, c0, xs0, rfl, ob0, ft0, ln0⟩ := open_lbkts (hval 0 46 v0 rfl rfl) h0
  clear hA0 hval0
  refine (walk A0 c0 xs0 W ob0 ln0).mono fun e W' ⟨he, bel⟩ => ?_
  subst he
  exact ⟨_, rfl, _, _, _, [], _, [], hW', trodAll_mk1 (shut_bool Try.underlying4 _), (trodAll_cons_mk (Below.trod laidOut (by kernel_rfl) (of_decide_eq_true (by kernel_rfl)) k0 bel lt0) trodAll_mk0), rfl, bel.frame _, fun h => by cases h⟩

theorem over : Rows.fnExactBucketsOKRow.holds Try.pinned (OpenSpec.ofChange Rows.fnExactBucketsOKSpec) :=
  OpenClaim.holds_of_wide 6 Try.f6 rfl rfl rfl rfl rfl rfl rfl ⟨rfl, rfl, rfl, rfl, rfl⟩ rfl rfl rfl rfl rfl (by kernel_rfl) Try.func6 (by kernel_rfl)
    (of_decide_eq_true (by kernel_rfl)) (by unfold Func.isWrapper; first | (rw [if_pos (by decide +kernel)]; kernel_rfl) | (rw [if_neg (by decide +kernel)]; exact ⟨rfl, rfl⟩))
    (fun os started H enc _ => lifted os started H enc)

theorem proved : Rows.FnExactBucketsOKSaid := over
#print axioms proved
end Go.Proofs.Ytcocgocnffnkpaa.fnExactBucketsOK
