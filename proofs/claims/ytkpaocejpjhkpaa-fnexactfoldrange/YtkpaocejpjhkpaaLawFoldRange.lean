/-
  'laws.FnExactFoldRange' answers true at every list of buckets and every range: FoldRange answers as its model does, and writes into no argument. Conditions: none.
-/
import Derived.Test.YtkpaocejpjhkpaaFoldR
import Derived.Test.YtkpaocejpjhkpaaToAt
namespace Go.Proofs.Ytkpaocejpjhkpaa.fnExactFoldRange
open Go.ChangeShapes Go.WideShapes Go.ChangeAt Go.RowKit
set_option linter.unusedVariables false

theorem walk (A : Option Addr) (c : Nat) (xs : List GBkt) (f t : Int) (w : World) (h : BktsAt w w.heap.size A xs) (hl : xs.length ≤ maxLen) :
    Calls Try.prog 6 #[.slice A xs.length c, .int .i64 f, .int .i64 t] w fun e w' => e = .returned (.bool true) ∧ Below w.heap.size w w' := by
  have H := Lib.hid h; clear h
  go_enter Try.func6, Try.ntmps6
  go_wp2_with fail
  refine (szBucketS_any A c xs 1048576 w hl (by omega) (by omega)).mono ?_
  rintro e w' ⟨u, hu, hu1, hu2, rfl, rfl⟩
  have Hu := Lib.hid hu; clear hu
  by_cases hneg : u < 0
  · have d : decide (u < 0) = true := by simpa using hneg
    go_wp2
    go_ret
    exact ⟨rfl, Below.refl _ _⟩
  have d : decide (u < 0) = false := by simpa using hneg
  have hlen : xs.length ≤ 1048576 := by have := (Hu.out (by omega)).1; omega
  clear Hu
  go_wp2_with fail
  refine (toBucketS_any A c xs w.heap.size w H.out (Nat.le_refl _) hlen).mono ?_
  rintro e w2 ⟨A2, c2, rfl, ho2, hf2, hbl2, hc2, hb2⟩
  have Ho2 := Lib.hid ho2; clear ho2 hf2 hbl2 hc2
  go_wp2_with fail
  refine (specFoldRange_any A2 c2 xs f t w2.heap.size w2 Ho2.out (Nat.le_refl _) hlen).mono ?_
  rintro e w3 ⟨r, cd, rfl, hr, hb3⟩
  have Hr := Lib.hid hr; clear hr
  have b3 : Below w.heap.size w w3 := hb2.trans (hb3.mono hb2.size)
  clear hb2 hb3 Ho2
  go_wp2_with fail
  obtain ⟨V3, hV3⟩ : ∃ V3, V3 = w3.alloc (.cells #[.int .i64 r.cnt, .int .i64 r.sum, .int .i64 r.mn, .int .i64 r.mx, .int .i64 r.fst, .int .i64 r.lst] 46) := ⟨_, rfl⟩
  have t3 : Six V3 w3.heap.size r := by rw [hV3]; exact Six.new _ _ _
  have bv : Below w.heap.size w V3 := by rw [hV3]; exact b3.alloc b3.size _
  have sv : w3.heap.size < V3.heap.size := by rw [hV3]; simp
  rw [← hV3]
  clear hV3 b3
  have T3 := Lib.hid t3; clear t3
  generalize w3.heap.size = x3 at *
  refine (toBucketS_at A c xs w.heap.size V3 (Sl.below H.out bv (Nat.le_refl _)) bv.size hlen).mono ?_
  rintro e w4 ⟨g4, c4, rfl, ho4, hf4, hbl4, hbm4, hc4, hb4⟩
  have Ho4 := Lib.hid ho4; clear ho4 hf4 hbl4 hbm4
  have b4 : Below w.heap.size w w4 := bv.trans (hb4.mono bv.size)
  have T4 := Lib.hid (T3.out.below hb4 sv)
  have s4 : x3 < w4.heap.size := Nat.lt_of_lt_of_le sv hb4.size
  clear hb4 bv T3
  go_wp2_with fail
  refine (foldRange_any g4 0 c4 xs f t w4.heap.size w4 Ho4.out (Nat.le_refl _) hlen hc4).mono ?_
  rintro e w5 ⟨r', cd', rfl, hr', hb5⟩
  obtain ⟨rfl, rfl⟩ := Hr.out.one hr'
  have b5 : Below w.heap.size w w5 := b4.trans (hb5.mono b4.size)
  obtain ⟨p0, p1, p2, p3, p4, p5⟩ := T4.out.below hb5 s4
  have s5 : x3 < w5.heap.size := Nat.lt_of_lt_of_le s4 hb5.size
  have Ho5 := Lib.hid (Sl.below Ho4.out hb5 (Nat.le_refl _))
  have z5 := hb5.size
  clear hr' Hr hb5 Ho4 T4 b4
  go_wp2_with fail
  refine (eqAgg_any r r _).mono ?_
  rintro e w6 ⟨be, hbe, rfl, hb6⟩
  obtain rfl : be = true := hbe.2 rfl
  have bb : Below w5.heap.size w5 w6 := (bal (Below.refl _ w5) _).trans (hb6.mono (by simp))
  have b6 : Below w.heap.size w w6 := b5.trans (bb.mono b5.size)
  have Ho6 := Lib.hid (Sl.below Ho5.out bb z5)
  have z6 : w4.heap.size ≤ w6.heap.size := Nat.le_trans z5 bb.size
  clear hbe hb6 bb p0 p1 p2 p3 p4 p5 b5 Ho5
  go_wp2_with fail
  refine (toBucketS_any A c xs w.heap.size w6 (Sl.below H.out b6 (Nat.le_refl _)) b6.size hlen).mono ?_
  rintro e w7 ⟨A7, c7, rfl, ho7, hf7, hbl7, hc7, hb7⟩
  have Ho7 := Lib.hid ho7; clear ho7 hf7 hbl7 hc7
  have b7 : Below w.heap.size w w7 := b6.trans (hb7.mono b6.size)
  go_wp2_with fail
  refine (eqBucketS_any (some ⟨g4, 0, none⟩) A7 c4 c7 xs xs w7.heap.size w7 (Sl.more (Sl.below Ho6.out hb7 z6) (Nat.le_trans z6 hb7.size)) Ho7.out (Nat.le_refl _) (by omega) (by omega)).mono ?_
  rintro e w8 ⟨be, hbe, rfl, hb8⟩
  obtain rfl : be = true := hbe.2 rfl
  have b8 : Below w.heap.size w w8 := b7.trans (hb8.mono b7.size)
  clear hbe hb8 hb7 b7 b6 Ho6 Ho7
  go_wp2
  go_ret
  exact ⟨rfl, b8⟩

theorem own : ownKnob Try.prog.godebug = none := by kernel_rfl
theorem laidOut : laidOutB Try.prog = true := by kernel_rfl

set_option maxRecDepth 100000 in
theorem lifted (os : Os) (started : os.Started) (H : Type) (enc : TypeId × Value → H) :
    ReturnsInHanded {} Try.checked os 6 .any (Rows.fnExactFoldRangeSpec.pre6 enc Try.prog Try.f6 Rows.fnExactFoldRangeRow.domain false) (Rows.fnExactFoldRangeSpec.post enc Try.prog Try.f6 false true false false) := by
  refine returnsInHanded_of_change (C := Try.checked) own started (by kernel_rfl) Try.func6
    (ChangeSpec.witness6 (enc := enc) (C := Try.checked) false ⟨#[], #[.slice none 0 0, .int .i64 0, .int .i64 0], []⟩ 8 (by kernel_rfl) (by kernel_rfl) (by kernel_rfl) (by kernel_rfl)) ?_
  intro W base args ds gs before hval0 hW hcnd _
  have hval : ∀ (j : Nat) t v, Try.f6.params[j]? = some t → args[j]? = some v → Value.okWide Try.prog W .any base t v := hval0
  have hW' := hW
  obtain ⟨p, q, hA0, hV, rfl, hfz, hnd⟩ := hW
  have hA : DataW.TrodAll enc Try.prog W 0 (fun _ => true) true Try.f6.params.toList args.toList ds p := hA0
  rw [Try.params6] at hA hval
  obtain ⟨v0, vs0, d0, ds0, p0, q0, hargs, rfl, rfl, h0, r0⟩ := trodAll_cons hA
  obtain ⟨v1, vs1, d1, ds1, p1, q1, rfl, rfl, rfl, h1, r1⟩ := trodAll_cons r0
  obtain ⟨v2, vs2, d2, ds2, p2, q2, rfl, rfl, rfl, h2, r2⟩ := trodAll_cons r1
  obtain ⟨rfl, rfl, rfl⟩ := trodAll_nil r2
  obtain rfl : args = #[v0, v1, v2] := by cases args; simp_all
  obtain ⟨rfl, rfl⟩ := trodVars_none hV
  have k0 := h0
  have lt0 : ∀ x ∈ p0, x.block < W.heap.size := by obtain ⟨m, hm⟩ := k0; exact DataW.trod_lt m _ _ _ hm
  obtain ⟨A0, c0, xs0, rfl, ob0, ft0, ln0⟩ := open_lbkts (hval 0 40 v0 rfl rfl) h0
  have k1 := h1
  have lt1 : ∀ x ∈ p1, x.block < W.heap.size := by obtain ⟨m, hm⟩ := k1; exact DataW.trod_lt m _ _ _ hm
  obtain ⟨i1, rfl, hd1, hp1, wi1⟩ := open_int Try.underlying3 (hval 1 3 v1 rfl rfl) h1
  have k2 := h2
  have lt2 : ∀ x ∈ p2, x.block < W.heap.size := by obtain ⟨m, hm⟩ := k2; exact DataW.trod_lt m _ _ _ hm
  obtain ⟨i2, rfl, hd2, hp2, wi2⟩ := open_int Try.underlying3 (hval 2 3 v2 rfl rfl) h2
  clear hA0 hval0
  refine (walk A0 c0 xs0 i1 i2 W ob0 ln0).mono fun e W' ⟨he, bel⟩ => ?_
  subst he
  exact ⟨_, rfl, _, _, _, [], _, [], hW', trodAll_mk1 (shut_bool Try.underlying4 _), (trodAll_cons_mk (Below.trod laidOut (by kernel_rfl) (of_decide_eq_true (by kernel_rfl)) k0 bel lt0) (trodAll_cons_mk (Below.trod laidOut (by kernel_rfl) (of_decide_eq_true (by kernel_rfl)) k1 bel lt1) (trodAll_cons_mk (Below.trod laidOut (by kernel_rfl) (of_decide_eq_true (by kernel_rfl)) k2 bel lt2) trodAll_mk0))), rfl, bel.frame _, fun h => by cases h⟩

theorem over : Rows.fnExactFoldRangeRow.holds Try.pinned (OpenSpec.ofChange Rows.fnExactFoldRangeSpec) :=
  OpenClaim.holds_of_wide 6 Try.f6 rfl rfl rfl rfl rfl rfl rfl ⟨rfl, rfl, rfl, rfl, rfl⟩ rfl rfl rfl rfl rfl (by kernel_rfl) Try.func6 (by kernel_rfl)
    (of_decide_eq_true (by kernel_rfl)) (by unfold Func.isWrapper; first | (rw [if_pos (by decide +kernel)]; kernel_rfl) | (rw [if_neg (by decide +kernel)]; exact ⟨rfl, rfl⟩))
    (fun os started H enc _ => lifted os started H enc)

theorem proved : Rows.FnExactFoldRangeSaid := over
#print axioms proved
end Go.Proofs.Ytkpaocejpjhkpaa.fnExactFoldRange
