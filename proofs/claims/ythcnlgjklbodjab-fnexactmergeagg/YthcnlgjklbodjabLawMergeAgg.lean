/-
  'laws.FnExactMergeAgg' answers true at every two aggregates: MergeAgg answers as its model does. Conditions: none.
-/
import Derived.Test.YthcnlgjklbodjabMergeAgg
import Derived.Test.YthcnlgjklbodjabAggReg
import Derived.Deep.DeepCutAuto
import Derived.Deep.RegionHeld3
namespace Go.Proofs.Ythcnlgjklbodjab.fnExactMergeAgg
open Go.ChangeShapes Go.WideShapes Go.ChangeAt Go.RowKit
set_option linter.unusedVariables false

set_option maxRecDepth 100000 in
set_option maxHeartbeats 1000000 in
theorem walk (a b : GAgg) (w : World) : Calls Try.prog 11 #[.agg #[.int .i64 a.cnt, .int .i64 a.sum, .int .i64 a.mn, .int .i64 a.mx, .int .i64 a.fst, .int .i64 a.lst], .agg #[.int .i64 b.cnt, .int .i64 b.sum, .int .i64 b.mn, .int .i64 b.mx, .int .i64 b.fst, .int .i64 b.lst]] w fun e w' => e = .returned (.bool true) ∧ Below w.heap.size w w' := by
  go_enter Try.func11, Try.ntmps11
  go_upto_region 1 with fail
  obtain ⟨W, hW⟩ : ∃ W, W = (w.alloc (.cells #[.int .i64 a.cnt, .int .i64 a.sum, .int .i64 a.mn, .int .i64 a.mx, .int .i64 a.fst, .int .i64 a.lst] 55)).alloc (.cells #[.int .i64 b.cnt, .int .i64 b.sum, .int .i64 b.mn, .int .i64 b.mx, .int .i64 b.fst, .int .i64 b.lst] 55) := ⟨_, rfl⟩
  have t0 : Six W w.heap.size a := by rw [hW]; exact (Six.new _ _ _).alloc (by simp) _
  have t1 : Six W (w.heap.size + 1) b := by rw [hW]; have := Six.new (w.alloc (.cells #[.int .i64 a.cnt, .int .i64 a.sum, .int .i64 a.mn, .int .i64 a.mx, .int .i64 a.fst, .int .i64 a.lst] 55)) b 55; simpa using this
  have b0 : Below w.heap.size w W := by rw [hW]; exact bal (bal (Below.refl _ _) _) _
  have s0 : w.heap.size + 1 < W.heap.size := by rw [hW]; simp
  rw [← hW]
  clear hW
  generalize hx0 : w.heap.size = x0 at *
  have Hx0 := Lib.hid hx0; clear hx0
  go_cut [5, 6] (fun p q wx => ∃ (nb : Nat) (r : GAgg) (c : Int), p = .pointer (some ⟨nb, 0, none⟩) ∧ q = .int .i64 c ∧ Hid (MergeR a b r c) ∧ Hid (CutR W wx nb r))
  case first =>
    have K0 := Lib.hid (show Kept2 W x0 a b W from ⟨Below.refl _ _, t0, t1⟩)
    have K := Lib.hid (show Kept2 W x0 a b W.drew from ⟨(Below.refl _ _).drew, t0, t1⟩)
    obtain ⟨p0, p1, p2, p3, p4, p5⟩ := t0
    have s00 : x0 < W.heap.size := Nat.lt_of_succ_lt s0
    obtain ⟨q0, q1, q2, q3, q4, q5⟩ := t1
    go_region_held3 (fun w' => (w'.cell? ⟨x0, 0, none⟩ = some (.int .i64 a.cnt) ∧ w'.cell? ⟨x0, 1, none⟩ = some (.int .i64 a.sum) ∧ w'.cell? ⟨x0, 2, none⟩ = some (.int .i64 a.mn) ∧ w'.cell? ⟨x0, 3, none⟩ = some (.int .i64 a.mx) ∧ w'.cell? ⟨x0, 4, none⟩ = some (.int .i64 a.fst) ∧ w'.cell? ⟨x0, 5, none⟩ = some (.int .i64 a.lst)) ∧ (w'.cell? ⟨x0 + 1, 0, none⟩ = some (.int .i64 b.cnt) ∧ w'.cell? ⟨x0 + 1, 1, none⟩ = some (.int .i64 b.sum) ∧ w'.cell? ⟨x0 + 1, 2, none⟩ = some (.int .i64 b.mn) ∧ w'.cell? ⟨x0 + 1, 3, none⟩ = some (.int .i64 b.mx) ∧ w'.cell? ⟨x0 + 1, 4, none⟩ = some (.int .i64 b.fst) ∧ w'.cell? ⟨x0 + 1, 5, none⟩ = some (.int .i64 b.lst)))
      (first | (simp only [*]; done) | (with_reducible exact kept2_cells K.out (Zed.base Z.out) s0 r) | (go_keep; done))
      (first
        | (go_at_call 37; refine (toAgg_any _ _).mono ?_; rintro e w7 ⟨rfl, hb7⟩; (first | (with_reducible (replace K := Lib.hid (Kept2.step K.out s0 hb7)); (try (with_reducible (replace Z := Lib.hid (Zed.step Z.out hb7))))) | (with_reducible (have Z := Lib.hid (Zed.step (zed_new (B := W.heap.size) (Kept2.size K.out) _) hb7)); with_reducible (replace K := Lib.hid (Kept2.step (Kept2.alloc K.out s0 _) s0 hb7))) | (with_reducible (have Z := Lib.hid (Zed.step (zed_first _ _) hb7)); with_reducible (replace K := Lib.hid (Kept2.step (kept2_first K0.out s0 _) s0 hb7)))); (try (obtain ⟨⟨z0, z1, z2, z3, z4, z5⟩, y0, y1, y2, y3, y4, y5⟩ := Z.out.cells; have ne1 := Nat.ne_of_lt (Nat.lt_of_lt_of_le s00 Z.out.2.2.2); have ne2 := Nat.ne_of_lt (Nat.lt_of_lt_of_le s0 Z.out.2.2.2))); clear hb7; obtain ⟨p0, p1, p2, p3, p4, p5⟩ := K.out.2.1; obtain ⟨q0, q1, q2, q3, q4, q5⟩ := K.out.2.2)
        | (go_at_call 42; refine (specMergeAgg_any _ _ _).mono ?_; rintro e w7 ⟨r, c, rfl, hr, hb7⟩; have Hr := Lib.hid hr; clear hr; (first | (with_reducible (replace K := Lib.hid (Kept2.step K.out s0 hb7)); (try (with_reducible (replace Z := Lib.hid (Zed.step Z.out hb7))))) | (with_reducible (have Z := Lib.hid (Zed.step (zed_new (B := W.heap.size) (Kept2.size K.out) _) hb7)); with_reducible (replace K := Lib.hid (Kept2.step (Kept2.alloc K.out s0 _) s0 hb7))) | (with_reducible (have Z := Lib.hid (Zed.step (zed_first _ _) hb7)); with_reducible (replace K := Lib.hid (Kept2.step (kept2_first K0.out s0 _) s0 hb7)))); (try (obtain ⟨⟨z0, z1, z2, z3, z4, z5⟩, y0, y1, y2, y3, y4, y5⟩ := Z.out.cells; have ne1 := Nat.ne_of_lt (Nat.lt_of_lt_of_le s00 Z.out.2.2.2); have ne2 := Nat.ne_of_lt (Nat.lt_of_lt_of_le s0 Z.out.2.2.2))); clear hb7; obtain ⟨p0, p1, p2, p3, p4, p5⟩ := K.out.2.1; obtain ⟨q0, q1, q2, q3, q4, q5⟩ := K.out.2.2))
    all_goals (go_wp2_with fail; go_meet)
    all_goals first | (with_reducible exact ⟨_, r, c, rfl, rfl, Hr, Lib.hid (cut_new K.out r _)⟩) | (with_reducible exact ⟨_, r, c, rfl, rfl, Hr, Lib.hid (cut_set K.out Z.out r)⟩)
  case rest =>
    obtain ⟨n1, r1, c1, rfl, rfl, Hr1, Hc1⟩ := hcut
    have b1 : Below x0 w wc := b0.trans (Hc1.out.2.1.mono (by omega))
    have t0' : Six wc x0 a := t0.below Hc1.out.2.1 (by omega)
    have t1' : Six wc (x0 + 1) b := t1.below Hc1.out.2.1 (by omega)
    have s1 : x0 + 1 < wc.heap.size := by have := Hc1.out.2.2; omega
    have S1 := Lib.hid (And.intro Hc1.out.1 Hc1.out.2.2.2)
    clear t0 t1 b0 s0 Hc1
    have t0 := t0'
    have t1 := t1'
    have s0 := s1
    clear t0' t1' s1
    obtain ⟨W1, hW1⟩ : ∃ W1, W1 = wc := ⟨_, rfl⟩
    subst hW1
    go_upto_region 2 with fail
    go_cut [7, 8] (fun p q wx => ∃ (nb : Nat) (r : GAgg) (c : Int), p = .pointer (some ⟨nb, 0, none⟩) ∧ q = .int .i64 c ∧ Hid (MergeR a b r c) ∧ Hid (CutR W1 wx nb r))
    case first =>
      have K0 := Lib.hid (show Kept2 W1 x0 a b W1 from ⟨Below.refl _ _, t0, t1⟩)
      have K := Lib.hid (show Kept2 W1 x0 a b W1.drew from ⟨(Below.refl _ _).drew, t0, t1⟩)
      obtain ⟨p0, p1, p2, p3, p4, p5⟩ := t0
      have s00 : x0 < W1.heap.size := Nat.lt_of_succ_lt s0
      obtain ⟨q0, q1, q2, q3, q4, q5⟩ := t1
      go_region_held3 (fun w' => (w'.cell? ⟨x0, 0, none⟩ = some (.int .i64 a.cnt) ∧ w'.cell? ⟨x0, 1, none⟩ = some (.int .i64 a.sum) ∧ w'.cell? ⟨x0, 2, none⟩ = some (.int .i64 a.mn) ∧ w'.cell? ⟨x0, 3, none⟩ = some (.int .i64 a.mx) ∧ w'.cell? ⟨x0, 4, none⟩ = some (.int .i64 a.fst) ∧ w'.cell? ⟨x0, 5, none⟩ = some (.int .i64 a.lst)) ∧ (w'.cell? ⟨x0 + 1, 0, none⟩ = some (.int .i64 b.cnt) ∧ w'.cell? ⟨x0 + 1, 1, none⟩ = some (.int .i64 b.sum) ∧ w'.cell? ⟨x0 + 1, 2, none⟩ = some (.int .i64 b.mn) ∧ w'.cell? ⟨x0 + 1, 3, none⟩ = some (.int .i64 b.mx) ∧ w'.cell? ⟨x0 + 1, 4, none⟩ = some (.int .i64 b.fst) ∧ w'.cell? ⟨x0 + 1, 5, none⟩ = some (.int .i64 b.lst)))
        (first | (simp only [*]; done) | (with_reducible exact kept2_cells K.out (Zed.base Z.out) s0 r) | (go_keep; done))
        (first
          | (go_at_call 37; refine (toAgg_any _ _).mono ?_; rintro e w7 ⟨rfl, hb7⟩; (first | (with_reducible (replace K := Lib.hid (Kept2.step K.out s0 hb7)); (try (with_reducible (replace Z := Lib.hid (Zed.step Z.out hb7))))) | (with_reducible (have Z := Lib.hid (Zed.step (zed_new (B := W1.heap.size) (Kept2.size K.out) _) hb7)); with_reducible (replace K := Lib.hid (Kept2.step (Kept2.alloc K.out s0 _) s0 hb7))) | (with_reducible (have Z := Lib.hid (Zed.step (zed_first _ _) hb7)); with_reducible (replace K := Lib.hid (Kept2.step (kept2_first K0.out s0 _) s0 hb7)))); (try (obtain ⟨⟨z0, z1, z2, z3, z4, z5⟩, y0, y1, y2, y3, y4, y5⟩ := Z.out.cells; have ne1 := Nat.ne_of_lt (Nat.lt_of_lt_of_le s00 Z.out.2.2.2); have ne2 := Nat.ne_of_lt (Nat.lt_of_lt_of_le s0 Z.out.2.2.2))); clear hb7; obtain ⟨p0, p1, p2, p3, p4, p5⟩ := K.out.2.1; obtain ⟨q0, q1, q2, q3, q4, q5⟩ := K.out.2.2)
          | (go_at_call 43; refine (mergeAgg_any _ _ _).mono ?_; rintro e w7 ⟨r, c, rfl, hr, hb7⟩; have Hr := Lib.hid hr; clear hr; (first | (with_reducible (replace K := Lib.hid (Kept2.step K.out s0 hb7)); (try (with_reducible (replace Z := Lib.hid (Zed.step Z.out hb7))))) | (with_reducible (have Z := Lib.hid (Zed.step (zed_new (B := W1.heap.size) (Kept2.size K.out) _) hb7)); with_reducible (replace K := Lib.hid (Kept2.step (Kept2.alloc K.out s0 _) s0 hb7))) | (with_reducible (have Z := Lib.hid (Zed.step (zed_first _ _) hb7)); with_reducible (replace K := Lib.hid (Kept2.step (kept2_first K0.out s0 _) s0 hb7)))); (try (obtain ⟨⟨z0, z1, z2, z3, z4, z5⟩, y0, y1, y2, y3, y4, y5⟩ := Z.out.cells; have ne1 := Nat.ne_of_lt (Nat.lt_of_lt_of_le s00 Z.out.2.2.2); have ne2 := Nat.ne_of_lt (Nat.lt_of_lt_of_le s0 Z.out.2.2.2))); clear hb7; obtain ⟨p0, p1, p2, p3, p4, p5⟩ := K.out.2.1; obtain ⟨q0, q1, q2, q3, q4, q5⟩ := K.out.2.2))
      all_goals (go_wp2_with fail; go_meet)
      all_goals first | (with_reducible exact ⟨_, r, c, rfl, rfl, Hr, Lib.hid (cut_new K.out r _)⟩) | (with_reducible exact ⟨_, r, c, rfl, rfl, Hr, Lib.hid (cut_set K.out Z.out r)⟩)
    case rest =>
      obtain ⟨n2, r2, c2, rfl, rfl, Hr2, Hc2⟩ := hcut
      obtain ⟨rfl, rfl⟩ := MergeR.one Hr1.out Hr2.out
      have b2 : Below x0 w wc := b1.trans (Hc2.out.2.1.mono (by omega))
      obtain ⟨p0, p1, p2, p3, p4, p5⟩ := S1.out.1.below Hc2.out.2.1 S1.out.2
      obtain ⟨q0, q1, q2, q3, q4, q5⟩ := Hc2.out.1
      have s2 : x0 < wc.heap.size := by have := Hc2.out.2.2; omega
      clear t0 t1 b1 s0 Hc2 S1 Hr1 Hr2
      go_wp2_with fail
      refine (eqAgg_any r1 r1 wc).mono ?_
      rintro e w3 ⟨be, hbe, rfl, hb3⟩
      obtain rfl : be = true := hbe.2 rfl
      have b3 : Below x0 w w3 := b2.trans (hb3.mono (by omega))
      clear hbe hb3 p0 p1 p2 p3 p4 p5 q0 q1 q2 q3 q4 q5 b2
      go_wp2
      go_ret
      exact ⟨rfl, by rw [Hx0.out]; exact b3⟩

theorem own : ownKnob Try.prog.godebug = none := by kernel_rfl
theorem laidOut : laidOutB Try.prog = true := by kernel_rfl

set_option maxRecDepth 100000 in
theorem lifted (os : Os) (started : os.Started) (H : Type) (enc : TypeId × Value → H) :
    ReturnsInHanded {} Try.checked os 11 .any (Rows.fnExactMergeAggSpec.pre6 enc Try.prog Try.f11 Rows.fnExactMergeAggRow.domain false) (Rows.fnExactMergeAggSpec.post enc Try.prog Try.f11 false true false false) := by
  refine returnsInHanded_of_change (C := Try.checked) own started (by kernel_rfl) Try.func11
    (ChangeSpec.witness6 (enc := enc) (C := Try.checked) false ⟨#[], #[.agg #[.int .i64 0, .int .i64 0, .int .i64 0, .int .i64 0, .int .i64 0, .int .i64 0], .agg #[.int .i64 0, .int .i64 0, .int .i64 0, .int .i64 0, .int .i64 0, .int .i64 0]], []⟩ 8 (by kernel_rfl) (by kernel_rfl) (by kernel_rfl) (by kernel_rfl)) ?_
  intro W base args ds gs before hval0 hW hcnd _
  have hval : ∀ (j : Nat) t v, Try.f11.params[j]? = some t → args[j]? = some v → Value.okWide Try.prog W .any base t v := hval0
  have hW' := hW
  obtain ⟨p, q, hA0, hV, rfl, hfz, hnd⟩ := hW
  have hA : DataW.TrodAll enc Try.prog W 0 (fun _ => true) true Try.f11.params.toList args.toList ds p := hA0
  rw [Try.params11] at hA hval
  obtain ⟨v0, vs0, d0, ds0, p0, q0, hargs, rfl, rfl, h0, r0⟩ := trodAll_cons hA
  obtain ⟨v1, vs1, d1, ds1, p1, q1, rfl, rfl, rfl, h1, r1⟩ := trodAll_cons r0
  obtain ⟨rfl, rfl, rfl⟩ := trodAll_nil r1
  obtain rfl : args = #[v0, v1] := by cases args; simp_all
  obtain ⟨rfl, rfl⟩ := trodVars_none hV
  have k0 := h0
  have lt0 : ∀ x ∈ p0, x.block < W.heap.size := by obtain ⟨m, hm⟩ := k0; exact DataW.trod_lt m _ _ _ hm
  obtain ⟨a0, rfl, ft0⟩ := open_lagg (hval 0 55 v0 rfl rfl) h0
  have k1 := h1
  have lt1 : ∀ x ∈ p1, x.block < W.heap.size := by obtain ⟨m, hm⟩ := k1; exact DataW.trod_lt m _ _ _ hm
  obtain ⟨a1, rfl, ft1⟩ := open_lagg (hval 1 55 v1 rfl rfl) h1
  clear hA0 hval0
  refine (walk a0 a1 W).mono fun e W' ⟨he, bel⟩ => ?_
  subst he
  exact ⟨_, rfl, _, _, _, [], _, [], hW', trodAll_mk1 (shut_bool Try.underlying4 _), (trodAll_cons_mk (Below.trod laidOut (by kernel_rfl) (of_decide_eq_true (by kernel_rfl)) k0 bel lt0) (trodAll_cons_mk (Below.trod laidOut (by kernel_rfl) (of_decide_eq_true (by kernel_rfl)) k1 bel lt1) trodAll_mk0)), rfl, bel.frame _, fun h => by cases h⟩

theorem over : Rows.fnExactMergeAggRow.holds Try.pinned (OpenSpec.ofChange Rows.fnExactMergeAggSpec) :=
  OpenClaim.holds_of_wide 11 Try.f11 rfl rfl rfl rfl rfl rfl rfl ⟨rfl, rfl, rfl, rfl, rfl⟩ rfl rfl rfl rfl rfl (by kernel_rfl) Try.func11 (by kernel_rfl)
    (of_decide_eq_true (by kernel_rfl)) (by unfold Func.isWrapper; first | (rw [if_pos (by decide +kernel)]; kernel_rfl) | (rw [if_neg (by decide +kernel)]; exact ⟨rfl, rfl⟩))
    (fun os started H enc _ => lifted os started H enc)

theorem proved : Rows.FnExactMergeAggSaid := over
#print axioms proved
end Go.Proofs.Ythcnlgjklbodjab.fnExactMergeAgg
