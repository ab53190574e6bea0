/-
  'laws.FnExactWindowOf' answers true at every input: WindowOf answers as its model does. Conditions: the library's tables hold what its text lays there (tied by the card).
-/
import Derived.Test.YtpackpocnonpiaaGreatDoorM4
import Derived.Test.YtpackpocnonpiaaGreatDoorAggLaw
import Derived.Test.YtpackpocnonpiaaGreatDoorCards
import Derived.Test.YtpackpocnonpiaaGreatDoorTie
import Derived.ProofKit
import Derived.OpenShut
import Derived.Deep.DeepHandedRow
import Derived.Lib.LaidTab
import Derived.Outline
import Derived.ShutString
namespace Go.Proofs.YtpackpocnonpiaaGreatDoor.fnExactWindowOf
open Go.ChangeShapes Go.WideShapes Go.ChangeAt Go.RowKit
set_option linter.unusedVariables false

set_option maxRecDepth 100000 in
set_option maxHeartbeats 2000000 in
theorem walk (e : GEnt) (t : ByteArray) (f u : Int) (w : World) (hf : e.fit) (ht : t.size ≤ 2 ^ 63 - 1) (hE : Errs w) (hP : Pow w) (hM : MaxL w) (hp : Paths w) (hz : 1 < w.heap.size) :
    Calls Tryz.prog 3 #[.agg #[.int .i64 e.tier, .int .i64 e.beg, .int .i64 e.fin, .string e.key], .string t, .int .i64 f, .int .i64 u] w fun e w' => e = .returned (.bool true) ∧ Below w.heap.size w w' := by
  have hEP := fun w' (h : Below w.heap.size w w') => (show Errs w' ∧ Pow w' ∧ MaxL w' ∧ Paths w' ∧ 1 < w'.heap.size from ⟨hE.below h (Nat.le_refl _), hP.below h (Nat.le_refl _), hM.below h (Nat.le_refl _), hp.below h hz, Nat.lt_of_lt_of_le hz h.size⟩)
  have HEP := Lib.hid hEP; clear hEP hE hP hM hp hz
  have Hf := Lib.hid hf; clear hf
  cases hl : decide (1048576 < (t.size : Int))
  rotate_left
  · have hl2 : decide ((t.size : Int) > 1048576) = true := by simpa using hl
    go_enter Tryz.func3, Tryz.ntmps3
    go_wp2
    go_ret
    exact ⟨rfl, bal (Below.refl _ _) _⟩
  have hl2 : decide ((t.size : Int) > 1048576) = false := by simpa using hl
  have hts : t.size ≤ 1048576 := by simp at hl; omega
  go_enter Tryz.func3, Tryz.ntmps3
  go_wp2_with fail
  obtain ⟨W, hW⟩ : ∃ W, W = w.alloc (.cells #[.int .i64 e.tier, .int .i64 e.beg, .int .i64 e.fin, .string e.key] 23) := ⟨_, rfl⟩
  have t0 : Cells W w.heap.size 0 [.int .i64 e.tier, .int .i64 e.beg, .int .i64 e.fin, .string e.key] := by rw [hW]; exact Cells.new _ _ _
  have b0 : Below w.heap.size w W := by rw [hW]; exact bal (Below.refl _ _) _
  have s0 : w.heap.size < W.heap.size := by rw [hW]; simp
  rw [← hW]
  clear hW
  have T0 := Lib.hid t0; clear t0
  generalize hx0 : w.heap.size = x0 at *
  have Hx0 := Lib.hid hx0; clear hx0
  refine (szEntry_any e 1048576 W Hf.out (by omega) (by omega)).mono ?_
  rintro x w1 ⟨v, hv, hv1, hv2, rfl, hb1⟩
  have Hv := Lib.hid hv; clear hv
  have b1 : Below x0 w w1 := b0.trans (hb1.mono (by omega))
  by_cases hneg : v < 0
  · have d : decide (v < 0) = true := by simpa using hneg
    go_wp2
    go_ret
    exact ⟨rfl, by rw [Hx0.out]; exact b1⟩
  have d : decide (v < 0) = false := by simpa using hneg
  have hks : e.key.size ≤ 1048576 := (Hv.out (by omega)).1
  have T1 := Lib.hid (T0.out.below hb1 (by omega))
  have s1 : x0 < w1.heap.size := by have := hb1.size; omega
  clear Hv T0 hb1 b0 s0
  obtain ⟨p0, p1, p2, p3⟩ := four T1.out
  go_wp2_with fail
  refine (toEntry_any e w1).mono ?_
  rintro x w2 ⟨rfl, hb2⟩
  have b2 : Below x0 w w2 := b1.trans (hb2.mono (by omega))
  have T2 := Lib.hid (T1.out.below hb2 s1)
  have s2 : x0 < w2.heap.size := by have := hb2.size; omega
  clear T1 hb2 b1 s1 p0 p1 p2 p3
  go_wp2_with fail
  refine (specWindowOf_any e t f u w2 hks hts).mono ?_
  rintro x w3 ⟨r, cd, rfl, hs, hb3⟩
  have Hs := Lib.hid hs; clear hs
  have b3 : Below x0 w w3 := b2.trans (hb3.mono (by omega))
  have T3 := Lib.hid (T2.out.below hb3 s2)
  have s3 : x0 < w3.heap.size := by have := hb3.size; omega
  clear T2 hb3 b2 s2
  obtain ⟨p0, p1, p2, p3⟩ := four T3.out
  go_wp2_with fail
  obtain ⟨W4, hW4⟩ : ∃ W, W = w3.alloc (.cells #[.int .i64 r.cnt, .int .i64 r.sum, .int .i64 r.mn, .int .i64 r.mx, .int .i64 r.fst, .int .i64 r.lst] 26) := ⟨_, rfl⟩
  have q4 : Six W4 w3.heap.size r := by rw [hW4]; exact Six.new _ _ _
  have hb4 : Below w3.heap.size w3 W4 := by rw [hW4]; exact bal (Below.refl _ _) _
  have s4 : w3.heap.size < W4.heap.size := by rw [hW4]; simp
  rw [← hW4]
  clear hW4 p0 p1 p2 p3
  have b4 : Below x0 w W4 := b3.trans (hb4.mono (by omega))
  have Q4 := Lib.hid q4; clear q4
  clear hb4 b3 T3
  generalize w3.heap.size = y at *
  refine (toEntry_any e W4).mono ?_
  rintro x w5 ⟨rfl, hb5⟩
  have b5 : Below x0 w w5 := b4.trans (hb5.mono (by omega))
  have Q5 := Lib.hid (Q4.out.below hb5 s4)
  have s5 : y < w5.heap.size := by have := hb5.size; omega
  clear Q4 hb5 b4 s4
  have Hw5 : Hid (Below w.heap.size w w5) := Lib.hid (by rw [Hx0.out]; exact b5)
  go_wp2_with fail
  refine (windowOf_any e t f u w5 hks ht (HEP.out _ b5).1 (HEP.out _ b5).2.1 (HEP.out _ b5).2.2.1 (HEP.out _ b5).2.2.2.1 (HEP.out _ b5).2.2.2.2).mono ?_
  rintro x w6 ⟨r', cd', rfl, hs', hb6⟩
  obtain ⟨rfl, rfl⟩ := Hs.out.one hs'
  have b6 : Below x0 w w6 := b5.trans (hb6.mono (by omega))
  have q6 := Q5.out.below hb6 s5
  have s6 : y < w6.heap.size := by have := hb6.size; omega
  have dcd : (cd != cd) = false := by simp
  have dcd2 : (cd == cd) = true := by simp
  clear Hs hs' Q5 hb6 b5 s5 HEP Hw5
  obtain ⟨p0, p1, p2, p3, p4, p5⟩ := q6
  go_wp2_with fail
  refine (eqAgg_any r r _).mono ?_
  rintro x w7 ⟨b, hb, rfl, hb7⟩
  obtain rfl : b = true := hb.2 (by trivial)
  have b7 : Hid (Below x0 w w7) := Lib.hid ((b6.alloc (by omega) (.cells #[.int .i64 r.cnt, .int .i64 r.sum, .int .i64 r.mn, .int .i64 r.mx, .int .i64 r.fst, .int .i64 r.lst] 26)).trans (hb7.mono (by simp; omega)))
  clear hb hb7 p0 p1 p2 p3 p4 p5
  go_wp2
  go_ret
  exact ⟨rfl, by rw [Hx0.out]; exact b7.out⟩

set_option maxRecDepth 100000 in
theorem contract (H : Type) (enc : TypeId × Value → H) (W : World) (base : Nat) (args : Array Value) (ds gs : List (DataW H)) (before : List MemPlace)
    (hval0 : ∀ (j : Nat) t v, Tryz.f3.params[j]? = some t → args[j]? = some v → Value.okWide Tryz.prog W .any base t v)
    (hW : DataW.Whole enc Tryz.prog Tryz.f3.params.toList Rows.fnExactWindowOfSpec.vars false W args.toList ds gs before) (hL : laidMetH Tryz.prog Rows.fnExactWindowOfRow.laid W) (hSh : W.ShapedOpen Tryz.prog) :
    Calls Tryz.prog 3 args W fun e W' => ∃ v, e = .returned v ∧ Rows.fnExactWindowOfSpec.post enc Tryz.prog Tryz.f3 false true false false W args v W' := by
  obtain ⟨hQ, hz⟩ := paths_in hL (List.mem_cons_of_mem _ (List.mem_cons_of_mem _ (List.mem_cons_of_mem _ (List.mem_cons_of_mem _ (List.mem_cons_of_mem _ (List.mem_cons_of_mem _ List.mem_cons_self))))))
  have hT := pow_in hL (List.mem_cons_of_mem _ (List.mem_cons_of_mem _ List.mem_cons_self))
  have hE := errs_in hL (List.mem_cons_of_mem _ (List.mem_cons_of_mem _ (List.mem_cons_of_mem _ (List.mem_cons_of_mem _ List.mem_cons_self)))) (List.mem_cons_of_mem _ (List.mem_cons_of_mem _ (List.mem_cons_of_mem _ (List.mem_cons_of_mem _ (List.mem_cons_of_mem _ List.mem_cons_self)))))
  have hval : ∀ (j : Nat) t v, Tryz.f3.params[j]? = some t → args[j]? = some v → Value.okWide Tryz.prog W .any base t v := hval0
  have hW' := hW
  have hlt : ∀ p ∈ before, p.block < W.heap.size := fun p hp => hW.lt p hp
  obtain ⟨p, q, hA0, hV, rfl, hfz, hnd⟩ := hW
  have hA : DataW.TrodAll enc Tryz.prog W 0 (fun _ => true) true Tryz.f3.params.toList args.toList ds p := hA0
  rw [Tryz.params3] at hA hval
  obtain ⟨v0, vs0, d0, ds0, p0, q0, hargs, rfl, rfl, h0, r0⟩ := trodAll_cons hA
  obtain ⟨v1, vs1, d1, ds1, p1, q1, rfl, rfl, rfl, h1, r1⟩ := trodAll_cons r0
  obtain ⟨v2, vs2, d2, ds2, p2, q2, rfl, rfl, rfl, h2, r2⟩ := trodAll_cons r1
  obtain ⟨v3, vs3, d3, ds3, p3, q3, rfl, rfl, rfl, h3, r3⟩ := trodAll_cons r2
  obtain ⟨rfl, rfl, rfl⟩ := trodAll_nil r3
  obtain rfl : args = #[v0, v1, v2, v3] := by cases args; simp_all
  have hV1 : DataW.TrodVars enc Tryz.prog W (fun _ => true) ["loop.example/g00601/impl.tierPaths"] gs q := hV
  obtain ⟨dg, rfl⟩ : ∃ d, gs = [d] := by obtain ⟨_, _, _, _, d, _, h, _⟩ := trodVars_one hV1; exact ⟨d, h⟩
  have k0 := h0
  have lt0 : ∀ x ∈ p0, x.block < W.heap.size := by obtain ⟨m, hm⟩ := k0; exact DataW.trod_lt m _ _ _ hm
  obtain ⟨e0, rfl, ft0⟩ := open_lent (hval 0 23 v0 rfl rfl) h0
  have k1 := h1
  have lt1 : ∀ x ∈ p1, x.block < W.heap.size := by obtain ⟨m, hm⟩ := k1; exact DataW.trod_lt m _ _ _ hm
  obtain ⟨s1, rfl, hd1, hp1, ls1⟩ := Go.ChangeMaps.open_string Tryz.underlying9 (hval 1 9 v1 rfl rfl) h1
  have k2 := h2
  have lt2 : ∀ x ∈ p2, x.block < W.heap.size := by obtain ⟨m, hm⟩ := k2; exact DataW.trod_lt m _ _ _ hm
  obtain ⟨i2, rfl, hd2, hp2, wi2⟩ := open_int Tryz.underlying3 (hval 2 3 v2 rfl rfl) h2
  have k3 := h3
  have lt3 : ∀ x ∈ p3, x.block < W.heap.size := by obtain ⟨m, hm⟩ := k3; exact DataW.trod_lt m _ _ _ hm
  obtain ⟨i3, rfl, hd3, hp3, wi3⟩ := open_int Tryz.underlying3 (hval 3 3 v3 rfl rfl) h3
  clear hA0 hval0
  refine (walk e0 s1 i2 i3 W ft0 ls1 hE hT (maxL_of hSh) hQ hz).mono fun e W' ⟨he, bel⟩ => ?_
  subst he
  exact ⟨_, rfl, _, _, _, [], _, _, hW', trodAll_mk1 (shut_bool Tryz.underlying4 _), (trodAll_cons_mk (Below.trod laidOut (by kernel_rfl) (of_decide_eq_true (by kernel_rfl)) k0 bel lt0) (trodAll_cons_mk (Below.trod laidOut (by kernel_rfl) (of_decide_eq_true (by kernel_rfl)) k1 bel lt1) (trodAll_cons_mk (Below.trod laidOut (by kernel_rfl) (of_decide_eq_true (by kernel_rfl)) k2 bel lt2) (trodAll_cons_mk (Below.trod laidOut (by kernel_rfl) (of_decide_eq_true (by kernel_rfl)) k3 bel lt3) trodAll_mk0)))), vars_backs bel ["loop.example/g00601/impl.tierPaths"] _ _ (by
    intro n hn
    simp only [List.mem_cons, List.not_mem_nil, or_false] at hn
    subst hn
    · exact ⟨_, _, gTab, gTabType, Or.inl rfl, hz⟩) hV1 (fun x hx => hlt x (List.mem_append_right _ hx)), bel.frame _, fun h => by cases h⟩

theorem laid_met (os : Os) : laidMet Tryz.prog Rows.fnExactWindowOfRow.laid ((laidWorldZ os).forCall (fun _ _ => 0) ⟨#[], #[.agg #[.int .i64 0, .int .i64 0, .int .i64 0, .string ByteArray.empty], .string ByteArray.empty, .int .i64 0, .int .i64 0], []⟩).memory :=
  laidMet_of_run3 8 (by kernel_rfl) (by kernel_rfl) (by kernel_rfl)

theorem reads (os : Os) {H : Type} (enc : TypeId × Value → H) : ∃ places, DataW.whole enc Tryz.prog ((laidWorldZ os).forCall (fun _ _ => 0) ⟨#[], #[.agg #[.int .i64 0, .int .i64 0, .int .i64 0, .string ByteArray.empty], .string ByteArray.empty, .int .i64 0, .int .i64 0], []⟩).memory Tryz.f3.params.toList Rows.fnExactWindowOfSpec.vars false (#[.agg #[.int .i64 0, .int .i64 0, .int .i64 0, .string ByteArray.empty], .string ByteArray.empty, .int .i64 0, .int .i64 0] : Array Value).toList 8 = some ([.agg [.lit (.int .i64 0), .lit (.int .i64 0), .lit (.int .i64 0), .lit (.string [])], .lit (.string []), .lit (.int .i64 0), .lit (.int .i64 0)], [.agg (pl.map fun z => .lit (.string z))], places) :=
  ⟨MemPlace.row ⟨1, 0, none⟩ 3, by kernel_rfl⟩

set_option maxRecDepth 100000 in
theorem lifted (os : Os) (started : os.Started) (H : Type) (enc : TypeId × Value → H) (F : Stop.Interp) :
    ReturnsInHanded {} Tryz.checked os 3 .any ((OpenSpec.ofChange Rows.fnExactWindowOfSpec).preRow enc Tryz.prog Tryz.f3 Rows.fnExactWindowOfRow.domain false Rows.fnExactWindowOfRow.laid) (((OpenSpec.ofChange Rows.fnExactWindowOfSpec).at F).post enc Tryz.prog Tryz.f3 false true false false) := by
  obtain ⟨places, hx⟩ := reads os enc
  refine returnsInHanded_of_row (C := Tryz.checked) (s := OpenSpec.ofChange Rows.fnExactWindowOfSpec) own started (by kernel_rfl) Tryz.func3
    (witness_row_at (enc := enc) (C := Tryz.checked) false (laidWorldZ os) #[.agg #[.int .i64 0, .int .i64 0, .int .i64 0, .string ByteArray.empty], .string ByteArray.empty, .int .i64 0, .int .i64 0] rfl (by kernel_rfl) (by kernel_rfl) (by kernel_rfl)
      (OpenSpec.preRow_of_cond 8 hx (by kernel_rfl) (fun k hk => by cases hk) (by kernel_rfl) (laid_met os))) ?_
  intro W base args ds gs before hval hW _ _ _ hL hSh _
  exact contract H enc W base args ds gs before hval hW hL hSh

theorem said : Rows.FnExactWindowOfSaid :=
  OpenClaim.holds_of_cond 3 Tryz.f3 rfl rfl rfl rfl rfl rfl rfl ⟨rfl, rfl, rfl, rfl, rfl⟩ rfl rfl rfl rfl rfl (by kernel_rfl) Tryz.func3 (by kernel_rfl)
    (of_decide_eq_true (by kernel_rfl)) (by unfold Func.isWrapper; first | (rw [if_pos (by decide +kernel)]; kernel_rfl) | (rw [if_neg (by decide +kernel)]; exact ⟨rfl, rfl⟩))
    (fun os started H enc _ F => by rw [OpenClaim.pre_eq_preRow]; exact lifted os started H enc F)

theorem plain (f : FuncId) (fn : Func) (hf : Tryz.pinned.checked.prog.funcNamed "loop.example/g00601/laws.FnExactWindowOf" = some f) (hfn : Tryz.pinned.checked.prog.funcs[f]? = some fn) :
    true = Tryz.pinned.checked.prog.looks [] ∧ ∀ (j : Nat) t, fn.params[j]? = some t → Tryz.pinned.checked.prog.wantsStandIn t = false := by
  obtain rfl : f = 3 := Option.some.inj ((show Tryz.prog.funcNamed "loop.example/g00601/laws.FnExactWindowOf" = some 3 by kernel_rfl).symm.trans hf) |>.symm
  obtain rfl : fn = Tryz.f3 := (Option.some.inj (Tryz.func3.symm.trans hfn)).symm
  refine ⟨by kernel_rfl, fun j t ht => ?_⟩
  rw [Tryz.params3] at ht
  have hm := Array.mem_of_getElem? ht
  simp at hm
  rcases hm with rfl | rfl | rfl
  · exact (show Tryz.prog.wantsStandIn 23 = false by kernel_rfl)
  · exact (show Tryz.prog.wantsStandIn 9 = false by kernel_rfl)
  · exact (show Tryz.prog.wantsStandIn 3 = false by kernel_rfl)

theorem proved : Rows.FnExactWindowOfCardSaid :=
  Claim7.holds_tied_plain_at .later [] _ _ _ _ said (fun _ h => by cases h) (by kernel_rfl) (fun _ h => by cases h) fnExactWindowOf_row_tie rfl ⟨rfl, rfl⟩ (by kernel_rfl) rfl plain (by kernel_rfl)
#print axioms proved
end Go.Proofs.YtpackpocnonpiaaGreatDoor.fnExactWindowOf
