/-
  'laws.FnExactLeaseOf' answers true at every input: LeaseOf answers as its model does, and writes into no argument. Conditions: the library's tables hold what its text lays there (tied by the card).
-/
import Derived.Test.YtkpaocejpjhkpaaDoorLseOfS
import Derived.Test.YtkpaocejpjhkpaaDoorMarkStore
import Derived.Test.YtkpaocejpjhkpaaDoorOpen
import Derived.Deep.RegionHeld3
import Derived.Test.YtkpaocejpjhkpaaDoorDoorErr
import Derived.Test.YtkpaocejpjhkpaaDoorCards
import Derived.Test.YtkpaocejpjhkpaaDoorTie
import Derived.ProofKit
import Derived.OpenShut
import Derived.Deep.DeepHandedRow
import Derived.Lib.LaidTab
import Derived.Outline
import Derived.ShutString
namespace Go.Proofs.YtkpaocejpjhkpaaDoor.fnExactLeaseOf
open Go.ChangeShapes Go.WideShapes Go.ChangeAt Go.RowKit
set_option linter.unusedVariables false

set_option maxRecDepth 100000 in
set_option maxHeartbeats 1000000 in
theorem walk (A : Option Addr) (c : Nat) (next : Int) (xs : List GObj) (w : World) (h : ObjsAt w w.heap.size A xs) (hf : ∀ o ∈ xs, o.fit) (hl : xs.length ≤ maxLen) (hE : Errs w) (hP : Pow w) (hM : MaxL w) :
    Calls Tryd.prog 5 #[.agg #[.slice A xs.length c, .int .i64 next]] w fun e w' => e = .returned (.bool true) ∧ Below w.heap.size w w' := by
  have H := Lib.hid h; clear h
  have Hf := Lib.hid hf; clear hf
  have hEP := fun w' (h : Below w.heap.size w w') => And.intro (hE.below h (Nat.le_refl _)) (And.intro (hP.below h (Nat.le_refl _)) (hM.below h (Nat.le_refl _)))
  have HEP := Lib.hid hEP; clear hEP hE hP hM
  go_enter Tryd.func5, Tryd.ntmps5
  go_wp2_with fail
  obtain ⟨W, hW⟩ : ∃ W, W = w.alloc (.cells #[.slice A xs.length c, .int .i64 next] 35) := ⟨_, rfl⟩
  have t0 : Two W w.heap.size (.slice A xs.length c) (.int .i64 next) := by rw [hW]; exact Two.new _ _ _ _
  have b0 : Below w.heap.size w W := by rw [hW]; exact bal (Below.refl _ _) _
  have s0 : w.heap.size < W.heap.size := by rw [hW]; simp
  rw [← hW]
  clear hW
  have T0 := Lib.hid t0; clear t0
  generalize hx0 : w.heap.size = x0 at *
  have Hx0 := Lib.hid hx0; clear hx0
  have hB : x0 ≤ W.heap.size := by omega
  refine (szStore_any A c next xs 1048576 x0 W (Sl.below H.out b0 (Nat.le_refl _)) hB (fun o ho => (Hf.out o ho).1) hl (by omega) (by omega)).mono ?_
  rintro e w1 ⟨v, hv, hv1, hv2, rfl, hb1⟩
  have Hv := Lib.hid hv; clear hv
  have b1 : Below x0 w w1 := b0.trans (hb1.mono hB)
  obtain ⟨t10, t11⟩ := T0.out.below hb1 s0
  by_cases hneg : v < 0
  · have d : decide (v < 0) = true := by simpa using hneg
    go_wp2
    go_ret
    exact ⟨rfl, by rw [Hx0.out]; exact b1⟩
  · have d : decide (v < 0) = false := by simpa using hneg
    obtain ⟨⟨hlen, hsm⟩, _⟩ := Hv.out (by omega)
    clear Hv hsm
    have T1 := Lib.hid (T0.out.below hb1 s0)
    have s1 : x0 < w1.heap.size := by have := hb1.size; omega
    clear T0 hb1 b0 s0 hB
    go_wp2_with fail
    refine (toStore_any A c next xs x0 w1 (Sl.below H.out b1 (Nat.le_refl _)) (by omega) hlen).mono ?_
    rintro e w2 ⟨A2, c2, rfl, ho2, hf2, hbl2, hc2, hb2⟩
    have Ho2 := Lib.hid ho2; clear ho2 hf2 hbl2 hc2
    have b2 : Below x0 w w2 := b1.trans (hb2.mono (by omega))
    have T2 := Lib.hid (T1.out.below hb2 s1)
    have s2 : x0 < w2.heap.size := by have := hb2.size; omega
    clear T1 hb2 t10 t11 b1
    go_wp2_with fail
    refine (specLeaseOf_any A2 c2 next xs w2.heap.size w2 Ho2.out (Nat.le_refl _) Hf.out hlen).mono ?_
    rintro e w2b ⟨a, cd, rfl, hbb, hb3⟩
    have Hbb := Lib.hid hbb; clear hbb
    have b3 : Below x0 w w2b := b2.trans (hb3.mono (by omega))
    have T3 := Lib.hid (T2.out.below hb3 s2)
    have s3 : x0 < w2b.heap.size := by have := hb3.size; omega
    obtain ⟨t10, t11⟩ := T2.out.below hb3 s2
    clear T2 hb3 Ho2 b2
    go_wp2_with fail
    obtain ⟨w3, hw3⟩ : ∃ w3, w3 = w2b.alloc (.cells #[.int .i64 a.tk, .int .i64 a.ow, .int .i64 a.un] 26) := ⟨_, rfl⟩
    have l3 : Thr w3 w2b.heap.size a := by rw [hw3]; exact Thr.new _ _ _
    have bv : Below w2b.heap.size w2b w3 := by rw [hw3]; exact bal (Below.refl _ _) _
    have sv : w2b.heap.size < w3.heap.size := by rw [hw3]; simp
    rw [← hw3]
    clear hw3 t10 t11
    have b3' : Below x0 w w3 := b3.trans (bv.mono (by omega))
    have T3' := Lib.hid (T3.out.below bv s3)
    have L3 := Lib.hid l3
    clear l3 T3 bv b3
    generalize w2b.heap.size = y3 at *
    refine (toStore_any A c next xs x0 w3 (Sl.below H.out b3' (Nat.le_refl _)) (by omega) hlen).mono ?_
    rintro e w4 ⟨A4, c4, rfl, ho4, hf4, hbl4, hc4, hb4⟩
    have Ho4 := Lib.hid ho4; clear ho4 hf4 hbl4 hc4
    have b4 : Below x0 w w4 := b3'.trans (hb4.mono (by omega))
    have T4 := Lib.hid (T3'.out.below hb4 (by omega))
    have L4 := Lib.hid (L3.out.below hb4 sv)
    have s4 : x0 < w4.heap.size := by have := hb4.size; omega
    have sy4 : y3 < w4.heap.size := by have := hb4.size; omega
    clear T3' L3 hb4 b3'
    go_wp2_with fail
    obtain ⟨W5, hW5⟩ : ∃ W5, W5 = w4.alloc (.cells #[.slice A4 xs.length c4, .int .i64 next] 40) := ⟨_, rfl⟩
    have t5 : Two W5 w4.heap.size (.slice A4 xs.length c4) (.int .i64 next) := by rw [hW5]; exact Two.new _ _ _ _
    have bb5 : Below w4.heap.size w4 W5 := by rw [hW5]; exact bal (Below.refl _ _) _
    have s5 : w4.heap.size < W5.heap.size := by rw [hW5]; simp
    rw [← hW5]
    clear hW5
    have b5 : Below x0 w W5 := b4.trans (bb5.mono (by omega))
    have T5 := Lib.hid t5; clear t5
    have TA5 := Lib.hid (T4.out.below bb5 s4)
    have L5 := Lib.hid (L4.out.below bb5 sy4)
    have Ho5 := Lib.hid (Sl.below Ho4.out bb5 (Nat.le_refl _))
    clear T4 L4 Ho4 bb5 b4
    generalize w4.heap.size = x4 at *
    refine (leaseOf_any A4 c4 next xs x4 W5 Ho5.out (by omega) Hf.out hlen (HEP.out W5 b5).1 (HEP.out W5 b5).2.1 (HEP.out W5 b5).2.2).mono ?_
    rintro e w5 ⟨a', cd', rfl, hbb', hb6⟩
    obtain ⟨rfl, rfl⟩ := Hbb.out.one hbb'
    have b5' : Below x0 w w5 := b5.trans (hb6.mono (by omega))
    have T5' := Lib.hid (T5.out.below hb6 s5)
    have TA5' := Lib.hid (TA5.out.below hb6 (by omega))
    obtain ⟨p0, p1, p2⟩ := L5.out.below hb6 (by omega)
    have Ho5' := Lib.hid (Sl.below Ho5.out hb6 (by omega))
    have s5' : x4 < w5.heap.size := by have := hb6.size; omega
    have sy5 : y3 < w5.heap.size := by have := hb6.size; omega
    have dcd : (cd != cd) = false := by simp
    clear hbb' Hbb T5 TA5 L5 hb6 Ho5 b5
    go_wp2_with fail
    refine (eqLease_any a a _).mono ?_
    rintro e w6 ⟨be, hbe, rfl, hb6⟩
    obtain rfl : be = true := hbe.2 rfl
    have bb : Below w5.heap.size w5 w6 := (bal (Below.refl _ w5) _).trans (hb6.mono (by simp))
    have b6 : Below x0 w w6 := b5'.trans (bb.mono (by omega))
    obtain ⟨t50, t51⟩ := T5'.out.below bb s5'
    obtain ⟨t10, t11⟩ := TA5'.out.below bb (by omega)
    have Ho6 := Lib.hid (Sl.below Ho5'.out bb (by omega))
    have s6 : x4 < w6.heap.size := by have := bb.size; omega
    have s60 : x0 < w6.heap.size := by omega
    clear hbe hb6 bb p0 p1 p2 T5' TA5' Ho5' b5'
    go_wp2_with fail
    go_region_held3 (fun w' => w'.cell? ⟨x4, 0, none⟩ = some (.slice A4 xs.length c4) ∧ w'.cell? ⟨x4, 1, none⟩ = some (.int .i64 next) ∧ w'.cell? ⟨x0, 0, none⟩ = some (.slice A xs.length c) ∧ w'.cell? ⟨x0, 1, none⟩ = some (.int .i64 next))
      (first | go_keep | exact ⟨(hb7.cell s6).trans t50, (hb7.cell s6).trans t51, (hb7.cell s60).trans t10, (hb7.cell s60).trans t11⟩ | exact ⟨(hb8.cell s67).trans ((hb7.cell s6).trans t50), (hb8.cell s67).trans ((hb7.cell s6).trans t51), (hb8.cell s607).trans ((hb7.cell s60).trans t10), (hb8.cell s607).trans ((hb7.cell s60).trans t11)⟩)
      (first
        | (go_at_call 15; refine (toStore_any A c next xs x0 w6.drew (by exact Sl.below H.out b6.drew (Nat.le_refl _)) (by exact Nat.le_of_lt s60) hlen).mono ?_; rintro e w7 ⟨A7, c7, rfl, ho7, hf7, hbl7, hc7, hb7⟩; have Ho7 := Lib.hid ho7; clear ho7 hf7 hbl7 hc7; have hb7' : Below w6.heap.size w6 w7 := (Below.refl _ _).drew.trans hb7; have s67 : x4 < w7.heap.size := Nat.lt_of_lt_of_le s6 hb7.size; have s607 : x0 < w7.heap.size := Nat.lt_of_lt_of_le s60 hb7.size)
        | (go_at_call 17; refine (eqStore_any A4 A7 c4 c7 next next xs xs w7.heap.size w7 (by exact Sl.more (Sl.below Ho6.out hb7' (Nat.le_of_lt s6)) (Nat.le_of_lt s67)) Ho7.out (Nat.le_refl _) (by omega) (by omega)).mono ?_; rintro e w8 ⟨be, hbe, rfl, hb8⟩; obtain rfl : be = true := hbe.2 ⟨rfl, rfl⟩; clear hbe))
    have b8 : Below x0 w w8 := (b6.trans (hb7'.mono (Nat.le_of_lt s60))).trans (hb8.mono (Nat.le_of_lt s607))
    clear t50 t51 t10 t11 hb7 hb7' hb8 b6 Ho6 Ho7
    go_wp2
    go_ret
    exact ⟨rfl, by rw [Hx0.out]; exact b8⟩

set_option maxRecDepth 100000 in
theorem contract (H : Type) (enc : TypeId × Value → H) (W : World) (base : Nat) (args : Array Value) (ds gs : List (DataW H)) (before : List MemPlace)
    (hval0 : ∀ (j : Nat) t v, Tryd.f5.params[j]? = some t → args[j]? = some v → Value.okWide Tryd.prog W .any base t v)
    (hW : DataW.Whole enc Tryd.prog Tryd.f5.params.toList Rows.fnExactLeaseOfSpec.vars false W args.toList ds gs before) (hL : laidMetH Tryd.prog Rows.fnExactLeaseOfRow.laid W) (hSh : W.ShapedOpen Tryd.prog) :
    Calls Tryd.prog 5 args W fun e W' => ∃ v, e = .returned v ∧ Rows.fnExactLeaseOfSpec.post enc Tryd.prog Tryd.f5 false true false false W args v W' := by
  have hP : Pow W := pow_of hL
  have hval : ∀ (j : Nat) t v, Tryd.f5.params[j]? = some t → args[j]? = some v → Value.okWide Tryd.prog W .any base t v := hval0
  have hW' := hW
  obtain ⟨p, q, hA0, hV, rfl, hfz, hnd⟩ := hW
  have hA : DataW.TrodAll enc Tryd.prog W 0 (fun _ => true) true Tryd.f5.params.toList args.toList ds p := hA0
  rw [Tryd.params5] at hA hval
  obtain ⟨v0, vs0, d0, ds0, p0, q0, hargs, rfl, rfl, h0, r0⟩ := trodAll_cons hA
  obtain ⟨rfl, rfl, rfl⟩ := trodAll_nil r0
  obtain rfl : args = #[v0] := by cases args; simp_all
  obtain ⟨rfl, rfl⟩ := trodVars_none hV
  have k0 := h0
  have lt0 : ∀ x ∈ p0, x.block < W.heap.size := by obtain ⟨m, hm⟩ := k0; exact DataW.trod_lt m _ _ _ hm
  obtain ⟨A0, c0, xs0, nx0, rfl, ob0, ft0, ln0, wn0⟩ := open_store (hval 0 35 v0 rfl rfl) h0
  clear hA0 hval0
  refine (walk A0 c0 nx0 xs0 W ob0 ft0 ln0 (errs_of7 hL) hP (maxL_of hSh)).mono fun e W' ⟨he, bel⟩ => ?_
  subst he
  exact ⟨_, rfl, _, _, _, [], _, [], hW', trodAll_mk1 (shut_bool Tryd.underlying4 _), (trodAll_cons_mk (Below.trod laidOut (by kernel_rfl) (of_decide_eq_true (by kernel_rfl)) k0 bel lt0) trodAll_mk0), rfl, bel.frame _, fun h => by cases h⟩

theorem laid_met (os : Os) : laidMet Tryd.prog Rows.fnExactLeaseOfRow.laid ((laidWorld7 os).forCall (fun _ _ => 0) ⟨#[], #[.agg #[.slice none 0 0, .int .i64 0]], []⟩).memory :=
  laidMet_of_run3 8 (by kernel_rfl) (by kernel_rfl) (by kernel_rfl)

theorem reads (os : Os) {H : Type} (enc : TypeId × Value → H) : ∃ places, DataW.whole enc Tryd.prog ((laidWorld7 os).forCall (fun _ _ => 0) ⟨#[], #[.agg #[.slice none 0 0, .int .i64 0]], []⟩).memory Tryd.f5.params.toList Rows.fnExactLeaseOfSpec.vars false (#[.agg #[.slice none 0 0, .int .i64 0]] : Array Value).toList 8 = some ([.agg [.nil, .lit (.int .i64 0)]], [], places) :=
  ⟨[], by kernel_rfl⟩

set_option maxRecDepth 100000 in
theorem lifted (os : Os) (started : os.Started) (H : Type) (enc : TypeId × Value → H) (F : Stop.Interp) :
    ReturnsInHanded {} Tryd.checked os 5 .any ((OpenSpec.ofChange Rows.fnExactLeaseOfSpec).preRow enc Tryd.prog Tryd.f5 Rows.fnExactLeaseOfRow.domain false Rows.fnExactLeaseOfRow.laid) (((OpenSpec.ofChange Rows.fnExactLeaseOfSpec).at F).post enc Tryd.prog Tryd.f5 false true false false) := by
  obtain ⟨places, hx⟩ := reads os enc
  refine returnsInHanded_of_row (C := Tryd.checked) (s := OpenSpec.ofChange Rows.fnExactLeaseOfSpec) own started (by kernel_rfl) Tryd.func5
    (witness_row_at (enc := enc) (C := Tryd.checked) false (laidWorld7 os) #[.agg #[.slice none 0 0, .int .i64 0]] rfl (by kernel_rfl) (by kernel_rfl) (by kernel_rfl)
      (OpenSpec.preRow_of_cond 8 hx (by kernel_rfl) (fun k hk => by cases hk) (by kernel_rfl) (laid_met os))) ?_
  intro W base args ds gs before hval hW _ _ _ hL hSh _
  exact contract H enc W base args ds gs before hval hW hL hSh

theorem said : Rows.FnExactLeaseOfSaid :=
  OpenClaim.holds_of_cond 5 Tryd.f5 rfl rfl rfl rfl rfl rfl rfl ⟨rfl, rfl, rfl, rfl, rfl⟩ rfl rfl rfl rfl rfl (by kernel_rfl) Tryd.func5 (by kernel_rfl)
    (of_decide_eq_true (by kernel_rfl)) (by unfold Func.isWrapper; first | (rw [if_pos (by decide +kernel)]; kernel_rfl) | (rw [if_neg (by decide +kernel)]; exact ⟨rfl, rfl⟩))
    (fun os started H enc _ F => by rw [OpenClaim.pre_eq_preRow]; exact lifted os started H enc F)

theorem plain (f : FuncId) (fn : Func) (hf : Tryd.pinned.checked.prog.funcNamed "loop.example/g00601/laws.FnExactLeaseOf" = some f) (hfn : Tryd.pinned.checked.prog.funcs[f]? = some fn) :
    true = Tryd.pinned.checked.prog.looks [] ∧ ∀ (j : Nat) t, fn.params[j]? = some t → Tryd.pinned.checked.prog.wantsStandIn t = false := by
  obtain rfl : f = 5 := Option.some.inj ((show Tryd.prog.funcNamed "loop.example/g00601/laws.FnExactLeaseOf" = some 5 by kernel_rfl).symm.trans hf) |>.symm
  obtain rfl : fn = Tryd.f5 := (Option.some.inj (Tryd.func5.symm.trans hfn)).symm
  refine ⟨by kernel_rfl, fun j t ht => ?_⟩
  rw [Tryd.params5] at ht
  obtain rfl : t = 35 := by simpa using Array.mem_of_getElem? ht
  exact (show Tryd.prog.wantsStandIn 35 = false by kernel_rfl)

theorem proved : Rows.FnExactLeaseOfCardSaid :=
  Claim7.holds_tied_plain_at .later [] _ _ _ _ said (fun _ h => by cases h) (by kernel_rfl) (fun _ h => by cases h) fnExactLeaseOf_row_tie rfl ⟨rfl, rfl⟩ (by kernel_rfl) rfl plain (by kernel_rfl)
#print axioms proved
end Go.Proofs.YtkpaocejpjhkpaaDoor.fnExactLeaseOf
