/-
  'laws.FnExactReadBuckets' answers true at every input: ReadBuckets answers as its model does, and what it answers is of its own. Conditions: the library's tables hold what its text lays there (tied by the card).
-/
import Derived.Test.YtcocgocnffnkpaaDoorReadRB
import Derived.Test.YtcocgocnffnkpaaDoorMarkBkt
import Derived.Test.YtcocgocnffnkpaaDoorDoorErr
import Derived.Test.YtcocgocnffnkpaaDoorCards
import Derived.Test.YtcocgocnffnkpaaDoorTie
import Derived.ProofKit
import Derived.OpenShut
import Derived.Deep.DeepHandedRow
import Derived.Lib.LaidTab
import Derived.Outline
import Derived.ShutString
namespace Go.Proofs.YtcocgocnffnkpaaDoor.fnExactReadBuckets
open Go.ChangeShapes Go.WideShapes Go.ChangeAt Go.RowKit
set_option linter.unusedVariables false

theorem code_len {t : ByteArray} {xs : List GBkt} {cd : Int} (h : BktCode t xs cd) : xs.length ≤ 8 := by
  rcases h with ⟨_, rfl, _⟩ | ⟨_, h, _⟩ | ⟨_, _, rfl, _⟩
  · simp
  · exact h.1.1
  · simp

set_option maxRecDepth 100000 in
theorem walk (t : ByteArray) (w : World) (ht : t.size ≤ 2 ^ 63 - 1) (hE : Errs w) (hP : Pow w) (hM : MaxL w) : Calls Tryd.prog 9 #[.string t] w fun e w' => e = .returned (.bool true) ∧ Below w.heap.size w w' := by
  have HE := Lib.hid hE; clear hE
  have HP := Lib.hid hP; clear hP
  have HM := Lib.hid hM; clear hM
  cases hl : decide (1048576 < (t.size : Int))
  rotate_left
  · go_enter Tryd.func9, Tryd.ntmps9
    go_wp2
    go_ret
    exact ⟨rfl, Below.refl _ _⟩
  go_enter Tryd.func9, Tryd.ntmps9
  go_wp2_with fail
  refine (specReadBuckets_any t w ht).mono ?_
  rintro e w1 ⟨A0, k0, xs, cd, rfl, hC, hO0, hb1⟩
  have HC := Lib.hid hC
  have h8 := code_len hC
  obtain ⟨hs0, _, hk0, _⟩ := OwnSl.sl hO0 (fun x => rfl)
  have HS0 := Lib.hid hs0; have HK0 := Lib.hid hk0
  clear hC hO0 hs0 hk0
  go_wp2_with fail
  refine (readBuckets_any t w1 ht (HE.out.below hb1 (Nat.le_refl _)) (HP.out.below hb1 (Nat.le_refl _)) (HM.out.below hb1 (Nat.le_refl _))).mono ?_
  rintro e w2 ⟨A1, k1, xs', cd', rfl, hC', hO1, hb2⟩
  obtain ⟨rfl, rfl⟩ := bktCode_one HC.out hC'
  have b2 := bnext hb1 hb2
  obtain ⟨hs1, hf1, hk1, _⟩ := OwnSl.sl hO1 (fun x => rfl)
  have HS1 := Lib.hid hs1; have HF1 := Lib.hid hf1; have HK1 := Lib.hid hk1
  have HS02 := Lib.hid (Sl.more (Sl.below HS0.out hb2 (Nat.le_refl _)) hb2.size)
  have hz1 := hb1.size
  have hz2 := hb2.size
  have HB12 := Lib.hid hb2
  clear hC' hO1 hs1 hf1 hk1 hb2
  go_wp2_with fail
  refine (eqBucketS_any A1 A0 k1 k0 xs xs w2.heap.size w2 HS1.out HS02.out (Nat.le_refl _) (by omega) (by omega)).mono ?_
  rintro e w3 ⟨b, hb, rfl, hb3⟩
  obtain rfl : b = true := hb.2 rfl
  have b3 := bnext b2 hb3
  have hz3 := hb3.size
  have HS3 := Lib.hid (Sl.below HS1.out hb3 (Nat.le_refl _))
  have HF3 := Lib.hid (HF1.out.below hb3 (fun b e => (HK1.out b e).2))
  have HS03 := Lib.hid (Sl.below HS0.out (show Below w1.heap.size w1 w3 from (show Below w1.heap.size w1 w2 from HB12.out).trans (hb3.mono hz2)) (Nat.le_refl _))
  clear hb hb3 HS1 HF1 HS02 b2
  go_wp2_with fail
  refine (markBucketS_any A1 k1 1 xs w2.heap.size w3 HS3.out HF3.out hz3 (by omega) (by omega) (by omega)).mono ?_
  rintro e w4 ⟨rfl, hm4, hg4, _⟩
  have b4 : Below w.heap.size w w4 := b3.trans (below_of_grown hg4 (by omega) (fun g e => by have := (HK1.out g e).1; omega))
  have hz4 := hg4.size
  have HM4 := Lib.hid hm4
  have HS04 := Lib.hid (Sl.grown HS03.out hg4 (by omega) (by
    cases hA : blk A0 with
    | none => exact Or.inl rfl
    | some b =>
      refine Or.inr (fun e => ?_)
      have h1 := (HK0.out b hA).2
      have h2 := (HK1.out b e.symm).1
      omega))
  clear hm4 hg4 b3 HS3 HF3 HS03
  have hp : ¬ (1 + 7 * (xs.length : Int)) < 0 := by omega
  generalize hq : (1 + 7 * (xs.length : Int)) = q at *
  have HQ := Lib.hid hq; clear hq
  have hd0 : decide (q < 0) = false := by simpa using hp
  have hdq : (q != q) = false := by simp
  go_wp2_with fail
  refine (heldBucketS_any A1 k1 xs.length 1 w2.heap.size w4 HM4.out (by omega) (by omega) (by omega) (by omega)).mono ?_
  rw [HQ.out]
  rintro e w5 ⟨rfl, hb5⟩
  have b5 := bnext b4 hb5
  have hz5 := hb5.size
  have HM5 := Lib.hid (Sl.below HM4.out hb5 (by omega))
  have HS05 := Lib.hid (Sl.below HS04.out hb5 (by omega))
  clear b4 hb5 HM4 HS04
  go_wp2_with fail
  refine (readBuckets_any t w5 ht (HE.out.below b5 (Nat.le_refl _)) (HP.out.below b5 (Nat.le_refl _)) (HM.out.below b5 (Nat.le_refl _))).mono ?_
  rintro e w6 ⟨A2, k2, xs', cd', rfl, hC', hO2, hb6⟩
  obtain ⟨rfl, rfl⟩ := bktCode_one HC.out hC'
  have b6 := bnext b5 hb6
  have hz6 := hb6.size
  obtain ⟨hs2, _, _, _⟩ := OwnSl.sl hO2 (fun x => rfl)
  have HS2 := Lib.hid hs2
  have HM6 := Lib.hid (Sl.below HM5.out hb6 (by omega))
  have HS06 := Lib.hid (Sl.more (Sl.below HS05.out hb6 (by omega)) (show w1.heap.size ≤ w6.heap.size by omega))
  clear hC' hO2 hs2 hb6 b5 HM5 HS05
  go_wp2_with fail
  refine (eqBucketS_any A2 A0 k2 k0 xs xs w6.heap.size w6 HS2.out HS06.out (Nat.le_refl _) (by omega) (by omega)).mono ?_
  rintro e w7 ⟨b, hb, rfl, hb7⟩
  obtain rfl : b = true := hb.2 rfl
  have b7 := bnext b6 hb7
  have hz7 := hb7.size
  have HM7 := Lib.hid (Sl.below HM6.out hb7 (by omega))
  clear hb hb7 b6 HM6 HS2 HS06
  go_wp2_with fail
  refine (heldBucketS_any A1 k1 xs.length 1 w2.heap.size w7 HM7.out (by omega) (by omega) (by omega) (by omega)).mono ?_
  rw [HQ.out]
  rintro e w8 ⟨rfl, hb8⟩
  have b8 := bnext b7 hb8
  clear b7 hb8 HM7
  go_wp2
  go_ret
  exact ⟨rfl, b8⟩

set_option maxRecDepth 100000 in
theorem contract (H : Type) (enc : TypeId × Value → H) (W : World) (base : Nat) (args : Array Value) (ds gs : List (DataW H)) (before : List MemPlace)
    (hval0 : ∀ (j : Nat) t v, Tryd.f9.params[j]? = some t → args[j]? = some v → Value.okWide Tryd.prog W .any base t v)
    (hW : DataW.Whole enc Tryd.prog Tryd.f9.params.toList Rows.fnExactReadBucketsSpec.vars false W args.toList ds gs before) (hL : laidMetH Tryd.prog Rows.fnExactReadBucketsRow.laid W) (hSh : W.ShapedOpen Tryd.prog) :
    Calls Tryd.prog 9 args W fun e W' => ∃ v, e = .returned v ∧ Rows.fnExactReadBucketsSpec.post enc Tryd.prog Tryd.f9 false true false false W args v W' := by
  have hP : Pow W := pow_of hL
  have hval : ∀ (j : Nat) t v, Tryd.f9.params[j]? = some t → args[j]? = some v → Value.okWide Tryd.prog W .any base t v := hval0
  have hW' := hW
  obtain ⟨p, q, hA0, hV, rfl, hfz, hnd⟩ := hW
  have hA : DataW.TrodAll enc Tryd.prog W 0 (fun _ => true) true Tryd.f9.params.toList args.toList ds p := hA0
  rw [Tryd.params9] at hA hval
  obtain ⟨v0, vs0, d0, ds0, p0, q0, hargs, rfl, rfl, h0, r0⟩ := trodAll_cons hA
  obtain ⟨rfl, rfl, rfl⟩ := trodAll_nil r0
  obtain rfl : args = #[v0] := by cases args; simp_all
  obtain ⟨rfl, rfl⟩ := trodVars_none hV
  have k0 := h0
  have lt0 : ∀ x ∈ p0, x.block < W.heap.size := by obtain ⟨m, hm⟩ := k0; exact DataW.trod_lt m _ _ _ hm
  obtain ⟨s0, rfl, hd0, hp0, ls0⟩ := Go.ChangeMaps.open_string Tryd.underlying9 (hval 0 9 v0 rfl rfl) h0
  clear hA0 hval0
  refine (walk s0 W ls0 (errs_of7 hL) hP (maxL_of hSh)).mono fun e W' ⟨he, bel⟩ => ?_
  subst he
  exact ⟨_, rfl, _, _, _, [], _, [], hW', trodAll_mk1 (shut_bool Tryd.underlying4 _), (trodAll_cons_mk (Below.trod laidOut (by kernel_rfl) (of_decide_eq_true (by kernel_rfl)) k0 bel lt0) trodAll_mk0), rfl, bel.frame _, fun h => by cases h⟩

theorem laid_met (os : Os) : laidMet Tryd.prog Rows.fnExactReadBucketsRow.laid ((laidWorld7 os).forCall (fun _ _ => 0) ⟨#[], #[.string ByteArray.empty], []⟩).memory :=
  laidMet_of_run3 8 (by kernel_rfl) (by kernel_rfl) (by kernel_rfl)

theorem reads (os : Os) {H : Type} (enc : TypeId × Value → H) : ∃ places, DataW.whole enc Tryd.prog ((laidWorld7 os).forCall (fun _ _ => 0) ⟨#[], #[.string ByteArray.empty], []⟩).memory Tryd.f9.params.toList Rows.fnExactReadBucketsSpec.vars false (#[.string ByteArray.empty] : Array Value).toList 8 = some ([.lit (.string [])], [], places) :=
  ⟨[], by kernel_rfl⟩

set_option maxRecDepth 100000 in
theorem lifted (os : Os) (started : os.Started) (H : Type) (enc : TypeId × Value → H) (F : Stop.Interp) :
    ReturnsInHanded {} Tryd.checked os 9 .any ((OpenSpec.ofChange Rows.fnExactReadBucketsSpec).preRow enc Tryd.prog Tryd.f9 Rows.fnExactReadBucketsRow.domain false Rows.fnExactReadBucketsRow.laid) (((OpenSpec.ofChange Rows.fnExactReadBucketsSpec).at F).post enc Tryd.prog Tryd.f9 false true false false) := by
  obtain ⟨places, hx⟩ := reads os enc
  refine returnsInHanded_of_row (C := Tryd.checked) (s := OpenSpec.ofChange Rows.fnExactReadBucketsSpec) own started (by kernel_rfl) Tryd.func9
    (witness_row_at (enc := enc) (C := Tryd.checked) false (laidWorld7 os) #[.string ByteArray.empty] rfl (by kernel_rfl) (by kernel_rfl) (by kernel_rfl)
      (OpenSpec.preRow_of_cond 8 hx (by kernel_rfl) (fun k hk => by cases hk) (by kernel_rfl) (laid_met os))) ?_
  intro W base args ds gs before hval hW _ _ _ hL hSh _
  exact contract H enc W base args ds gs before hval hW hL hSh

theorem said : Rows.FnExactReadBucketsSaid :=
  OpenClaim.holds_of_cond 9 Tryd.f9 rfl rfl rfl rfl rfl rfl rfl ⟨rfl, rfl, rfl, rfl, rfl⟩ rfl rfl rfl rfl rfl (by kernel_rfl) Tryd.func9 (by kernel_rfl)
    (of_decide_eq_true (by kernel_rfl)) (by unfold Func.isWrapper; first | (rw [if_pos (by decide +kernel)]; kernel_rfl) | (rw [if_neg (by decide +kernel)]; exact ⟨rfl, rfl⟩))
    (fun os started H enc _ F => by rw [OpenClaim.pre_eq_preRow]; exact lifted os started H enc F)

theorem plain (f : FuncId) (fn : Func) (hf : Tryd.pinned.checked.prog.funcNamed "loop.example/g00601/laws.FnExactReadBuckets" = some f) (hfn : Tryd.pinned.checked.prog.funcs[f]? = some fn) :
    true = Tryd.pinned.checked.prog.looks [] ∧ ∀ (j : Nat) t, fn.params[j]? = some t → Tryd.pinned.checked.prog.wantsStandIn t = false := by
  obtain rfl : f = 9 := Option.some.inj ((show Tryd.prog.funcNamed "loop.example/g00601/laws.FnExactReadBuckets" = some 9 by kernel_rfl).symm.trans hf) |>.symm
  obtain rfl : fn = Tryd.f9 := (Option.some.inj (Tryd.func9.symm.trans hfn)).symm
  refine ⟨by kernel_rfl, fun j t ht => ?_⟩
  rw [Tryd.params9] at ht
  obtain rfl : t = 9 := by simpa using Array.mem_of_getElem? ht
  exact (show Tryd.prog.wantsStandIn 9 = false by kernel_rfl)

theorem proved : Rows.FnExactReadBucketsCardSaid :=
  Claim7.holds_tied_plain_at .later [] _ _ _ _ said (fun _ h => by cases h) (by kernel_rfl) (fun _ h => by cases h) fnExactReadBuckets_row_tie rfl ⟨rfl, rfl⟩ (by kernel_rfl) rfl plain (by kernel_rfl)
#print axioms proved
end Go.Proofs.YtcocgocnffnkpaaDoor.fnExactReadBuckets
