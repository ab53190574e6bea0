/-
  'laws.FnExactBucketsText' answers true at every input: BucketsText answers as its model does, and writes into no argument. Conditions: the library's tables hold what its text lays there (tied by the card).
-/
import Derived.Test.YtcocgocnffnkpaaDoorSpecBkt
import Derived.Test.YtcocgocnffnkpaaDoorDoorTab
import Derived.Test.YtcocgocnffnkpaaDoorCards
import Derived.Test.YtcocgocnffnkpaaDoorTie
import Derived.ProofKit
import Derived.OpenShut
import Derived.Deep.DeepHandedRow
import Derived.Lib.LaidTab
import Derived.Outline
import Derived.ShutString
namespace Go.Proofs.YtcocgocnffnkpaaDoor.fnExactBucketsText
open Go.ChangeShapes Go.WideShapes Go.ChangeAt Go.RowKit
set_option linter.unusedVariables false

theorem walk (A : Option Addr) (c : Nat) (xs : List GBkt) (w : World) (h : BktsAt w w.heap.size A xs) (hl : xs.length ≤ maxLen) (hf : ∀ x ∈ xs, GBkt.fit x) (ht : Pow w) :
    Calls Tryd.prog 8 #[.slice A xs.length c] w fun e w' => e = .returned (.bool true) ∧ Below w.heap.size w w' := by
  have H := Lib.hid h; clear h
  have Hf := Lib.hid hf; clear hf
  have Ht := Lib.hid ht; clear ht
  go_enter Tryd.func8, Tryd.ntmps8
  go_wp2_with fail
  refine (szBucketS_any A c xs 1048576 w hl (by omega) (by omega)).mono ?_
  rintro e w' ⟨u, hu, hu1, hu2, rfl, rfl⟩
  have Hu := Lib.hid hu; clear hu
  by_cases hneg : u < 0
  · have d : decide (u < 0) = true := by simpa using hneg
    go_wp2
    go_ret
    exact ⟨rfl, Below.refl _ _⟩
  have d : decide (u < 0) = false := by simpa using hneg
  have hlen : xs.length ≤ 1048576 := by have := (Hu.out (by omega)).1; omega
  clear Hu
  go_wp2_with fail
  refine (toBucketS_any A c xs w.heap.size w H.out (Nat.le_refl _) hlen).mono ?_
  rintro e w2 ⟨A2, c2, rfl, ho2, hf2, hbl2, hc2, hb2⟩
  have Ho2 := Lib.hid ho2; clear ho2 hf2 hbl2 hc2
  go_wp2_with fail
  refine (specBucketsText_any A2 c2 xs w2.heap.size w2 Ho2.out (Nat.le_refl _) hlen Hf.out).mono ?_
  rintro e w3 ⟨s, cd, rfl, hs, hb3⟩
  have Hs := Lib.hid hs; clear hs
  have b3 : Below w.heap.size w w3 := hb2.trans (hb3.mono hb2.size)
  clear hb2 hb3 Ho2
  go_wp2_with fail
  refine (toBucketS_any A c xs w.heap.size w3 (Sl.below H.out b3 (Nat.le_refl _)) b3.size hlen).mono ?_
  rintro e w4 ⟨A4, c4, rfl, ho4, hf4, hbl4, hc4, hb4⟩
  have Ho4 := Lib.hid ho4; clear ho4 hf4 hbl4 hc4
  have b4 : Below w.heap.size w w4 := b3.trans (hb4.mono b3.size)
  clear hb4 b3
  go_wp2_with fail
  refine (bucketsText_any A4 c4 xs w4.heap.size w4 Ho4.out (Nat.le_refl _) hlen Hf.out (Ht.out.below b4 (Nat.le_refl _))).mono ?_
  rintro e w5 ⟨s', cd', rfl, hs', hb5⟩
  obtain ⟨rfl, rfl⟩ := bktT_one Hs.out hs'
  have b5 : Below w.heap.size w w5 := b4.trans (hb5.mono b4.size)
  have Ho5 := Lib.hid (Sl.below Ho4.out hb5 (Nat.le_refl _))
  have s5 := hb5.size
  clear hs' Hs hb5 Ho4
  go_wp2_with fail
  refine (toBucketS_any A c xs w.heap.size w5 (Sl.below H.out b5 (Nat.le_refl _)) b5.size hlen).mono ?_
  rintro e w6 ⟨A6, c6, rfl, ho6, hf6, hbl6, hc6, hb6⟩
  have Ho6 := Lib.hid ho6; clear ho6 hf6 hbl6 hc6
  have b6 : Below w.heap.size w w6 := b5.trans (hb6.mono b5.size)
  go_wp2_with fail
  refine (eqBucketS_any A4 A6 c4 c6 xs xs w6.heap.size w6 (Sl.more (Sl.below Ho5.out hb6 s5) (Nat.le_trans s5 hb6.size)) Ho6.out (Nat.le_refl _) (by omega) (by omega)).mono ?_
  rintro e w7 ⟨be, hbe, rfl, hb7⟩
  obtain rfl : be = true := hbe.2 rfl
  have b7 : Below w.heap.size w w7 := b6.trans (hb7.mono b6.size)
  clear hbe hb7 hb6 b6 b5 b4 Ho5 Ho6
  go_wp2
  go_ret
  exact ⟨rfl, b7⟩

set_option maxRecDepth 100000 in
theorem contract (H : Type) (enc : TypeId × Value → H) (W : World) (base : Nat) (args : Array Value) (ds gs : List (DataW H)) (before : List MemPlace)
    (hval0 : ∀ (j : Nat) t v, Tryd.f8.params[j]? = some t → args[j]? = some v → Value.okWide Tryd.prog W .any base t v)
    (hW : DataW.Whole enc Tryd.prog Tryd.f8.params.toList Rows.fnExactBucketsTextSpec.vars false W args.toList ds gs before) (hL : laidMetH Tryd.prog Rows.fnExactBucketsTextRow.laid W) :
    Calls Tryd.prog 8 args W fun e W' => ∃ v, e = .returned v ∧ Rows.fnExactBucketsTextSpec.post enc Tryd.prog Tryd.f8 false true false false W args v W' := by
  have hP : Pow W := pow_of hL
  have hval : ∀ (j : Nat) t v, Tryd.f8.params[j]? = some t → args[j]? = some v → Value.okWide Tryd.prog W .any base t v := hval0
  have hW' := hW
  obtain ⟨p, q, hA0, hV, rfl, hfz, hnd⟩ := hW
  have hA : DataW.TrodAll enc Tryd.prog W 0 (fun _ => true) true Tryd.f8.params.toList args.toList ds p := hA0
  rw [Tryd.params8] at hA hval
  obtain ⟨v0, vs0, d0, ds0, p0, q0, hargs, rfl, rfl, h0, r0⟩ := trodAll_cons hA
  obtain ⟨rfl, rfl, rfl⟩ := trodAll_nil r0
  obtain rfl : args = #[v0] := by cases args; simp_all
  obtain ⟨rfl, rfl⟩ := trodVars_none hV
  have k0 := h0
  have lt0 : ∀ x ∈ p0, x.block < W.heap.size := by obtain ⟨m, hm⟩ := k0; exact DataW.trod_lt m _ _ _ hm
  obtain ⟨A0, c0, xs0, rfl, ob0, ft0, ln0⟩ := open_lbkts (hval 0 48 v0 rfl rfl) h0
  clear hA0 hval0
  refine (walk A0 c0 xs0 W ob0 ln0 ft0 hP).mono fun e W' ⟨he, bel⟩ => ?_
  subst he
  exact ⟨_, rfl, _, _, _, [], _, [], hW', trodAll_mk1 (shut_bool Tryd.underlying4 _), (trodAll_cons_mk (Below.trod laidOut (by kernel_rfl) (of_decide_eq_true (by kernel_rfl)) k0 bel lt0) trodAll_mk0), rfl, bel.frame _, fun h => by cases h⟩

theorem laid_met (os : Os) : laidMet Tryd.prog Rows.fnExactBucketsTextRow.laid ((laidWorld os).forCall (fun _ _ => 0) ⟨#[], #[.slice none 0 0], []⟩).memory :=
  laidMet_of_run' 8 (by kernel_rfl) (by kernel_rfl)

theorem reads (os : Os) {H : Type} (enc : TypeId × Value → H) : ∃ places, DataW.whole enc Tryd.prog ((laidWorld os).forCall (fun _ _ => 0) ⟨#[], #[.slice none 0 0], []⟩).memory Tryd.f8.params.toList Rows.fnExactBucketsTextSpec.vars false (#[.slice none 0 0] : Array Value).toList 8 = some ([.nil], [], places) :=
  ⟨[], by kernel_rfl⟩

set_option maxRecDepth 100000 in
theorem lifted (os : Os) (started : os.Started) (H : Type) (enc : TypeId × Value → H) (F : Stop.Interp) :
    ReturnsInHanded {} Tryd.checked os 8 .any ((OpenSpec.ofChange Rows.fnExactBucketsTextSpec).preRow enc Tryd.prog Tryd.f8 Rows.fnExactBucketsTextRow.domain false Rows.fnExactBucketsTextRow.laid) (((OpenSpec.ofChange Rows.fnExactBucketsTextSpec).at F).post enc Tryd.prog Tryd.f8 false true false false) := by
  obtain ⟨places, hx⟩ := reads os enc
  refine returnsInHanded_of_row (C := Tryd.checked) (s := OpenSpec.ofChange Rows.fnExactBucketsTextSpec) own started (by kernel_rfl) Tryd.func8
    (witness_row_at (enc := enc) (C := Tryd.checked) false (laidWorld os) #[.slice none 0 0] rfl (by kernel_rfl) (by kernel_rfl) (by kernel_rfl)
      (OpenSpec.preRow_of_cond 8 hx (by kernel_rfl) (fun k hk => by cases hk) (by kernel_rfl) (laid_met os))) ?_
  intro W base args ds gs before hval hW _ _ _ hL _ _
  exact contract H enc W base args ds gs before hval hW hL

theorem said : Rows.FnExactBucketsTextSaid :=
  OpenClaim.holds_of_cond 8 Tryd.f8 rfl rfl rfl rfl rfl rfl rfl ⟨rfl, rfl, rfl, rfl, rfl⟩ rfl rfl rfl rfl rfl (by kernel_rfl) Tryd.func8 (by kernel_rfl)
    (of_decide_eq_true (by kernel_rfl)) (by unfold Func.isWrapper; first | (rw [if_pos (by decide +kernel)]; kernel_rfl) | (rw [if_neg (by decide +kernel)]; exact ⟨rfl, rfl⟩))
    (fun os started H enc _ F => by rw [OpenClaim.pre_eq_preRow]; exact lifted os started H enc F)

theorem plain (f : FuncId) (fn : Func) (hf : Tryd.pinned.checked.prog.funcNamed "loop.example/g00601/laws.FnExactBucketsText" = some f) (hfn : Tryd.pinned.checked.prog.funcs[f]? = some fn) :
    true = Tryd.pinned.checked.prog.looks [] ∧ ∀ (j : Nat) t, fn.params[j]? = some t → Tryd.pinned.checked.prog.wantsStandIn t = false := by
  obtain rfl : f = 8 := Option.some.inj ((show Tryd.prog.funcNamed "loop.example/g00601/laws.FnExactBucketsText" = some 8 by kernel_rfl).symm.trans hf) |>.symm
  obtain rfl : fn = Tryd.f8 := (Option.some.inj (Tryd.func8.symm.trans hfn)).symm
  refine ⟨by kernel_rfl, fun j t ht => ?_⟩
  rw [Tryd.params8] at ht
  obtain rfl : t = 48 := by simpa using Array.mem_of_getElem? ht
  exact (show Tryd.prog.wantsStandIn 48 = false by kernel_rfl)

theorem proved : Rows.FnExactBucketsTextCardSaid :=
  Claim7.holds_tied_plain_at .later [] _ _ _ _ said (fun _ h => by cases h) (by kernel_rfl) (fun _ h => by cases h) fnExactBucketsText_row_tie rfl ⟨rfl, rfl⟩ (by kernel_rfl) rfl plain (by kernel_rfl)
#print axioms proved
end Go.Proofs.YtcocgocnffnkpaaDoor.fnExactBucketsText
