/-
  'laws.FnAlign' answers true at every input: a time is in its window, which is a whole one of its tier. Conditions: the library's tables hold what its text lays there (tied by the card).
-/
import Derived.Test.YtnglfambcophpaaDoorAt
import Derived.Test.YtnglfambcophpaaDoorOpenB
import Derived.Test.YtnglfambcophpaaDoorDoorTier
import Derived.Test.YtnglfambcophpaaDoorCards
import Derived.Test.YtnglfambcophpaaDoorTie
import Derived.ProofKit
import Derived.OpenShut
import Derived.Deep.DeepHandedRow
import Derived.Lib.LaidTab
import Derived.Outline
import Derived.ShutString
namespace Go.Proofs.YtnglfambcophpaaDoor.fnAlign
open Go.ChangeShapes Go.WideShapes Go.ChangeAt Go.RowKit
set_option linter.unusedVariables false

set_option maxRecDepth 100000 in
theorem walk (A : Option Addr) (c : Nat) (bs : List Int) (w : World) (h : BytesAt w w.heap.size A bs) (hx : ∀ x ∈ bs, 0 ≤ x ∧ x ≤ 255) (hl : bs.length ≤ maxLen) (ht : Tab3 0 wid w) (hz : 0 < w.heap.size) (hk : Tab3 1 kep w) (hz2 : 1 < w.heap.size) :
    Calls Tryd.prog 3 #[.slice A bs.length c] w fun e w' => e = .returned (.bool true) ∧ Below w.heap.size w w' := by
  have H := Lib.hid h; clear h
  have Hx := Lib.hid hx; clear hx
  have Ht := Lib.hid ht; clear ht
  have Hk := Lib.hid hk; clear hk
  unfold maxLen at hl
  by_cases L1 : 1048576 < bs.length
  · have d1 : decide (1048576 < (bs.length : Int)) = true := by simp; omega
    go_enter Tryd.func3, Tryd.ntmps3
    go_wp2
    go_ret
    exact ⟨rfl, Below.refl _ _⟩
  have d1 : decide (1048576 < (bs.length : Int)) = false := by simp; omega
  go_enter Tryd.func3, Tryd.ntmps3
  go_wp2_with fail
  refine (at_any A bs c 0 9000 w.heap.size w H.out Hx.out (by omega) (by omega) (by omega) (by omega) (by omega)).mono ?_
  rintro e w1 ⟨t, rfl, t0, t1, hb1⟩
  have Ht1 := Lib.hid (Ht.out.below hb1 hz)
  have Hk1 := Lib.hid (Hk.out.below hb1 hz2)
  have z1 := hb1.size
  clear H Hx Ht Hk
  go_wp2_with fail
  go_loopw [4] (fun i wr => ∃ k : Nat, k ≤ 3 ∧ i = .int .i64 k ∧ Below w1.heap.size w1 wr) (fun i _ => 3 - (intOf i).toNat)
  case atStart => exact ⟨0, by omega, rfl, Below.refl _ _⟩
  case round =>
    obtain ⟨k, hk, rfl, hbr⟩ := hrel
    by_cases h3 : k < 3
    · have hw := wid_pos h3
      obtain ⟨m1, m2, m3, m4⟩ := alg_ok h3 t0 (by omega)
      have C1 := Lib.hid (fun w (h : Tab3 0 wid w) => widthOf_in k h3 w h)
      have C2 := Lib.hid (fun w (h : Tab3 1 kep w) => keepOf_in k h3 w h)
      have C3 := Lib.hid (fun w => specKeepOf_in k h3 w)
      have C4 := Lib.hid (fun w (h : Tab3 0 wid w) => alignDown_in t k h3 t0 (by omega) w h)
      have hD : alg t k = t - t % wid k := rfl
      have hdm : (alg t k) % wid k = 0 := by
        rw [hD]
        have h2 := Int.emod_add_mul_ediv t (wid k)
        rw [show t - t % wid k = wid k * (t / wid k) by omega]
        exact Int.mul_emod_right _ _
      have hdt : (alg t k).tmod (wid k) = 0 := by rw [Int.tmod_eq_emod_of_nonneg (by omega)]; exact hdm
      have hD0 : 0 ≤ alg t k ∧ alg t k ≤ t ∧ t < alg t k + wid k := by omega
      clear m1 m2 m3 m4 hD hdm
      generalize wid k = W at *
      generalize kep k = K at *
      generalize alg t k = D at *
      obtain ⟨q0, q1, q2⟩ := hD0
      have e1 : (W == 0) = false := by simp; omega
      have e2 : decide (W < 1) = false := by simp; omega
      have e3 : decide (t < D) = false := by simp; omega
      have e4 : decide (D + W ≤ t) = false := by simp; omega
      have z2 := hbr.size
      have Ht2 := Lib.hid (Ht1.out.below hbr (by omega))
      have Hk2 := Lib.hid (Hk1.out.below hbr (by omega))
      go_wp2_with fail
      refine (C1.out wr Ht2.out).mono ?_
      rintro e w' ⟨rfl, rfl⟩
      go_wp2_with fail
      refine (C2.out wr Hk2.out).mono ?_
      rintro e w' ⟨rfl, rfl⟩
      go_wp2_with fail
      refine (C3.out wr).mono ?_
      rintro e w3 ⟨rfl, hb3⟩
      have hbr3 := bnext hbr hb3
      go_wp2_with fail
      refine (C4.out w3 (Ht2.out.below hb3 (by omega))).mono ?_
      rintro e w' ⟨rfl, rfl⟩
      go_wp2
      go_roundw
      case rel => exact ⟨k + 1, by omega, by go_num, hbr3⟩
      case measure => simp [intOf]; omega
    · obtain rfl : k = 3 := by omega
      go_wp2
      go_ret
      exact ⟨rfl, bnext hb1 hbr⟩

set_option maxRecDepth 100000 in
theorem contract (H : Type) (enc : TypeId × Value → H) (W : World) (base : Nat) (args : Array Value) (ds gs : List (DataW H)) (before : List MemPlace)
    (hval0 : ∀ (j : Nat) t v, Tryd.f3.params[j]? = some t → args[j]? = some v → Value.okWide Tryd.prog W .any base t v)
    (hW : DataW.Whole enc Tryd.prog Tryd.f3.params.toList Rows.fnAlignSpec.vars false W args.toList ds gs before) (hL : laidMetH Tryd.prog Rows.fnAlignRow.laid W) :
    Calls Tryd.prog 3 args W fun e W' => ∃ v, e = .returned v ∧ Rows.fnAlignSpec.post enc Tryd.prog Tryd.f3 false true false false W args v W' := by
  obtain ⟨hQ, hz⟩ := wid_of hL
  obtain ⟨hK, hz2⟩ := kep_of2 hL

  have hval : ∀ (j : Nat) t v, Tryd.f3.params[j]? = some t → args[j]? = some v → Value.okWide Tryd.prog W .any base t v := hval0
  have hW' := hW
  have hlt : ∀ p ∈ before, p.block < W.heap.size := fun p hp => hW.lt p hp
  obtain ⟨p, q, hA0, hV, rfl, hfz, hnd⟩ := hW
  have hA : DataW.TrodAll enc Tryd.prog W 0 (fun _ => true) true Tryd.f3.params.toList args.toList ds p := hA0
  rw [Tryd.params3] at hA hval
  obtain ⟨v0, vs0, d0, ds0, p0, q0, hargs, rfl, rfl, h0, r0⟩ := trodAll_cons hA
  obtain ⟨rfl, rfl, rfl⟩ := trodAll_nil r0
  obtain rfl : args = #[v0] := by cases args; simp_all
  have hV1 : DataW.TrodVars enc Tryd.prog W (fun _ => true) ["loop.example/g00601/impl.tierWidths", "loop.example/g00601/impl.tierKeeps"] gs q := hV
  obtain ⟨dg, dh, rfl⟩ : ∃ d e, gs = [d, e] := by
    rcases gs with _ | ⟨d, _ | ⟨e, _ | ⟨f, r⟩⟩⟩
    · cases hV1
    · obtain ⟨_, _, _, _, _, _, _, _, _, _, h, _⟩ := hV1; cases h
    · exact ⟨d, e, rfl⟩
    · obtain ⟨_, _, _, _, _, _, _, _, _, _, ⟨_, _, _, _, _, _, _, _, _, _, h, _⟩, _⟩ := hV1; cases h
  have k0 := h0
  have lt0 : ∀ x ∈ p0, x.block < W.heap.size := by obtain ⟨m, hm⟩ := k0; exact DataW.trod_lt m _ _ _ hm
  obtain ⟨A0, c0, xs0, rfl, ob0, ft0, ln0⟩ := open_bytes (hval 0 22 v0 rfl rfl) h0
  clear hA0 hval0
  refine (walk A0 c0 xs0 W ob0 ft0 ln0 hQ hz hK hz2).mono fun e W' ⟨he, bel⟩ => ?_
  subst he
  exact ⟨_, rfl, _, _, _, [], _, _, hW', trodAll_mk1 (shut_bool Tryd.underlying4 _), (trodAll_cons_mk (Below.trod laidOutT (by kernel_rfl) (of_decide_eq_true (by kernel_rfl)) k0 bel lt0) trodAll_mk0), vars_back3 bel ["loop.example/g00601/impl.tierWidths", "loop.example/g00601/impl.tierKeeps"] _ _ (by
    intro n hn
    simp only [List.mem_cons, List.not_mem_nil, or_false] at hn
    rcases hn with rfl | rfl
    · exact ⟨_, gWid, gWidType, hz⟩
    · exact ⟨_, gKep, gKepType, hz2⟩) hV1 (fun x hx => hlt x (List.mem_append_right _ hx)), bel.frame _, fun h => by cases h⟩

theorem laid_met (os : Os) : laidMet Tryd.prog Rows.fnAlignRow.laid ((tierWorld os).forCall (fun _ _ => 0) ⟨#[], #[.slice none 0 0], []⟩).memory :=
  laidMet_of_run' 8 (by kernel_rfl) (by kernel_rfl)

theorem reads (os : Os) {H : Type} (enc : TypeId × Value → H) : ∃ places, DataW.whole enc Tryd.prog ((tierWorld os).forCall (fun _ _ => 0) ⟨#[], #[.slice none 0 0], []⟩).memory Tryd.f3.params.toList Rows.fnAlignSpec.vars false (#[.slice none 0 0] : Array Value).toList 8 = some ([.nil], [Lib.tabData .i64 [1, 5, 20], Lib.tabData .i64 [40, 100, 400]], places) :=
  ⟨MemPlace.row ⟨0, 0, none⟩ 3 ++ MemPlace.row ⟨1, 0, none⟩ 3, by kernel_rfl⟩

set_option maxRecDepth 100000 in
theorem lifted (os : Os) (started : os.Started) (H : Type) (enc : TypeId × Value → H) (F : Stop.Interp) :
    ReturnsInHanded {} Tryd.checked os 3 .any ((OpenSpec.ofChange Rows.fnAlignSpec).preRow enc Tryd.prog Tryd.f3 Rows.fnAlignRow.domain false Rows.fnAlignRow.laid) (((OpenSpec.ofChange Rows.fnAlignSpec).at F).post enc Tryd.prog Tryd.f3 false true false false) := by
  obtain ⟨places, hx⟩ := reads os enc
  refine returnsInHanded_of_row (C := Tryd.checked) (s := OpenSpec.ofChange Rows.fnAlignSpec) ownT started (by kernel_rfl) Tryd.func3
    (witness_row_at (enc := enc) (C := Tryd.checked) false (tierWorld os) #[.slice none 0 0] rfl (by kernel_rfl) (by kernel_rfl) (by kernel_rfl)
      (OpenSpec.preRow_of_cond 8 hx (by kernel_rfl) (fun k hk => by cases hk) (by kernel_rfl) (laid_met os))) ?_
  intro W base args ds gs before hval hW _ _ _ hL _ _
  exact contract H enc W base args ds gs before hval hW hL

theorem said : Rows.FnAlignSaid :=
  OpenClaim.holds_of_cond 3 Tryd.f3 rfl rfl rfl rfl rfl rfl rfl ⟨rfl, rfl, rfl, rfl, rfl⟩ rfl rfl rfl rfl rfl (by kernel_rfl) Tryd.func3 (by kernel_rfl)
    (of_decide_eq_true (by kernel_rfl)) (by unfold Func.isWrapper; first | (rw [if_pos (by decide +kernel)]; kernel_rfl) | (rw [if_neg (by decide +kernel)]; exact ⟨rfl, rfl⟩))
    (fun os started H enc _ F => by rw [OpenClaim.pre_eq_preRow]; exact lifted os started H enc F)

theorem plain (f : FuncId) (fn : Func) (hf : Tryd.pinned.checked.prog.funcNamed "loop.example/g00601/laws.FnAlign" = some f) (hfn : Tryd.pinned.checked.prog.funcs[f]? = some fn) :
    false = Tryd.pinned.checked.prog.looks [] ∧ ∀ (j : Nat) t, fn.params[j]? = some t → Tryd.pinned.checked.prog.wantsStandIn t = false := by
  obtain rfl : f = 3 := Option.some.inj ((show Tryd.prog.funcNamed "loop.example/g00601/laws.FnAlign" = some 3 by kernel_rfl).symm.trans hf) |>.symm
  obtain rfl : fn = Tryd.f3 := (Option.some.inj (Tryd.func3.symm.trans hfn)).symm
  refine ⟨by kernel_rfl, fun j t ht => ?_⟩
  rw [Tryd.params3] at ht
  obtain rfl : t = 22 := by simpa using Array.mem_of_getElem? ht
  exact (show Tryd.prog.wantsStandIn 22 = false by kernel_rfl)

theorem proved : Rows.FnAlignCardSaid :=
  Claim7.holds_tied_plain_at .later [] _ _ _ _ said (fun _ h => by cases h) (by kernel_rfl) (fun _ h => by cases h) fnAlign_row_tie rfl ⟨rfl, rfl⟩ (by kernel_rfl) rfl plain (by kernel_rfl)
#print axioms proved
end Go.Proofs.YtnglfambcophpaaDoor.fnAlign
