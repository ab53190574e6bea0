/-
  'laws.FnExactRecordText' answers true at every input: RecordText answers as its model does. Conditions: the library's tables hold what its text lays there (tied by the card).
-/
import Derived.Test.YtjmfffmjfbpgjaaDoorRecTxt
import Derived.Test.YtjmfffmjfbpgjaaDoorM1
import Derived.Test.YtjmfffmjfbpgjaaDoorCards
import Derived.Test.YtjmfffmjfbpgjaaDoorTie
import Derived.ProofKit
import Derived.OpenShut
import Derived.Deep.DeepHandedRow
import Derived.Lib.LaidTab
import Derived.Outline
import Derived.ShutString
namespace Go.Proofs.YtjmfffmjfbpgjaaDoor.fnExactRecordText
open Go.ChangeShapes Go.WideShapes Go.ChangeAt Go.RowKit
set_option linter.unusedVariables false

theorem walk (r : GRec) (w : World) (hf : r.fit) (hp : Paths w) (hz : 1 < w.heap.size) (ht : Pow w) : Calls Tryd.prog 4 #[.agg #[.int .i64 r.kind, .int .i64 r.tok, .int .i64 r.tier, .int .i64 r.beg, .int .i64 r.fin, .string r.key]] w fun e w' => e = .returned (.bool true) ∧ Below w.heap.size w w' := by
  have HP : Hid (∀ w', Below w.heap.size w w' → Paths w' ∧ 1 < w'.heap.size) := Lib.hid (fun w' h => ⟨hp.below h hz, Nat.lt_of_lt_of_le hz h.size⟩)
  have HW : Hid (∀ w', Below w.heap.size w w' → Pow w') := Lib.hid (fun w' h => ht.below h (Nat.le_refl _))
  clear ht
  clear hp
  have Hf := Lib.hid hf; clear hf
  go_enter Tryd.func4, Tryd.ntmps4
  go_wp2_with fail
  obtain ⟨W, hW⟩ : ∃ W, W = w.alloc (.cells #[.int .i64 r.kind, .int .i64 r.tok, .int .i64 r.tier, .int .i64 r.beg, .int .i64 r.fin, .string r.key] 23) := ⟨_, rfl⟩
  have t0 : RecAt W w.heap.size r := by rw [hW]; exact RecAt.new _ _ _
  have b0 : Below w.heap.size w W := by rw [hW]; exact bal (Below.refl _ _) _
  have s0 : w.heap.size < W.heap.size := by rw [hW]; simp
  rw [← hW]
  clear hW
  have T0 := Lib.hid t0; clear t0
  generalize hx0 : w.heap.size = x0 at *
  have Hx0 := Lib.hid hx0; clear hx0
  refine (szRecord_any r 1048576 W Hf.out.2.2.2.2.2 (by omega) (by omega)).mono ?_
  rintro e w1 ⟨v, hv, hv1, hv2, rfl, hb1⟩
  have Hv := Lib.hid hv; clear hv
  have b1 : Below x0 w w1 := b0.trans (hb1.mono (by omega))
  by_cases hneg : v < 0
  · have d : decide (v < 0) = true := by simpa using hneg
    go_wp2
    go_ret
    exact ⟨rfl, by rw [Hx0.out]; exact b1⟩
  have d : decide (v < 0) = false := by simpa using hneg
  have hsm : r.key.size ≤ 1048576 := (Hv.out (by omega)).1
  have T1 := Lib.hid (T0.out.below hb1 s0)
  have s1 : x0 < w1.heap.size := by have := hb1.size; omega
  obtain ⟨u0, u1, u2, u3, u4, u5⟩ := T1.out.cells
  clear Hv T0 hb1 b0 s0
  go_wp2_with fail
  refine (toRecord_any r w1).mono ?_
  rintro e w2 ⟨rfl, hb2⟩
  have b2 : Below x0 w w2 := b1.trans (hb2.mono (by omega))
  have T2 := Lib.hid (T1.out.below hb2 s1)
  have s2 : x0 < w2.heap.size := by have := hb2.size; omega
  clear T1 hb2 b1 s1 u0 u1 u2 u3 u4 u5
  go_wp2_with fail
  refine (specRecordText_any r Hf.out w2 hsm).mono ?_
  rintro e w3 ⟨sx, cd, rfl, hb, hb3⟩
  have Hb := Lib.hid hb; clear hb
  have b3 : Below x0 w w3 := b2.trans (hb3.mono (by omega))
  have s3 : x0 < w3.heap.size := by have := hb3.size; omega
  obtain ⟨u0, u1, u2, u3, u4, u5⟩ := (T2.out.below hb3 s2).cells
  clear T2 hb3 b2 s2
  go_wp2_with fail
  refine (toRecord_any r w3).mono ?_
  rintro e w4 ⟨rfl, hb4⟩
  have b4 : Below x0 w w4 := b3.trans (hb4.mono (by omega))
  clear hb4 b3 s3 u0 u1 u2 u3 u4 u5
  go_wp2_with fail
  refine (recordText_any r Hf.out w4 (by omega) (HP.out w4 b4).1 (HP.out w4 b4).2 (HW.out w4 b4)).mono ?_
  rintro e w5 ⟨sy, cd', rfl, hb', hb5⟩
  have b5 : Below x0 w w5 := b4.trans (hb5.mono (by rw [← Hx0.out]; exact b4.size))
  obtain ⟨rfl, rfl⟩ := recTextOf_one Hb.out hb'
  clear hb' Hb
  clear hb5 b4
  go_wp2
  go_ret
  exact ⟨rfl, by rw [Hx0.out]; exact b5⟩

set_option maxRecDepth 100000 in
theorem contract (H : Type) (enc : TypeId × Value → H) (W : World) (base : Nat) (args : Array Value) (ds gs : List (DataW H)) (before : List MemPlace)
    (hval0 : ∀ (j : Nat) t v, Tryd.f4.params[j]? = some t → args[j]? = some v → Value.okWide Tryd.prog W .any base t v)
    (hW : DataW.Whole enc Tryd.prog Tryd.f4.params.toList Rows.fnExactRecordTextSpec.vars false W args.toList ds gs before) (hL : laidMetH Tryd.prog Rows.fnExactRecordTextRow.laid W) :
    Calls Tryd.prog 4 args W fun e W' => ∃ v, e = .returned v ∧ Rows.fnExactRecordTextSpec.post enc Tryd.prog Tryd.f4 false true false false W args v W' := by
  obtain ⟨hQ, hz⟩ := paths_in hL (List.mem_cons_of_mem _ (List.mem_cons_of_mem _ (List.mem_cons_of_mem _ List.mem_cons_self)))
  obtain ⟨_, hz2⟩ := wid_in hL (List.mem_cons_of_mem _ (List.mem_cons_of_mem _ (List.mem_cons_of_mem _ (List.mem_cons_of_mem _ List.mem_cons_self))))
  have hT := pow_in hL (List.mem_cons_of_mem _ (List.mem_cons_of_mem _ List.mem_cons_self))
  have hval : ∀ (j : Nat) t v, Tryd.f4.params[j]? = some t → args[j]? = some v → Value.okWide Tryd.prog W .any base t v := hval0
  have hW' := hW
  have hlt : ∀ p ∈ before, p.block < W.heap.size := fun p hp => hW.lt p hp
  obtain ⟨p, q, hA0, hV, rfl, hfz, hnd⟩ := hW
  have hA : DataW.TrodAll enc Tryd.prog W 0 (fun _ => true) true Tryd.f4.params.toList args.toList ds p := hA0
  rw [Tryd.params4] at hA hval
  obtain ⟨v0, vs0, d0, ds0, p0, q0, hargs, rfl, rfl, h0, r0⟩ := trodAll_cons hA
  obtain ⟨rfl, rfl, rfl⟩ := trodAll_nil r0
  obtain rfl : args = #[v0] := by cases args; simp_all
  have hV1 : DataW.TrodVars enc Tryd.prog W (fun _ => true) ["loop.example/g00601/impl.tierPaths", "loop.example/g00601/impl.tierWidths"] gs q := hV
  obtain ⟨dg, dh, rfl⟩ : ∃ d e, gs = [d, e] := by
    rcases gs with _ | ⟨d, _ | ⟨e, _ | ⟨f, r⟩⟩⟩
    · cases hV1
    · obtain ⟨_, _, _, _, _, _, _, _, _, _, h, _⟩ := hV1; cases h
    · exact ⟨d, e, rfl⟩
    · obtain ⟨_, _, _, _, _, _, _, _, _, _, ⟨_, _, _, _, _, _, _, _, _, _, h, _⟩, _⟩ := hV1; cases h
  have k0 := h0
  have lt0 : ∀ x ∈ p0, x.block < W.heap.size := by obtain ⟨m, hm⟩ := k0; exact DataW.trod_lt m _ _ _ hm
  obtain ⟨r0, rfl, ft0⟩ := open_lrec (hval 0 23 v0 rfl rfl) h0
  clear hA0 hval0
  refine (walk r0 W ft0 hQ hz hT).mono fun e W' ⟨he, bel⟩ => ?_
  subst he
  exact ⟨_, rfl, _, _, _, [], _, _, hW', trodAll_mk1 (shut_bool Tryd.underlying4 _), (trodAll_cons_mk (Below.trod laidOut (by kernel_rfl) (of_decide_eq_true (by kernel_rfl)) k0 bel lt0) trodAll_mk0), vars_backs bel ["loop.example/g00601/impl.tierPaths", "loop.example/g00601/impl.tierWidths"] _ _ (by
    intro n hn
    simp only [List.mem_cons, List.not_mem_nil, or_false] at hn
    rcases hn with rfl | rfl
    · exact ⟨_, _, gTab, gTabType, Or.inl rfl, hz⟩
    · exact ⟨_, _, gWidA, gWidTypeA, Or.inr rfl, hz2⟩) hV1 (fun x hx => hlt x (List.mem_append_right _ hx)), bel.frame _, fun h => by cases h⟩

theorem laid_met (os : Os) : laidMet Tryd.prog Rows.fnExactRecordTextRow.laid ((laidWorldD os).forCall (fun _ _ => 0) ⟨#[], #[.agg #[.int .i64 0, .int .i64 0, .int .i64 0, .int .i64 0, .int .i64 0, .string ByteArray.empty]], []⟩).memory :=
  laidMet_of_run' 8 (by kernel_rfl) (by kernel_rfl)

theorem reads (os : Os) {H : Type} (enc : TypeId × Value → H) : ∃ places, DataW.whole enc Tryd.prog ((laidWorldD os).forCall (fun _ _ => 0) ⟨#[], #[.agg #[.int .i64 0, .int .i64 0, .int .i64 0, .int .i64 0, .int .i64 0, .string ByteArray.empty]], []⟩).memory Tryd.f4.params.toList Rows.fnExactRecordTextSpec.vars false (#[.agg #[.int .i64 0, .int .i64 0, .int .i64 0, .int .i64 0, .int .i64 0, .string ByteArray.empty]] : Array Value).toList 8 = some ([.agg [.lit (.int .i64 0), .lit (.int .i64 0), .lit (.int .i64 0), .lit (.int .i64 0), .lit (.int .i64 0), .lit (.string [])]], [.agg (pl.map fun z => .lit (.string z)), Lib.tabData .i64 [1, 5, 20]], places) :=
  ⟨MemPlace.row ⟨1, 0, none⟩ 3 ++ MemPlace.row ⟨0, 0, none⟩ 3, by kernel_rfl⟩

set_option maxRecDepth 100000 in
theorem lifted (os : Os) (started : os.Started) (H : Type) (enc : TypeId × Value → H) (F : Stop.Interp) :
    ReturnsInHanded {} Tryd.checked os 4 .any ((OpenSpec.ofChange Rows.fnExactRecordTextSpec).preRow enc Tryd.prog Tryd.f4 Rows.fnExactRecordTextRow.domain false Rows.fnExactRecordTextRow.laid) (((OpenSpec.ofChange Rows.fnExactRecordTextSpec).at F).post enc Tryd.prog Tryd.f4 false true false false) := by
  obtain ⟨places, hx⟩ := reads os enc
  refine returnsInHanded_of_row (C := Tryd.checked) (s := OpenSpec.ofChange Rows.fnExactRecordTextSpec) own started (by kernel_rfl) Tryd.func4
    (witness_row_at (enc := enc) (C := Tryd.checked) false (laidWorldD os) #[.agg #[.int .i64 0, .int .i64 0, .int .i64 0, .int .i64 0, .int .i64 0, .string ByteArray.empty]] rfl (by kernel_rfl) (by kernel_rfl) (by kernel_rfl)
      (OpenSpec.preRow_of_cond 8 hx (by kernel_rfl) (fun k hk => by cases hk) (by kernel_rfl) (laid_met os))) ?_
  intro W base args ds gs before hval hW _ _ _ hL _ _
  exact contract H enc W base args ds gs before hval hW hL

theorem said : Rows.FnExactRecordTextSaid :=
  OpenClaim.holds_of_cond 4 Tryd.f4 rfl rfl rfl rfl rfl rfl rfl ⟨rfl, rfl, rfl, rfl, rfl⟩ rfl rfl rfl rfl rfl (by kernel_rfl) Tryd.func4 (by kernel_rfl)
    (of_decide_eq_true (by kernel_rfl)) (by unfold Func.isWrapper; first | (rw [if_pos (by decide +kernel)]; kernel_rfl) | (rw [if_neg (by decide +kernel)]; exact ⟨rfl, rfl⟩))
    (fun os started H enc _ F => by rw [OpenClaim.pre_eq_preRow]; exact lifted os started H enc F)

theorem plain (f : FuncId) (fn : Func) (hf : Tryd.pinned.checked.prog.funcNamed "loop.example/g00601/laws.FnExactRecordText" = some f) (hfn : Tryd.pinned.checked.prog.funcs[f]? = some fn) :
    false = Tryd.pinned.checked.prog.looks [] ∧ ∀ (j : Nat) t, fn.params[j]? = some t → Tryd.pinned.checked.prog.wantsStandIn t = false := by
  obtain rfl : f = 4 := Option.some.inj ((show Tryd.prog.funcNamed "loop.example/g00601/laws.FnExactRecordText" = some 4 by kernel_rfl).symm.trans hf) |>.symm
  obtain rfl : fn = Tryd.f4 := (Option.some.inj (Tryd.func4.symm.trans hfn)).symm
  refine ⟨by kernel_rfl, fun j t ht => ?_⟩
  rw [Tryd.params4] at ht
  obtain rfl : t = 23 := by simpa using Array.mem_of_getElem? ht
  exact (show Tryd.prog.wantsStandIn 23 = false by kernel_rfl)

theorem proved : Rows.FnExactRecordTextCardSaid :=
  Claim7.holds_tied_plain_at .later [] _ _ _ _ said (fun _ h => by cases h) (by kernel_rfl) (fun _ h => by cases h) fnExactRecordText_row_tie rfl ⟨rfl, rfl⟩ (by kernel_rfl) rfl plain (by kernel_rfl)
#print axioms proved
end Go.Proofs.YtjmfffmjfbpgjaaDoor.fnExactRecordText
