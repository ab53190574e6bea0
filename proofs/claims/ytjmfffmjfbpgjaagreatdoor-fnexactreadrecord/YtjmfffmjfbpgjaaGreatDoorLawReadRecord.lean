/-
  'laws.FnExactReadRecord' answers true at every input: ReadRecord answers as its model does. Conditions: the library's tables hold what its text lays there (tied by the card).
-/
import Derived.Test.YtjmfffmjfbpgjaaGreatDoorM2
import Derived.Test.YtjmfffmjfbpgjaaGreatDoorImplRdR
import Derived.Test.YtjmfffmjfbpgjaaGreatDoorM1
import Derived.Test.YtjmfffmjfbpgjaaGreatDoorCards
import Derived.Test.YtjmfffmjfbpgjaaGreatDoorTie
import Derived.ProofKit
import Derived.OpenShut
import Derived.Deep.DeepHandedRow
import Derived.Lib.LaidTab
import Derived.Outline
import Derived.ShutString
namespace Go.Proofs.YtjmfffmjfbpgjaaGreatDoor.fnExactReadRecord
open Go.ChangeShapes Go.WideShapes Go.ChangeAt Go.RowKit
set_option linter.unusedVariables false

set_option maxRecDepth 100000 in
theorem walk (t : ByteArray) (w : World) (ht : t.size ≤ 2 ^ 63 - 1) (hE : Errs w) (hP : Pow w) (hM : MaxL w) (hp : Paths w) (hz : 0 < w.heap.size) : Calls Tryz.prog 4 #[.string t] w fun e w' => e = .returned (.bool true) ∧ Below w.heap.size w w' := by
  have hEP := fun w' (h : Below w.heap.size w w') => (show Errs w' ∧ Pow w' ∧ MaxL w' ∧ Paths w' ∧ 0 < w'.heap.size from ⟨hE.below h (Nat.le_refl _), hP.below h (Nat.le_refl _), hM.below h (Nat.le_refl _), hp.below h hz, Nat.lt_of_lt_of_le hz h.size⟩)
  have HEP := Lib.hid hEP; clear hEP hE hP hM hp hz
  cases hl : decide (1048576 < (t.size : Int))
  rotate_left
  · go_enter Tryz.func4, Tryz.ntmps4
    go_wp2
    go_ret
    exact ⟨rfl, Below.refl _ _⟩
  go_enter Tryz.func4, Tryz.ntmps4
  go_wp2_with fail
  refine (specReadRecord_any t _ ht).mono ?_
  rintro e w1 ⟨r, cd, rfl, hs, hb1⟩
  have Hs := Lib.hid hs; clear hs
  go_wp2_with fail
  have hS2 := RecAt.new w1 r 44
  have hb2 : Below w.heap.size w (w1.alloc (.cells #[.int .i64 r.kind, .int .i64 r.tok, .int .i64 r.tier, .int .i64 r.beg, .int .i64 r.fin, .string r.key] 44)) := bal hb1 _
  have hL2 : w1.heap.size < (w1.alloc (.cells #[.int .i64 r.kind, .int .i64 r.tok, .int .i64 r.tier, .int .i64 r.beg, .int .i64 r.fin, .string r.key] 44)).heap.size := by simp
  generalize w1.alloc (.cells #[.int .i64 r.kind, .int .i64 r.tok, .int .i64 r.tier, .int .i64 r.beg, .int .i64 r.fin, .string r.key] 44) = w2 at *
  generalize w1.heap.size = x0 at *
  have hE2 := HEP.out w2 hb2
  refine (readRecord_any t w2 ht hE2.1 hE2.2.1 hE2.2.2.1 hE2.2.2.2.1 hE2.2.2.2.2).mono ?_
  rintro e w3 ⟨r', cd', rfl, hs', hb3⟩
  obtain ⟨rfl, rfl⟩ := recCode_one Hs.out hs'
  have b3 := bnext hb2 hb3
  have hS3 := hS2.below hb3 hL2
  have hx3 : x0 < w3.heap.size := Nat.lt_of_lt_of_le hL2 hb3.size
  clear hs' Hs hb1 hb2 hb3 hS2 hL2 hE2 HEP
  obtain ⟨s0, s1, s2, s3, s4, s5⟩ := hS3.cells
  clear hS3
  go_wp2_with fail
  refine (eqRecord_any r r _).mono ?_
  rintro e w5 ⟨b, hb, rfl, hb5⟩
  obtain rfl : b = true := hb.2 rfl
  have b5 := Lib.hid (bnext (bal b3 (.cells #[.int .i64 r.kind, .int .i64 r.tok, .int .i64 r.tier, .int .i64 r.beg, .int .i64 r.fin, .string r.key] 44)) hb5)
  clear hb hb5 s0 s1 s2 s3 s4 s5
  go_wp2
  go_ret
  exact ⟨rfl, b5.out⟩

set_option maxRecDepth 100000 in
theorem contract (H : Type) (enc : TypeId × Value → H) (W : World) (base : Nat) (args : Array Value) (ds gs : List (DataW H)) (before : List MemPlace)
    (hval0 : ∀ (j : Nat) t v, Tryz.f4.params[j]? = some t → args[j]? = some v → Value.okWide Tryz.prog W .any base t v)
    (hW : DataW.Whole enc Tryz.prog Tryz.f4.params.toList Rows.fnExactReadRecordSpec.vars false W args.toList ds gs before) (hL : laidMetH Tryz.prog Rows.fnExactReadRecordRow.laid W) (hSh : W.ShapedOpen Tryz.prog) :
    Calls Tryz.prog 4 args W fun e W' => ∃ v, e = .returned v ∧ Rows.fnExactReadRecordSpec.post enc Tryz.prog Tryz.f4 false true false false W args v W' := by
  obtain ⟨hQ, hz⟩ := paths_in hL (List.mem_cons_of_mem _ (List.mem_cons_of_mem _ (List.mem_cons_of_mem _ (List.mem_cons_of_mem _ (List.mem_cons_of_mem _ (List.mem_cons_of_mem _ List.mem_cons_self))))))
  obtain ⟨_, hz2⟩ := wid_in hL (List.mem_cons_of_mem _ (List.mem_cons_of_mem _ (List.mem_cons_of_mem _ (List.mem_cons_of_mem _ (List.mem_cons_of_mem _ (List.mem_cons_of_mem _ (List.mem_cons_of_mem _ List.mem_cons_self)))))))
  have hT := pow_in hL (List.mem_cons_of_mem _ (List.mem_cons_of_mem _ List.mem_cons_self))
  have hE := errs_in hL (List.mem_cons_of_mem _ (List.mem_cons_of_mem _ (List.mem_cons_of_mem _ (List.mem_cons_of_mem _ List.mem_cons_self)))) (List.mem_cons_of_mem _ (List.mem_cons_of_mem _ (List.mem_cons_of_mem _ (List.mem_cons_of_mem _ (List.mem_cons_of_mem _ List.mem_cons_self)))))
  have hval : ∀ (j : Nat) t v, Tryz.f4.params[j]? = some t → args[j]? = some v → Value.okWide Tryz.prog W .any base t v := hval0
  have hW' := hW
  have hlt : ∀ p ∈ before, p.block < W.heap.size := fun p hp => hW.lt p hp
  obtain ⟨p, q, hA0, hV, rfl, hfz, hnd⟩ := hW
  have hA : DataW.TrodAll enc Tryz.prog W 0 (fun _ => true) true Tryz.f4.params.toList args.toList ds p := hA0
  rw [Tryz.params4] at hA hval
  obtain ⟨v0, vs0, d0, ds0, p0, q0, hargs, rfl, rfl, h0, r0⟩ := trodAll_cons hA
  obtain ⟨rfl, rfl, rfl⟩ := trodAll_nil r0
  obtain rfl : args = #[v0] := by cases args; simp_all
  have hV1 : DataW.TrodVars enc Tryz.prog W (fun _ => true) ["loop.example/g00601/impl.tierPaths", "loop.example/g00601/impl.tierWidths"] gs q := hV
  obtain ⟨dg, dh, rfl⟩ : ∃ d e, gs = [d, e] := by
    rcases gs with _ | ⟨d, _ | ⟨e, _ | ⟨f, r⟩⟩⟩
    · cases hV1
    · obtain ⟨_, _, _, _, _, _, _, _, _, _, h, _⟩ := hV1; cases h
    · exact ⟨d, e, rfl⟩
    · obtain ⟨_, _, _, _, _, _, _, _, _, _, ⟨_, _, _, _, _, _, _, _, _, _, h, _⟩, _⟩ := hV1; cases h
  have k0 := h0
  have lt0 : ∀ x ∈ p0, x.block < W.heap.size := by obtain ⟨m, hm⟩ := k0; exact DataW.trod_lt m _ _ _ hm
  obtain ⟨s0, rfl, hd0, hp0, ls0⟩ := Go.ChangeMaps.open_string Tryz.underlying9 (hval 0 9 v0 rfl rfl) h0
  clear hA0 hval0
  refine (walk s0 W ls0 hE hT (maxL_of hSh) hQ hz).mono fun e W' ⟨he, bel⟩ => ?_
  subst he
  exact ⟨_, rfl, _, _, _, [], _, _, hW', trodAll_mk1 (shut_bool Tryz.underlying4 _), (trodAll_cons_mk (Below.trod laidOut (by kernel_rfl) (of_decide_eq_true (by kernel_rfl)) k0 bel lt0) trodAll_mk0), vars_backs bel ["loop.example/g00601/impl.tierPaths", "loop.example/g00601/impl.tierWidths"] _ _ (by
    intro n hn
    simp only [List.mem_cons, List.not_mem_nil, or_false] at hn
    rcases hn with rfl | rfl
    · exact ⟨_, _, gTab, gTabType, Or.inl rfl, hz⟩
    · exact ⟨_, _, gWidA, gWidTypeA, Or.inr rfl, hz2⟩) hV1 (fun x hx => hlt x (List.mem_append_right _ hx)), bel.frame _, fun h => by cases h⟩

theorem laid_met (os : Os) : laidMet Tryz.prog Rows.fnExactReadRecordRow.laid ((laidWorldZ os).forCall (fun _ _ => 0) ⟨#[], #[.string ByteArray.empty], []⟩).memory :=
  laidMet_of_run3 8 (by kernel_rfl) (by kernel_rfl) (by kernel_rfl)

theorem reads (os : Os) {H : Type} (enc : TypeId × Value → H) : ∃ places, DataW.whole enc Tryz.prog ((laidWorldZ os).forCall (fun _ _ => 0) ⟨#[], #[.string ByteArray.empty], []⟩).memory Tryz.f4.params.toList Rows.fnExactReadRecordSpec.vars false (#[.string ByteArray.empty] : Array Value).toList 8 = some ([.lit (.string [])], [.agg (pl.map fun z => .lit (.string z)), Lib.tabData .i64 [1, 5, 20]], places) :=
  ⟨MemPlace.row ⟨0, 0, none⟩ 3 ++ MemPlace.row ⟨2, 0, none⟩ 3, by kernel_rfl⟩

set_option maxRecDepth 100000 in
theorem lifted (os : Os) (started : os.Started) (H : Type) (enc : TypeId × Value → H) (F : Stop.Interp) :
    ReturnsInHanded {} Tryz.checked os 4 .any ((OpenSpec.ofChange Rows.fnExactReadRecordSpec).preRow enc Tryz.prog Tryz.f4 Rows.fnExactReadRecordRow.domain false Rows.fnExactReadRecordRow.laid) (((OpenSpec.ofChange Rows.fnExactReadRecordSpec).at F).post enc Tryz.prog Tryz.f4 false true false false) := by
  obtain ⟨places, hx⟩ := reads os enc
  refine returnsInHanded_of_row (C := Tryz.checked) (s := OpenSpec.ofChange Rows.fnExactReadRecordSpec) own started (by kernel_rfl) Tryz.func4
    (witness_row_at (enc := enc) (C := Tryz.checked) false (laidWorldZ os) #[.string ByteArray.empty] rfl (by kernel_rfl) (by kernel_rfl) (by kernel_rfl)
      (OpenSpec.preRow_of_cond 8 hx (by kernel_rfl) (fun k hk => by cases hk) (by kernel_rfl) (laid_met os))) ?_
  intro W base args ds gs before hval hW _ _ _ hL hSh _
  exact contract H enc W base args ds gs before hval hW hL hSh

theorem said : Rows.FnExactReadRecordSaid :=
  OpenClaim.holds_of_cond 4 Tryz.f4 rfl rfl rfl rfl rfl rfl rfl ⟨rfl, rfl, rfl, rfl, rfl⟩ rfl rfl rfl rfl rfl (by kernel_rfl) Tryz.func4 (by kernel_rfl)
    (of_decide_eq_true (by kernel_rfl)) (by unfold Func.isWrapper; first | (rw [if_pos (by decide +kernel)]; kernel_rfl) | (rw [if_neg (by decide +kernel)]; exact ⟨rfl, rfl⟩))
    (fun os started H enc _ F => by rw [OpenClaim.pre_eq_preRow]; exact lifted os started H enc F)

theorem plain (f : FuncId) (fn : Func) (hf : Tryz.pinned.checked.prog.funcNamed "loop.example/g00601/laws.FnExactReadRecord" = some f) (hfn : Tryz.pinned.checked.prog.funcs[f]? = some fn) :
    true = Tryz.pinned.checked.prog.looks [] ∧ ∀ (j : Nat) t, fn.params[j]? = some t → Tryz.pinned.checked.prog.wantsStandIn t = false := by
  obtain rfl : f = 4 := Option.some.inj ((show Tryz.prog.funcNamed "loop.example/g00601/laws.FnExactReadRecord" = some 4 by kernel_rfl).symm.trans hf) |>.symm
  obtain rfl : fn = Tryz.f4 := (Option.some.inj (Tryz.func4.symm.trans hfn)).symm
  refine ⟨by kernel_rfl, fun j t ht => ?_⟩
  rw [Tryz.params4] at ht
  obtain rfl : t = 9 := by simpa using Array.mem_of_getElem? ht
  exact (show Tryz.prog.wantsStandIn 9 = false by kernel_rfl)

theorem proved : Rows.FnExactReadRecordCardSaid :=
  Claim7.holds_tied_plain_at .later [] _ _ _ _ said (fun _ h => by cases h) (by kernel_rfl) (fun _ h => by cases h) fnExactReadRecord_row_tie rfl ⟨rfl, rfl⟩ (by kernel_rfl) rfl plain (by kernel_rfl)
#print axioms proved
end Go.Proofs.YtjmfffmjfbpgjaaGreatDoor.fnExactReadRecord
