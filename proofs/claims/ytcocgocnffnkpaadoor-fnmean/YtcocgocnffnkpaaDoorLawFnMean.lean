/-
  'laws.FnMean' answers true at every input: a mean and its rest make the sum, and an aggregate is read back from its text. Conditions: the library's tables hold what its text lays there (tied by the card).
-/
import Derived.Test.YtcocgocnffnkpaaDoorMeanDr
import Derived.Test.YtcocgocnffnkpaaDoorSpecTxt
import Derived.Test.YtcocgocnffnkpaaDoorMean
import Derived.Test.YtcocgocnffnkpaaDoorDoorErr
import Derived.Test.YtcocgocnffnkpaaDoorCards
import Derived.Test.YtcocgocnffnkpaaDoorTie
import Derived.ProofKit
import Derived.OpenShut
import Derived.Deep.DeepHandedRow
import Derived.Lib.LaidTab
import Derived.Outline
import Derived.ShutString
import Derived.Laws.StructEq
namespace Go.Proofs.YtcocgocnffnkpaaDoor.fnMean
open Go.ChangeShapes Go.WideShapes Go.ChangeAt Go.RowKit
set_option linter.unusedVariables false

section

variable {H : Type} {enc : TypeId × Value → H} {base : Nat} {spare : Nat → Bool} {held : Bool}

theorem open_byte' {P : Program} {w : World} {e : TypeId} {n : Nat} {cs : List Value} {y : DataW H × List MemPlace} (he : P.underlying e = some (.int .u8)) (hl : cs.length = 1) (h : DataW.trod enc P w base spare held n e cs = some y) : ∃ x : Int, cs = byteV x ∧ (0 ≤ x ∧ x ≤ 255) := by
  match cs, hl with
  | [a], _ =>
    obtain ⟨z, e0, _, l0⟩ := DataW.trod_int he h
    simp at e0
    subst e0
    simp only [Lit.wf, Bool.and_eq_true, decide_eq_true_eq] at l0
    exact ⟨z, rfl, l0⟩

theorem open_bytes' {P : Program} {t e : TypeId} {W : World} {r : Reach} {b0 : Nat} {v : Value} {d : DataW H} {p : List MemPlace} (hs : P.underlying t = some (.slice e)) (he : P.underlying e = some (.int .u8)) (hce : P.cellsOf e = 1)
    (hv : Value.okWide P W r b0 t v) (h : DataW.Trod enc P W base spare held t v d p) :
    ∃ (A : Option Addr) (c : Nat) (xs : List Int), v = .slice A xs.length c ∧ BytesAt W W.heap.size A xs ∧ (∀ x ∈ xs, 0 ≤ x ∧ x ≤ 255) ∧ xs.length ≤ maxLen := by
  obtain ⟨a0, len, cap, rfl⟩ := okWide_slice hs hv
  obtain ⟨fuel, hf⟩ := h
  obtain ⟨A, c, xs, e1, e2, e3, e4⟩ := open_sl byteV 1 (fun x => 0 ≤ x ∧ x ≤ 255) hs hce (by omega) (fun n cs y hc hy => open_byte' he hc hy) (by simpa [Value.cells] using hf)
  exact ⟨A, c, xs, e1, e2, e3, e4⟩

theorem cellsU8 : Tryd.prog.cellsOf 5 = 1 := by kernel_rfl

set_option maxRecDepth 100000 in
theorem open_bytes {W : World} {r : Reach} {b0 : Nat} {v : Value} {d : DataW H} {p : List MemPlace} (hv : Value.okWide Tryd.prog W r b0 22 v) (h : DataW.Trod enc Tryd.prog W base spare held 22 v d p) :
    ∃ (A : Option Addr) (c : Nat) (xs : List Int), v = .slice A xs.length c ∧ BytesAt W W.heap.size A xs ∧ (∀ x ∈ xs, 0 ≤ x ∧ x ≤ 255) ∧ xs.length ≤ maxLen :=
  open_bytes' Tryd.underlying22 Tryd.underlying5 cellsU8 hv h

end

theorem text_nums (a : GAgg) : NumsOf (joinT (a.nums.map numT) ⟨#[44]⟩) 44 a.nums := by
  refine ⟨[numT a.cnt, numT a.sum, numT a.mn, numT a.mx, numT a.fst], numT a.lst, rfl, ?_⟩
  simp [joinT, GAgg.nums, Lib.join, flatC]

theorem fit_of {a : GAgg} (h : AggP a) : a.fit := by
  have s := aggP_small h
  have f : ∀ n ∈ a.nums, I64 n := fun n hn => by have := s n hn; unfold Small at this; unfold I64; omega
  exact ⟨f _ (by simp [GAgg.nums]), f _ (by simp [GAgg.nums]), f _ (by simp [GAgg.nums]), f _ (by simp [GAgg.nums]), f _ (by simp [GAgg.nums]), f _ (by simp [GAgg.nums])⟩

theorem text_len {a : GAgg} (h : AggP a) : (joinT (a.nums.map numT) ⟨#[44]⟩).size ≤ 132 := by
  have := joinT_size ⟨#[44]⟩ 21 (a.nums.map numT) (fun x hx => by
    obtain ⟨n, hn, rfl⟩ := List.mem_map.1 hx
    have := aggP_small h n hn
    unfold Small at this
    exact numT_le (by omega) (by omega))
  have e1 : (⟨#[44]⟩ : ByteArray).size = 1 := rfl
  have e6 : (a.nums.map numT).length = 6 := rfl
  rw [e1, e6] at this
  exact this

set_option maxRecDepth 100000 in
theorem walk (A : Option Addr) (c : Nat) (bs : List Int) (w : World) (ob : BytesAt w w.heap.size A bs) (ft : ∀ x ∈ bs, 0 ≤ x ∧ x ≤ 255) (ln : bs.length ≤ maxLen) (hE : Errs w) (hP : Pow w) (hM : MaxL w) : Calls Tryd.prog 3 #[.slice A bs.length c] w fun e w' => e = .returned (.bool true) ∧ Below w.heap.size w w' := by
  have HE := Lib.hid hE; clear hE
  have HP := Lib.hid hP; clear hP
  have HM := Lib.hid hM; clear hM
  have HO := Lib.hid ob; clear ob
  have HF := Lib.hid ft; clear ft
  unfold maxLen at ln
  cases hl : decide (1048576 < (bs.length : Int))
  rotate_left
  · go_enter Tryd.func3, Tryd.ntmps3
    go_wp2
    go_ret
    exact ⟨rfl, Below.refl _ _⟩
  have hlen : bs.length ≤ 1048576 := by simp at hl; omega
  go_enter Tryd.func3, Tryd.ntmps3
  go_wp2_with fail
  refine (aggDrawn_any A bs c w HO.out HF.out hlen).mono ?_
  rintro e w1 ⟨a, rfl, hp, hb1⟩
  have HPa := Lib.hid hp
  have HFa := Lib.hid (fit_of hp); clear hp
  clear HO HF
  go_wp2_with fail
  have hS2 := Six.new w1 a 24
  have hb2 : Below w.heap.size w (w1.alloc (.cells #[.int .i64 a.cnt, .int .i64 a.sum, .int .i64 a.mn, .int .i64 a.mx, .int .i64 a.fst, .int .i64 a.lst] 24)) := bal hb1 _
  have hL2 : w1.heap.size < (w1.alloc (.cells #[.int .i64 a.cnt, .int .i64 a.sum, .int .i64 a.mn, .int .i64 a.mx, .int .i64 a.fst, .int .i64 a.lst] 24)).heap.size := by simp
  generalize w1.alloc (.cells #[.int .i64 a.cnt, .int .i64 a.sum, .int .i64 a.mn, .int .i64 a.mx, .int .i64 a.fst, .int .i64 a.lst] 24) = w2 at *
  generalize w1.heap.size = x0 at *
  clear hb1
  refine (meanOf_any a w2).mono ?_
  rintro e w3 ⟨q, r, cm, rfl, hm, hb3⟩
  have HMe := Lib.hid hm; clear hm
  have b3 := bnext hb2 hb3
  have hS3 := hS2.below hb3 hL2
  have hL3 : x0 < w3.heap.size := Nat.lt_of_lt_of_le hL2 hb3.size
  clear hb2 hb3 hL2 hS2
  have HS3 := Lib.hid hS3
  obtain ⟨s0, s1, s2, s3, s4, s5⟩ : (w3.cell? ⟨x0, 0, none⟩ = some (.int .i64 a.cnt) ∧ w3.cell? ⟨x0, 1, none⟩ = some (.int .i64 a.sum) ∧ w3.cell? ⟨x0, 2, none⟩ = some (.int .i64 a.mn) ∧ w3.cell? ⟨x0, 3, none⟩ = some (.int .i64 a.mx) ∧ w3.cell? ⟨x0, 4, none⟩ = some (.int .i64 a.fst) ∧ w3.cell? ⟨x0, 5, none⟩ = some (.int .i64 a.lst)) := hS3
  go_wp2_with fail
  refine (aggText_any a HFa.out w3 (HP.out.below b3 (Nat.le_refl _))).mono ?_
  rintro e w4 ⟨s, cs, rfl, hs, hb4⟩
  have hsT : s = joinT (a.nums.map numT) ⟨#[44]⟩ ∧ cs = 0 := by
    rcases hs with ⟨_, h1, h2⟩ | ⟨h1, _⟩
    · exact ⟨h1, h2⟩
    · exact absurd HPa.out h1
  obtain ⟨hs1, rfl⟩ := hsT
  have HS := Lib.hid hs1; clear hs hs1
  have b4 := bnext b3 hb4
  have hS4 := HS3.out.below hb4 hL3
  have hL4 : x0 < w4.heap.size := Nat.lt_of_lt_of_le hL3 hb4.size
  clear b3 hb4 hL3 HS3 s0 s1 s2 s3 s4 s5
  have HS4 := Lib.hid hS4
  obtain ⟨s0, s1, s2, s3, s4, s5⟩ : (w4.cell? ⟨x0, 0, none⟩ = some (.int .i64 a.cnt) ∧ w4.cell? ⟨x0, 1, none⟩ = some (.int .i64 a.sum) ∧ w4.cell? ⟨x0, 2, none⟩ = some (.int .i64 a.mn) ∧ w4.cell? ⟨x0, 3, none⟩ = some (.int .i64 a.mx) ∧ w4.cell? ⟨x0, 4, none⟩ = some (.int .i64 a.fst) ∧ w4.cell? ⟨x0, 5, none⟩ = some (.int .i64 a.lst)) := hS4
  go_wp2_with fail
  refine (specAggText_any a HFa.out w4).mono ?_
  rintro e w5 ⟨s', cs', rfl, hs, hb5⟩
  have hsT : s' = s ∧ cs' = 0 := by
    rcases hs with ⟨_, h1, h2⟩ | ⟨h1, _⟩
    · exact ⟨by rw [HS.out]; exact h1, h2⟩
    · exact absurd HPa.out h1
  obtain ⟨rfl, rfl⟩ := hsT
  have b5 := bnext b4 hb5
  have hS5 := HS4.out.below hb5 hL4
  have hL5 : x0 < w5.heap.size := Nat.lt_of_lt_of_le hL4 hb5.size
  clear b4 hb5 hL4 HS4 s0 s1 s2 s3 s4 s5 hs
  have HS5 := Lib.hid hS5; clear hS5
  have hz : s'.size ≤ 132 := by rw [HS.out]; exact text_len HPa.out
  have HR := Lib.hid (show AggCode s' a 0 from Or.inr (Or.inl ⟨by omega, ⟨HPa.out, by rw [HS.out]; exact text_nums a⟩, rfl⟩))
  clear HS
  go_wp2_with fail
  refine (readAgg_any s' w5 (by omega) (HE.out.below b5 (Nat.le_refl _)) (HP.out.below b5 (Nat.le_refl _)) (HM.out.below b5 (Nat.le_refl _))).mono ?_
  rintro e w6 ⟨a', cd', rfl, hs', hb6⟩
  obtain ⟨rfl, rfl⟩ := aggCode_one HR.out hs'
  have b6 := bnext b5 hb6
  have hS6 := HS5.out.below hb6 hL5
  have hL6 : x0 < w6.heap.size := Nat.lt_of_lt_of_le hL5 hb6.size
  clear b5 hb6 hL5 HS5 HR hs' hz HE HP HM HFa
  have b7 := Lib.hid (bal b6 (.cells #[.int .i64 a.cnt, .int .i64 a.sum, .int .i64 a.mn, .int .i64 a.mx, .int .i64 a.fst, .int .i64 a.lst] 24))
  obtain ⟨s0, s1, s2, s3, s4, s5⟩ : (w6.cell? ⟨x0, 0, none⟩ = some (.int .i64 a.cnt) ∧ w6.cell? ⟨x0, 1, none⟩ = some (.int .i64 a.sum) ∧ w6.cell? ⟨x0, 2, none⟩ = some (.int .i64 a.mn) ∧ w6.cell? ⟨x0, 3, none⟩ = some (.int .i64 a.mx) ∧ w6.cell? ⟨x0, 4, none⟩ = some (.int .i64 a.fst) ∧ w6.cell? ⟨x0, 5, none⟩ = some (.int .i64 a.lst)) := hS6
  have de : (s'.toList == s'.toList) = true := by simp
  have dn : (s'.toList != s'.toList) = false := by simp
  rcases HMe.out with ⟨h1, _⟩ | ⟨_, h2, rfl, rfl, rfl⟩ | ⟨_, h2, h3, h4, h5, rfl⟩
  · exact absurd HPa.out h1
  · have d0 : (a.cnt == 0) = true := by simp [h2]
    clear HMe HPa h2
    go_wp2
    go_ret
    exact ⟨rfl, b7.out⟩
  · have d0 : (a.cnt == 0) = false := by simp; omega
    have hsm := aggP_small HPa.out a.sum (by simp [GAgg.nums])
    unfold Small at hsm
    have hc6 : a.cnt ≤ 100000 := by
      rcases HPa.out with h | h
      · rw [h]; decide
      · exact h.2.1
    have eq0 : q * a.cnt + r = a.sum := h3.symm
    have wq : wrap64 (q * a.cnt) = q * a.cnt := by unfold wrap64; omega
    have wr : wrap64 (q * a.cnt + r) = a.sum := by rw [eq0]; unfold wrap64; omega
    have dr : decide (0 ≤ r) = true := by simpa using h4
    have dc : decide (r < a.cnt) = true := by simpa using h5
    clear HMe HPa h2 h3 h4 h5 hsm hc6 eq0
    go_wp2
    go_ret
    exact ⟨rfl, b7.out⟩

set_option maxRecDepth 100000 in
theorem contract (H : Type) (enc : TypeId × Value → H) (W : World) (base : Nat) (args : Array Value) (ds gs : List (DataW H)) (before : List MemPlace)
    (hval0 : ∀ (j : Nat) t v, Tryd.f3.params[j]? = some t → args[j]? = some v → Value.okWide Tryd.prog W .any base t v)
    (hW : DataW.Whole enc Tryd.prog Tryd.f3.params.toList Rows.fnMeanSpec.vars false W args.toList ds gs before) (hL : laidMetH Tryd.prog Rows.fnMeanRow.laid W) (hSh : W.ShapedOpen Tryd.prog) :
    Calls Tryd.prog 3 args W fun e W' => ∃ v, e = .returned v ∧ Rows.fnMeanSpec.post enc Tryd.prog Tryd.f3 false true false false W args v W' := by
  have hP : Pow W := pow_of hL
  have hval : ∀ (j : Nat) t v, Tryd.f3.params[j]? = some t → args[j]? = some v → Value.okWide Tryd.prog W .any base t v := hval0
  have hW' := hW
  obtain ⟨p, q, hA0, hV, rfl, hfz, hnd⟩ := hW
  have hA : DataW.TrodAll enc Tryd.prog W 0 (fun _ => true) true Tryd.f3.params.toList args.toList ds p := hA0
  rw [Tryd.params3] at hA hval
  obtain ⟨v0, vs0, d0, ds0, p0, q0, hargs, rfl, rfl, h0, r0⟩ := trodAll_cons hA
  obtain ⟨rfl, rfl, rfl⟩ := trodAll_nil r0
  obtain rfl : args = #[v0] := by cases args; simp_all
  obtain ⟨rfl, rfl⟩ := trodVars_none hV
  have k0 := h0
  have lt0 : ∀ x ∈ p0, x.block < W.heap.size := by obtain ⟨m, hm⟩ := k0; exact DataW.trod_lt m _ _ _ hm
  obtain ⟨A0, c0, xs0, rfl, ob0, ft0, ln0⟩ := open_bytes (hval 0 22 v0 rfl rfl) h0
  clear hA0 hval0
  refine (walk A0 c0 xs0 W ob0 ft0 ln0 (errs_of7 hL) hP (maxL_of hSh)).mono fun e W' ⟨he, bel⟩ => ?_
  subst he
  exact ⟨_, rfl, _, _, _, [], _, [], hW', trodAll_mk1 (shut_bool Tryd.underlying4 _), (trodAll_cons_mk (Below.trod laidOut (by kernel_rfl) (of_decide_eq_true (by kernel_rfl)) k0 bel lt0) trodAll_mk0), rfl, bel.frame _, fun h => by cases h⟩

theorem laid_met (os : Os) : laidMet Tryd.prog Rows.fnMeanRow.laid ((laidWorld7 os).forCall (fun _ _ => 0) ⟨#[], #[.slice none 0 0], []⟩).memory :=
  laidMet_of_run3 8 (by kernel_rfl) (by kernel_rfl) (by kernel_rfl)

theorem reads (os : Os) {H : Type} (enc : TypeId × Value → H) : ∃ places, DataW.whole enc Tryd.prog ((laidWorld7 os).forCall (fun _ _ => 0) ⟨#[], #[.slice none 0 0], []⟩).memory Tryd.f3.params.toList Rows.fnMeanSpec.vars false (#[.slice none 0 0] : Array Value).toList 8 = some ([.nil], [], places) :=
  ⟨[], by kernel_rfl⟩

set_option maxRecDepth 100000 in
theorem lifted (os : Os) (started : os.Started) (H : Type) (enc : TypeId × Value → H) (F : Stop.Interp) :
    ReturnsInHanded {} Tryd.checked os 3 .any ((OpenSpec.ofChange Rows.fnMeanSpec).preRow enc Tryd.prog Tryd.f3 Rows.fnMeanRow.domain false Rows.fnMeanRow.laid) (((OpenSpec.ofChange Rows.fnMeanSpec).at F).post enc Tryd.prog Tryd.f3 false true false false) := by
  obtain ⟨places, hx⟩ := reads os enc
  refine returnsInHanded_of_row (C := Tryd.checked) (s := OpenSpec.ofChange Rows.fnMeanSpec) own started (by kernel_rfl) Tryd.func3
    (witness_row_at (enc := enc) (C := Tryd.checked) false (laidWorld7 os) #[.slice none 0 0] rfl (by kernel_rfl) (by kernel_rfl) (by kernel_rfl)
      (OpenSpec.preRow_of_cond 8 hx (by kernel_rfl) (fun k hk => by cases hk) (by kernel_rfl) (laid_met os))) ?_
  intro W base args ds gs before hval hW _ _ _ hL hSh _
  exact contract H enc W base args ds gs before hval hW hL hSh

theorem said : Rows.FnMeanSaid :=
  OpenClaim.holds_of_cond 3 Tryd.f3 rfl rfl rfl rfl rfl rfl rfl ⟨rfl, rfl, rfl, rfl, rfl⟩ rfl rfl rfl rfl rfl (by kernel_rfl) Tryd.func3 (by kernel_rfl)
    (of_decide_eq_true (by kernel_rfl)) (by unfold Func.isWrapper; first | (rw [if_pos (by decide +kernel)]; kernel_rfl) | (rw [if_neg (by decide +kernel)]; exact ⟨rfl, rfl⟩))
    (fun os started H enc _ F => by rw [OpenClaim.pre_eq_preRow]; exact lifted os started H enc F)

theorem plain (f : FuncId) (fn : Func) (hf : Tryd.pinned.checked.prog.funcNamed "loop.example/g00601/laws.FnMean" = some f) (hfn : Tryd.pinned.checked.prog.funcs[f]? = some fn) :
    true = Tryd.pinned.checked.prog.looks [] ∧ ∀ (j : Nat) t, fn.params[j]? = some t → Tryd.pinned.checked.prog.wantsStandIn t = false := by
  obtain rfl : f = 3 := Option.some.inj ((show Tryd.prog.funcNamed "loop.example/g00601/laws.FnMean" = some 3 by kernel_rfl).symm.trans hf) |>.symm
  obtain rfl : fn = Tryd.f3 := (Option.some.inj (Tryd.func3.symm.trans hfn)).symm
  refine ⟨by kernel_rfl, fun j t ht => ?_⟩
  rw [Tryd.params3] at ht
  obtain rfl : t = 22 := by simpa using Array.mem_of_getElem? ht
  exact (show Tryd.prog.wantsStandIn 22 = false by kernel_rfl)

theorem proved : Rows.FnMeanCardSaid :=
  Claim7.holds_tied_plain_at .later [] _ _ _ _ said (fun _ h => by cases h) (by kernel_rfl) (fun _ h => by cases h) fnMean_row_tie rfl ⟨rfl, rfl⟩ (by kernel_rfl) rfl plain (by kernel_rfl)
#print axioms proved
end Go.Proofs.YtcocgocnffnkpaaDoor.fnMean
