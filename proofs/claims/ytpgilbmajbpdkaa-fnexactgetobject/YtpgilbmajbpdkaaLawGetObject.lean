/-
  'laws.FnExactGetObject' answers true at every store and key: GetObject answers as its model does, and writes into no argument. Conditions: none.
-/
import Derived.Test.YtpgilbmajbpdkaaGet
import Derived.Test.YtpgilbmajbpdkaaMarkStore
import Derived.Test.YtpgilbmajbpdkaaOpen
namespace Go.Proofs.Ytpgilbmajbpdkaa.fnExactGetObject
open Go.ChangeShapes Go.WideShapes Go.ChangeAt Go.RowKit
set_option linter.unusedVariables false

set_option maxRecDepth 100000 in
theorem walk (A : Option Addr) (c : Nat) (next : Int) (xs : List GObj) (key : ByteArray) (w : World) (h : ObjsAt w w.heap.size A xs) (hf : ∀ o ∈ xs, o.fit) (hl : xs.length ≤ maxLen) (hk : key.size ≤ maxLen) :
    Calls Try.prog 10 #[.agg #[.slice A xs.length c, .int .i64 next], .string key] w fun e w' => e = .returned (.bool true) ∧ Below w.heap.size w w' := by
  have H := Lib.hid h; clear h
  have Hf := Lib.hid hf; clear hf
  have Hk := Lib.hid hk
  unfold maxLen at hk
  by_cases l1 : 1048576 < key.size
  · have d1 : decide (1048576 < (key.size : Int)) = true := by simp; omega
    go_enter Try.func10, Try.ntmps10
    go_wp2
    go_ret
    exact ⟨rfl, bal (Below.refl _ _) _⟩
  have d1 : decide (1048576 < (key.size : Int)) = false := by simp; omega
  go_enter Try.func10, Try.ntmps10
  go_wp2_with fail
  obtain ⟨W, hW⟩ : ∃ W, W = w.alloc (.cells #[.slice A xs.length c, .int .i64 next] 51) := ⟨_, rfl⟩
  have t0 : Two W w.heap.size (.slice A xs.length c) (.int .i64 next) := by rw [hW]; exact Two.new _ _ _ _
  have b0 : Below w.heap.size w W := by rw [hW]; exact bal (Below.refl _ _) _
  have s0 : w.heap.size < W.heap.size := by rw [hW]; simp
  rw [← hW]
  clear hW
  have T0 := Lib.hid t0; clear t0
  generalize hx0 : w.heap.size = x0 at *
  have Hx0 := Lib.hid hx0; clear hx0
  have hB : x0 ≤ W.heap.size := by omega
  refine (szStore_any A c next xs 1048576 x0 W (Sl.below H.out b0 (Nat.le_refl _)) hB (fun o ho => (Hf.out o ho).1) hl (by omega) (by omega)).mono ?_
  rintro e w1 ⟨v, hv, hv1, hv2, rfl, hb1⟩
  have Hv := Lib.hid hv; clear hv
  have b1 : Below x0 w w1 := b0.trans (hb1.mono hB)
  obtain ⟨t10, t11⟩ := T0.out.below hb1 s0
  by_cases hneg : v < 0
  · have d : decide (v < 0) = true := by simpa using hneg
    go_wp2
    go_ret
    exact ⟨rfl, by rw [Hx0.out]; exact b1⟩
  · have d : decide (v < 0) = false := by simpa using hneg
    obtain ⟨⟨hlen, hsm⟩, _⟩ := Hv.out (by omega)
    clear Hv hsm
    have T1 := Lib.hid (T0.out.below hb1 s0)
    have s1 : x0 < w1.heap.size := by have := hb1.size; omega
    clear T0 hb1 b0 s0 hB
    go_wp2_with fail
    refine (toStore_any A c next xs x0 w1 (Sl.below H.out b1 (Nat.le_refl _)) (by omega) hlen).mono ?_
    rintro e w2 ⟨A2, c2, rfl, ho2, hf2, hbl2, hc2, hb2⟩
    have Ho2 := Lib.hid ho2; clear ho2 hf2 hbl2 hc2
    have b2 : Below x0 w w2 := b1.trans (hb2.mono (by omega))
    have T2 := Lib.hid (T1.out.below hb2 s1)
    have s2 : x0 < w2.heap.size := by have := hb2.size; omega
    clear T1 hb2 t10 t11 b1
    go_wp2_with fail
    refine (specGetObject_any A2 c2 next xs key w2.heap.size w2 Ho2.out (Nat.le_refl _) Hf.out hlen Hk.out).mono ?_
    rintro e w3 ⟨gd, gv, gc, hbb, rfl, hb3⟩
    have Hbb := Lib.hid hbb; clear hbb
    have b3 : Below x0 w w3 := b2.trans (hb3.mono (by omega))
    have T3 := Lib.hid (T2.out.below hb3 s2)
    have s3 : x0 < w3.heap.size := by have := hb3.size; omega
    obtain ⟨t10, t11⟩ := T2.out.below hb3 s2
    clear T2 hb3 Ho2 b2
    go_wp2_with fail
    refine (toStore_any A c next xs x0 w3 (Sl.below H.out b3 (Nat.le_refl _)) (by omega) hlen).mono ?_
    rintro e w4 ⟨A4, c4, rfl, ho4, hf4, hbl4, hc4, hb4⟩
    have Ho4 := Lib.hid ho4; clear ho4 hf4 hbl4 hc4
    have b4 : Below x0 w w4 := b3.trans (hb4.mono (by omega))
    have T4 := Lib.hid (T3.out.below hb4 s3)
    have s4 : x0 < w4.heap.size := by have := hb4.size; omega
    clear T3 hb4 b3 t10 t11
    go_wp2_with fail
    obtain ⟨W5, hW5⟩ : ∃ W5, W5 = w4.alloc (.cells #[.slice A4 xs.length c4, .int .i64 next] 25) := ⟨_, rfl⟩
    have t5 : Two W5 w4.heap.size (.slice A4 xs.length c4) (.int .i64 next) := by rw [hW5]; exact Two.new _ _ _ _
    have bb5 : Below w4.heap.size w4 W5 := by rw [hW5]; exact bal (Below.refl _ _) _
    have s5 : w4.heap.size < W5.heap.size := by rw [hW5]; simp
    rw [← hW5]
    clear hW5
    have b5 : Below x0 w W5 := b4.trans (bb5.mono (by omega))
    have T5 := Lib.hid t5; clear t5
    have TA5 := Lib.hid (T4.out.below bb5 s4)
    have Ho5 := Lib.hid (Sl.below Ho4.out bb5 (Nat.le_refl _))
    clear T4 Ho4 bb5 b4
    generalize w4.heap.size = x4 at *
    refine (getObject_any A4 c4 next xs key x4 W5 Ho5.out (by omega) Hf.out hlen Hk.out).mono ?_
    rintro e w6 ⟨gd', gv', gc', hbb', rfl, hb6⟩
    obtain ⟨e1, e2, e3⟩ := Hbb.out.one hbb'
    subst e1 e2 e3
    have b6 : Below x0 w w6 := b5.trans (hb6.mono (by omega))
    obtain ⟨t50, t51⟩ := T5.out.below hb6 s5
    obtain ⟨t10, t11⟩ := TA5.out.below hb6 (by omega)
    have Ho6 := Lib.hid (Sl.below Ho5.out hb6 (by omega))
    have s6 : x4 < w6.heap.size := by have := hb6.size; omega
    have s60 : x0 < w6.heap.size := by omega
    clear hbb' Hbb T5 TA5 hb6 Ho5 b5
    go_wp2_with fail
    go_region_held3 (fun w' => w'.cell? ⟨x4, 0, none⟩ = some (.slice A4 xs.length c4) ∧ w'.cell? ⟨x4, 1, none⟩ = some (.int .i64 next) ∧ w'.cell? ⟨x0, 0, none⟩ = some (.slice A xs.length c) ∧ w'.cell? ⟨x0, 1, none⟩ = some (.int .i64 next))
      (first | go_keep | exact ⟨(hb7.cell s6).trans t50, (hb7.cell s6).trans t51, (hb7.cell s60).trans t10, (hb7.cell s60).trans t11⟩ | exact ⟨(hb8.cell s67).trans ((hb7.cell s6).trans t50), (hb8.cell s67).trans ((hb7.cell s6).trans t51), (hb8.cell s607).trans ((hb7.cell s60).trans t10), (hb8.cell s607).trans ((hb7.cell s60).trans t11)⟩)
      (first
        | (go_at_call 37; refine (toStore_any A c next xs x0 w6.drew (by exact Sl.below H.out b6.drew (Nat.le_refl _)) (by exact Nat.le_of_lt s60) hlen).mono ?_; rintro e w7 ⟨A7, c7, rfl, ho7, hf7, hbl7, hc7, hb7⟩; have Ho7 := Lib.hid ho7; clear ho7 hf7 hbl7 hc7; have hb7' : Below w6.heap.size w6 w7 := (Below.refl _ _).drew.trans hb7; have s67 : x4 < w7.heap.size := Nat.lt_of_lt_of_le s6 hb7.size; have s607 : x0 < w7.heap.size := Nat.lt_of_lt_of_le s60 hb7.size)
        | (go_at_call 32; refine (eqStore_any A4 A7 c4 c7 next next xs xs w7.heap.size w7 (by exact Sl.more (Sl.below Ho6.out hb7' (Nat.le_of_lt s6)) (Nat.le_of_lt s67)) Ho7.out (Nat.le_refl _) (by omega) (by omega)).mono ?_; rintro e w8 ⟨be, hbe, rfl, hb8⟩; obtain rfl : be = true := hbe.2 ⟨rfl, rfl⟩; clear hbe))
    have b8 : Below x0 w w8 := (b6.trans (hb7'.mono (Nat.le_of_lt s60))).trans (hb8.mono (Nat.le_of_lt s607))
    clear t50 t51 t10 t11 hb7 hb7' hb8 b6 Ho6 Ho7
    go_wp2
    go_ret
    exact ⟨rfl, by rw [Hx0.out]; exact b8⟩

theorem own : ownKnob Try.prog.godebug = none := by kernel_rfl
theorem laidOut : laidOutB Try.prog = true := by kernel_rfl

set_option maxRecDepth 100000 in
theorem lifted (os : Os) (started : os.Started) (H : Type) (enc : TypeId × Value → H) :
    ReturnsInHanded {} Try.checked os 10 .any (Rows.fnExactGetObjectSpec.pre6 enc Try.prog Try.f10 Rows.fnExactGetObjectRow.domain false) (Rows.fnExactGetObjectSpec.post enc Try.prog Try.f10 false true false false) := by
  refine returnsInHanded_of_change (C := Try.checked) own started (by kernel_rfl) Try.func10
    (ChangeSpec.witness6 (enc := enc) (C := Try.checked) false ⟨#[], #[.agg #[.slice none 0 0, .int .i64 0], .string ByteArray.empty], []⟩ 8 (by kernel_rfl) (by kernel_rfl) (by kernel_rfl) (by kernel_rfl)) ?_
  intro W base args ds gs before hval0 hW hcnd _
  have hval : ∀ (j : Nat) t v, Try.f10.params[j]? = some t → args[j]? = some v → Value.okWide Try.prog W .any base t v := hval0
  have hW' := hW
  obtain ⟨p, q, hA0, hV, rfl, hfz, hnd⟩ := hW
  have hA : DataW.TrodAll enc Try.prog W 0 (fun _ => true) true Try.f10.params.toList args.toList ds p := hA0
  rw [Try.params10] at hA hval
  obtain ⟨v0, vs0, d0, ds0, p0, q0, hargs, rfl, rfl, h0, r0⟩ := trodAll_cons hA
  obtain ⟨v1, vs1, d1, ds1, p1, q1, rfl, rfl, rfl, h1, r1⟩ := trodAll_cons r0
  obtain ⟨rfl, rfl, rfl⟩ := trodAll_nil r1
  obtain rfl : args = #[v0, v1] := by cases args; simp_all
  obtain ⟨rfl, rfl⟩ := trodVars_none hV
  have k0 := h0
  have lt0 : ∀ x ∈ p0, x.block < W.heap.size := by obtain ⟨m, hm⟩ := k0; exact DataW.trod_lt m _ _ _ hm
  obtain ⟨A0, c0, xs0, nx0, rfl, ob0, ft0, ln0, wn0⟩ := open_store (hval 0 51 v0 rfl rfl) h0
  have k1 := h1
  have lt1 : ∀ x ∈ p1, x.block < W.heap.size := by obtain ⟨m, hm⟩ := k1; exact DataW.trod_lt m _ _ _ hm
  obtain ⟨s1, rfl, hd1, hp1, ls1⟩ := Go.ChangeMaps.open_string Try.underlying9 (hval 1 9 v1 rfl rfl) h1
  clear hA0 hval0
  refine (walk A0 c0 nx0 xs0 s1 W ob0 ft0 ln0 ls1).mono fun e W' ⟨he, bel⟩ => ?_
  subst he
  exact ⟨_, rfl, _, _, _, [], _, [], hW', trodAll_mk1 (shut_bool Try.underlying4 _), (trodAll_cons_mk (Below.trod laidOut (by kernel_rfl) (of_decide_eq_true (by kernel_rfl)) k0 bel lt0) (trodAll_cons_mk (Below.trod laidOut (by kernel_rfl) (of_decide_eq_true (by kernel_rfl)) k1 bel lt1) trodAll_mk0)), rfl, bel.frame _, fun h => by cases h⟩

theorem over : Rows.fnExactGetObjectRow.holds Try.pinned (OpenSpec.ofChange Rows.fnExactGetObjectSpec) :=
  OpenClaim.holds_of_wide 10 Try.f10 rfl rfl rfl rfl rfl rfl rfl ⟨rfl, rfl, rfl, rfl, rfl⟩ rfl rfl rfl rfl rfl (by kernel_rfl) Try.func10 (by kernel_rfl)
    (of_decide_eq_true (by kernel_rfl)) (by unfold Func.isWrapper; first | (rw [if_pos (by decide +kernel)]; kernel_rfl) | (rw [if_neg (by decide +kernel)]; exact ⟨rfl, rfl⟩))
    (fun os started H enc _ => lifted os started H enc)

theorem proved : Rows.FnExactGetObjectSaid := over
#print axioms proved
end Go.Proofs.Ytpgilbmajbpdkaa.fnExactGetObject
