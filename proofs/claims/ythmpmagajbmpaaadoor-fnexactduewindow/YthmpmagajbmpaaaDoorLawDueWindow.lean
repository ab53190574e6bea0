/-
  'laws.FnExactDueWindow' answers true at every input: DueWindow answers as its model does, and writes into no argument. Conditions: the library's tables hold what its text lays there (tied by the card).
-/
import Derived.Test.YthmpmagajbmpaaaDoorDueI
import Derived.Test.YthmpmagajbmpaaaDoorDueS
import Derived.Test.YthmpmagajbmpaaaDoorM1
import Derived.Deep.RegionHeld3
import Derived.Test.YthmpmagajbmpaaaDoorDoorKey
import Derived.Test.YthmpmagajbmpaaaDoorCards
import Derived.Test.YthmpmagajbmpaaaDoorTie
import Derived.ProofKit
import Derived.OpenShut
import Derived.Deep.DeepHandedRow
import Derived.Lib.LaidTab
import Derived.Outline
import Derived.ShutString
namespace Go.Proofs.YthmpmagajbmpaaaDoor.fnExactDueWindow
open Go.ChangeShapes Go.WideShapes Go.ChangeAt Go.RowKit
set_option linter.unusedVariables false

set_option maxRecDepth 100000 in
set_option maxHeartbeats 4000000 in
theorem walk (A : Option Addr) (c : Nat) (A2 : Option Addr) (c2 : Nat) (s : GSt) (w : World) (h : StAt w w.heap.size A A2 s) (hf : s.fit) (hp : Paths w) (hz : 2 < w.heap.size) (ht : Tab3 0 wid w) (hz2 : 0 < w.heap.size) :
    Calls Tryd.prog 3 #[.agg #[.int .i64 s.sq, .int .i64 s.fe, .slice A s.ents.length c, .slice A2 s.tmbs.length c2, .int .i64 s.lo.a, .int .i64 s.lo.b, .int .i64 s.lo.c, .int .i64 s.hi.a, .int .i64 s.hi.b, .int .i64 s.hi.c]] w fun e w' => e = .returned (.bool true) ∧ Below w.heap.size w w' := by
  have H := Lib.hid h; clear h
  have Hf := Lib.hid hf; clear hf
  have HP : Hid (∀ w', Below w.heap.size w w' → (Paths w' ∧ 2 < w'.heap.size) ∧ Tab3 0 wid w' ∧ 0 < w'.heap.size) := Lib.hid (fun w' h => ⟨⟨hp.below h hz, Nat.lt_of_lt_of_le hz h.size⟩, ht.below h hz2, Nat.lt_of_lt_of_le hz2 h.size⟩)
  clear hp ht
  go_enter Tryd.func3, Tryd.ntmps3
  go_wp2_with fail
  have T0 := Lib.hid (Cells.new w [.int .i64 s.sq, .int .i64 s.fe, .slice A s.ents.length c, .slice A2 s.tmbs.length c2, .int .i64 s.lo.a, .int .i64 s.lo.b, .int .i64 s.lo.c, .int .i64 s.hi.a, .int .i64 s.hi.b, .int .i64 s.hi.c] 26)
  have b0 : Below w.heap.size w (w.alloc (.cells #[.int .i64 s.sq, .int .i64 s.fe, .slice A s.ents.length c, .slice A2 s.tmbs.length c2, .int .i64 s.lo.a, .int .i64 s.lo.b, .int .i64 s.lo.c, .int .i64 s.hi.a, .int .i64 s.hi.b, .int .i64 s.hi.c] 26)) := bal (Below.refl _ _) _
  have s0 : w.heap.size < (w.alloc (.cells #[.int .i64 s.sq, .int .i64 s.fe, .slice A s.ents.length c, .slice A2 s.tmbs.length c2, .int .i64 s.lo.a, .int .i64 s.lo.b, .int .i64 s.lo.c, .int .i64 s.hi.a, .int .i64 s.hi.b, .int .i64 s.hi.c] 26)).heap.size := by simp
  have T0' : Hid (Cells (w.alloc (.cells #[.int .i64 s.sq, .int .i64 s.fe, .slice A s.ents.length c, .slice A2 s.tmbs.length c2, .int .i64 s.lo.a, .int .i64 s.lo.b, .int .i64 s.lo.c, .int .i64 s.hi.a, .int .i64 s.hi.b, .int .i64 s.hi.c] 26)) w.heap.size 0 [.int .i64 s.sq, .int .i64 s.fe, .slice A s.ents.length c, .slice A2 s.tmbs.length c2, .int .i64 s.lo.a, .int .i64 s.lo.b, .int .i64 s.lo.c, .int .i64 s.hi.a, .int .i64 s.hi.b, .int .i64 s.hi.c]) := T0
  clear T0
  generalize w.alloc (.cells #[.int .i64 s.sq, .int .i64 s.fe, .slice A s.ents.length c, .slice A2 s.tmbs.length c2, .int .i64 s.lo.a, .int .i64 s.lo.b, .int .i64 s.lo.c, .int .i64 s.hi.a, .int .i64 s.hi.b, .int .i64 s.hi.c] 26) = W at *
  generalize hx0 : w.heap.size = x0 at *
  have Hx0 := Lib.hid hx0; clear hx0
  refine (szState_any A c A2 c2 s 1048576 x0 W (H.out.below b0 (Nat.le_refl _)) (by omega) Hf.out.2.2.2.2.1 Hf.out.2.2.2.2.2.1 Hf.out.2.2.2.2.2.2.1 Hf.out.2.2.2.2.2.2.2 (by omega) (by omega)).mono ?_
  rintro e w1 ⟨v, hv, hv1, hv2, rfl, hb1⟩
  have Hv := Lib.hid hv; clear hv
  have b1 : Below x0 w w1 := b0.trans (hb1.mono (by omega))
  by_cases hneg : v < 0
  · have d : decide (v < 0) = true := by simpa using hneg
    go_wp2
    go_ret
    exact ⟨rfl, by rw [Hx0.out]; exact b1⟩
  have d : decide (v < 0) = false := by simpa using hneg
  have hlen : s.ents.length ≤ 1048576 := (Hv.out (by omega)).1.1.1
  have hlen2 : s.tmbs.length ≤ 1048576 := (Hv.out (by omega)).1.2.1
  have HSE := Lib.hid (Hv.out (by omega)).1.1.2
  have HST := Lib.hid (Hv.out (by omega)).1.2.2
  have T1 := Lib.hid (T0'.out.below hb1 s0)
  have s1 : x0 < w1.heap.size := by have := hb1.size; omega
  obtain ⟨t0, t1, t2, t3, t4, t5, t6, t7, t8, t9⟩ := T1.out.ten
  clear Hv T0' hb1 b0 s0
  go_wp2_with fail
  refine (toState_any A c A2 c2 s x0 w1 (H.out.below b1 (Nat.le_refl _)) (by omega) hlen hlen2).mono ?_
  rintro e w2 ⟨A2', c2', B2', d2', rfl, ho2, hf2, hc2, hd2, hb2⟩
  have Ho2 := Lib.hid ho2; clear ho2 hf2 hc2 hd2 t0 t1 t2 t3 t4 t5 t6 t7 t8 t9
  have b2 : Below x0 w w2 := b1.trans (hb2.mono (by omega))
  have T2 := Lib.hid (T1.out.below hb2 s1)
  have s2 : x0 < w2.heap.size := Nat.lt_of_lt_of_le s1 hb2.size
  clear T1 hb2 b1 s1
  go_wp2_with fail
  refine (specDueWindow_any A2' c2' B2' d2' s w2.heap.size w2 Ho2.out (Nat.le_refl _) HSE.out HST.out hlen hlen2).mono ?_
  rintro e w3 hr3
  obtain ⟨rp, rq, rb, rz, hv3, rfl, hb3⟩ := hr3.val
  have Hv3 := Lib.hid hv3; clear hv3 hr3
  have b3 : Below x0 w w3 := b2.trans (hb3.mono (by omega))
  have T3 := Lib.hid (T2.out.below hb3 s2)
  have s3 : x0 < w3.heap.size := Nat.lt_of_lt_of_le s2 hb3.size
  clear T2 hb3 b2 s2 Ho2
  obtain ⟨t0, t1, t2, t3, t4, t5, t6, t7, t8, t9⟩ := T3.out.ten
  go_wp2_with fail
  refine (toState_any A c A2 c2 s x0 w3 (H.out.below b3 (Nat.le_refl _)) (by omega) hlen hlen2).mono ?_
  rintro e w6 ⟨A6, c6, B6, d6, rfl, ho6, hf6, hc6, hd6, hb6⟩
  have Ho6 := Lib.hid ho6; clear ho6 hf6 hc6 hd6 t0 t1 t2 t3 t4 t5 t6 t7 t8 t9
  have b6 : Below x0 w w6 := b3.trans (hb6.mono (by omega))
  have T6 := Lib.hid (T3.out.below hb6 s3)
  have s6 : x0 < w6.heap.size := Nat.lt_of_lt_of_le s3 hb6.size
  clear T3 hb6 b3 s3
  go_wp2_with fail
  have V7 : Hid (Cells (w6.alloc (.cells #[.int .i64 s.sq, .int .i64 s.fe, .slice A6 s.ents.length c6, .slice B6 s.tmbs.length d6, .int .i64 s.lo.a, .int .i64 s.lo.b, .int .i64 s.lo.c, .int .i64 s.hi.a, .int .i64 s.hi.b, .int .i64 s.hi.c] 33)) w6.heap.size 0 [.int .i64 s.sq, .int .i64 s.fe, .slice A6 s.ents.length c6, .slice B6 s.tmbs.length d6, .int .i64 s.lo.a, .int .i64 s.lo.b, .int .i64 s.lo.c, .int .i64 s.hi.a, .int .i64 s.hi.b, .int .i64 s.hi.c]) := Lib.hid (Cells.new _ _ _)
  have bb7 : Below w6.heap.size w6 (w6.alloc (.cells #[.int .i64 s.sq, .int .i64 s.fe, .slice A6 s.ents.length c6, .slice B6 s.tmbs.length d6, .int .i64 s.lo.a, .int .i64 s.lo.b, .int .i64 s.lo.c, .int .i64 s.hi.a, .int .i64 s.hi.b, .int .i64 s.hi.c] 33)) := bal (Below.refl _ _) _
  have s7 : w6.heap.size < (w6.alloc (.cells #[.int .i64 s.sq, .int .i64 s.fe, .slice A6 s.ents.length c6, .slice B6 s.tmbs.length d6, .int .i64 s.lo.a, .int .i64 s.lo.b, .int .i64 s.lo.c, .int .i64 s.hi.a, .int .i64 s.hi.b, .int .i64 s.hi.c] 33)).heap.size := by simp
  generalize w6.alloc (.cells #[.int .i64 s.sq, .int .i64 s.fe, .slice A6 s.ents.length c6, .slice B6 s.tmbs.length d6, .int .i64 s.lo.a, .int .i64 s.lo.b, .int .i64 s.lo.c, .int .i64 s.hi.a, .int .i64 s.hi.b, .int .i64 s.hi.c] 33) = W7 at *
  have T7 := Lib.hid (T6.out.below bb7 s6)
  have Ho7 := Lib.hid (Ho6.out.below bb7 (Nat.le_refl _))
  have b7 : Below x0 w W7 := b6.trans (bb7.mono (by omega))
  clear T6 bb7 b6 Ho6
  generalize w6.heap.size = x6 at *
  refine (dueWindow_any A6 c6 B6 d6 s x6 W7 Ho7.out (by omega) Hf.out.2.2.2.2.1 Hf.out.2.2.2.2.2.1 hlen hlen2 (HP.out _ b7).1.1 (HP.out _ b7).1.2 (HP.out _ b7).2.1 (HP.out _ b7).2.2).mono ?_
  rintro e w10 hr10
  obtain ⟨sp, sq, sb, sz, hv10, rfl, hb10⟩ := hr10.val
  obtain ⟨rfl, rfl, rfl, rfl⟩ := Hv3.out.one hv10
  clear hr10 hv10
  have b10 : Below x0 w w10 := b7.trans (hb10.mono (by omega))
  have T10 := Lib.hid (T7.out.below hb10 (by omega))
  have V10 := Lib.hid (V7.out.below hb10 s7)
  have Hx10 := Lib.hid (Ho7.out.below hb10 (by omega))
  have s106 : x6 < w10.heap.size := Nat.lt_of_lt_of_le s7 hb10.size
  have s100 : x0 < w10.heap.size := by omega
  clear Hv3 T7 V7 hb10 b7 Ho7
  have CT := T10.out.ten
  have CV := V10.out.ten
  go_wp2_with fail
  go_region_held3 (fun w' => (w'.cell? ⟨x6, 0, none⟩ = some (.int .i64 s.sq) ∧ w'.cell? ⟨x6, 1, none⟩ = some (.int .i64 s.fe) ∧ w'.cell? ⟨x6, 2, none⟩ = some (.slice A6 s.ents.length c6) ∧ w'.cell? ⟨x6, 3, none⟩ = some (.slice B6 s.tmbs.length d6) ∧ w'.cell? ⟨x6, 4, none⟩ = some (.int .i64 s.lo.a) ∧ w'.cell? ⟨x6, 5, none⟩ = some (.int .i64 s.lo.b) ∧ w'.cell? ⟨x6, 6, none⟩ = some (.int .i64 s.lo.c) ∧ w'.cell? ⟨x6, 7, none⟩ = some (.int .i64 s.hi.a) ∧ w'.cell? ⟨x6, 8, none⟩ = some (.int .i64 s.hi.b) ∧ w'.cell? ⟨x6, 9, none⟩ = some (.int .i64 s.hi.c)) ∧ w'.cell? ⟨x0, 0, none⟩ = some (.int .i64 s.sq) ∧ w'.cell? ⟨x0, 1, none⟩ = some (.int .i64 s.fe) ∧ w'.cell? ⟨x0, 2, none⟩ = some (.slice A s.ents.length c) ∧ w'.cell? ⟨x0, 3, none⟩ = some (.slice A2 s.tmbs.length c2) ∧ w'.cell? ⟨x0, 4, none⟩ = some (.int .i64 s.lo.a) ∧ w'.cell? ⟨x0, 5, none⟩ = some (.int .i64 s.lo.b) ∧ w'.cell? ⟨x0, 6, none⟩ = some (.int .i64 s.lo.c) ∧ w'.cell? ⟨x0, 7, none⟩ = some (.int .i64 s.hi.a) ∧ w'.cell? ⟨x0, 8, none⟩ = some (.int .i64 s.hi.b) ∧ w'.cell? ⟨x0, 9, none⟩ = some (.int .i64 s.hi.c))
    (first | exact ⟨CV, CT⟩ | exact ⟨(V10.out.below hb11 s106).ten, (T10.out.below hb11 s100).ten⟩ | exact ⟨((V10.out.below hb11 s106).below hb12 s116).ten, ((T10.out.below hb11 s100).below hb12 s110).ten⟩ | (go_keep; done))
    (first
      | (go_at_call 10; refine (toState_any A c A2 c2 s x0 w10.drew (by exact H.out.below b10.drew (Nat.le_refl _)) (by exact Nat.le_of_lt s100) hlen hlen2).mono ?_; rintro e w11 ⟨A11, c11, B11, d11, rfl, ho11, hf11, hc11, hd11, hb11'⟩; have Ho11 := Lib.hid ho11; clear ho11 hf11 hc11 hd11; have hb11 : Below w10.heap.size w10 w11 := (Below.refl _ _).drew.trans hb11'; clear hb11'; have s116 : x6 < w11.heap.size := Nat.lt_of_lt_of_le s106 hb11.size; have s110 : x0 < w11.heap.size := Nat.lt_of_lt_of_le s100 hb11.size; have b11 : Below x0 w w11 := b10.trans (hb11.mono (Nat.le_of_lt s100)))
      | (go_at_call 12; refine (eqState_any A6 c6 B6 d6 A11 c11 B11 d11 s s w11.heap.size w11 (by exact (Hx10.out.below hb11 (Nat.le_of_lt s106)).more (Nat.le_of_lt s116)) Ho11.out (Nat.le_refl _) (by omega) (by omega) (by omega) (by omega)).mono ?_; rintro e w12 ⟨be, hbe, rfl, hb12⟩; obtain rfl : be = true := hbe.2 rfl; clear hbe; have b12 : Below x0 w w12 := b11.trans (hb12.mono (Nat.le_of_lt s110))))
  clear CT CV hb11 hb12 b10 b11
  go_wp2
  go_ret
  exact ⟨rfl, by rw [Hx0.out]; exact b12⟩

set_option maxRecDepth 100000 in
theorem contract (H : Type) (enc : TypeId × Value → H) (W : World) (base : Nat) (args : Array Value) (ds gs : List (DataW H)) (before : List MemPlace)
    (hval0 : ∀ (j : Nat) t v, Tryd.f3.params[j]? = some t → args[j]? = some v → Value.okWide Tryd.prog W .any base t v)
    (hW : DataW.Whole enc Tryd.prog Tryd.f3.params.toList Rows.fnExactDueWindowSpec.vars false W args.toList ds gs before) (hL : laidMetH Tryd.prog Rows.fnExactDueWindowRow.laid W) :
    Calls Tryd.prog 3 args W fun e W' => ∃ v, e = .returned v ∧ Rows.fnExactDueWindowSpec.post enc Tryd.prog Tryd.f3 false true false false W args v W' := by
  obtain ⟨hQ, hz⟩ := paths_in hL List.mem_cons_self
  obtain ⟨hT, hz2⟩ := wid_in hL (List.mem_cons_of_mem _ List.mem_cons_self)
  have hval : ∀ (j : Nat) t v, Tryd.f3.params[j]? = some t → args[j]? = some v → Value.okWide Tryd.prog W .any base t v := hval0
  have hW' := hW
  have hlt : ∀ p ∈ before, p.block < W.heap.size := fun p hp => hW.lt p hp
  obtain ⟨p, q, hA0, hV, rfl, hfz, hnd⟩ := hW
  have hA : DataW.TrodAll enc Tryd.prog W 0 (fun _ => true) true Tryd.f3.params.toList args.toList ds p := hA0
  rw [Tryd.params3] at hA hval
  obtain ⟨v0, vs0, d0, ds0, p0, q0, hargs, rfl, rfl, h0, r0⟩ := trodAll_cons hA
  obtain ⟨rfl, rfl, rfl⟩ := trodAll_nil r0
  obtain rfl : args = #[v0] := by cases args; simp_all
  have hV1 : DataW.TrodVars enc Tryd.prog W (fun _ => true) ["loop.example/g00601/impl.tierPaths", "loop.example/g00601/impl.tierWidths"] gs q := hV
  obtain ⟨dg, dh, rfl⟩ : ∃ d e, gs = [d, e] := by
    rcases gs with _ | ⟨d, _ | ⟨e, _ | ⟨f, r⟩⟩⟩
    · cases hV1
    · obtain ⟨_, _, _, _, _, _, _, _, _, _, h, _⟩ := hV1; cases h
    · exact ⟨d, e, rfl⟩
    · obtain ⟨_, _, _, _, _, _, _, _, _, _, ⟨_, _, _, _, _, _, _, _, _, _, h, _⟩, _⟩ := hV1; cases h
  have k0 := h0
  have lt0 : ∀ x ∈ p0, x.block < W.heap.size := by obtain ⟨m, hm⟩ := k0; exact DataW.trod_lt m _ _ _ hm
  obtain ⟨A0, c0, B0, e0, st0, rfl, ob0, ft0⟩ := open_lst (hval 0 26 v0 rfl rfl) h0
  clear hA0 hval0
  refine (walk A0 c0 B0 e0 st0 W ob0 ft0 hQ hz hT hz2).mono fun e W' ⟨he, bel⟩ => ?_
  subst he
  exact ⟨_, rfl, _, _, _, [], _, _, hW', trodAll_mk1 (shut_bool Tryd.underlying4 _), (trodAll_cons_mk (Below.trod laidOut (by kernel_rfl) (of_decide_eq_true (by kernel_rfl)) k0 bel lt0) trodAll_mk0), vars_backs bel ["loop.example/g00601/impl.tierPaths", "loop.example/g00601/impl.tierWidths"] _ _ (by
    intro n hn
    simp only [List.mem_cons, List.not_mem_nil, or_false] at hn
    rcases hn with rfl | rfl
    · exact ⟨_, _, gTab, gTabType, Or.inl rfl, hz⟩
    · exact ⟨_, _, gWidA, gWidTypeA, Or.inr rfl, hz2⟩) hV1 (fun x hx => hlt x (List.mem_append_right _ hx)), bel.frame _, fun h => by cases h⟩

theorem laid_met (os : Os) : laidMet Tryd.prog Rows.fnExactDueWindowRow.laid ((laidWorldP os).forCall (fun _ _ => 0) ⟨#[], #[.agg #[.int .i64 0, .int .i64 0, .slice none 0 0, .slice none 0 0, .int .i64 0, .int .i64 0, .int .i64 0, .int .i64 0, .int .i64 0, .int .i64 0]], []⟩).memory :=
  laidMet_of_run' 8 (by kernel_rfl) (by kernel_rfl)

theorem reads (os : Os) {H : Type} (enc : TypeId × Value → H) : ∃ places, DataW.whole enc Tryd.prog ((laidWorldP os).forCall (fun _ _ => 0) ⟨#[], #[.agg #[.int .i64 0, .int .i64 0, .slice none 0 0, .slice none 0 0, .int .i64 0, .int .i64 0, .int .i64 0, .int .i64 0, .int .i64 0, .int .i64 0]], []⟩).memory Tryd.f3.params.toList Rows.fnExactDueWindowSpec.vars false (#[.agg #[.int .i64 0, .int .i64 0, .slice none 0 0, .slice none 0 0, .int .i64 0, .int .i64 0, .int .i64 0, .int .i64 0, .int .i64 0, .int .i64 0]] : Array Value).toList 8 = some ([.agg [.lit (.int .i64 0), .lit (.int .i64 0), .nil, .nil, .agg [.lit (.int .i64 0), .lit (.int .i64 0), .lit (.int .i64 0)], .agg [.lit (.int .i64 0), .lit (.int .i64 0), .lit (.int .i64 0)]]], [.agg (pl.map fun z => .lit (.string z)), Lib.tabData .i64 [1, 5, 20]], places) :=
  ⟨MemPlace.row ⟨2, 0, none⟩ 3 ++ MemPlace.row ⟨0, 0, none⟩ 3, by kernel_rfl⟩

set_option maxRecDepth 100000 in
theorem lifted (os : Os) (started : os.Started) (H : Type) (enc : TypeId × Value → H) (F : Stop.Interp) :
    ReturnsInHanded {} Tryd.checked os 3 .any ((OpenSpec.ofChange Rows.fnExactDueWindowSpec).preRow enc Tryd.prog Tryd.f3 Rows.fnExactDueWindowRow.domain false Rows.fnExactDueWindowRow.laid) (((OpenSpec.ofChange Rows.fnExactDueWindowSpec).at F).post enc Tryd.prog Tryd.f3 false true false false) := by
  obtain ⟨places, hx⟩ := reads os enc
  refine returnsInHanded_of_row (C := Tryd.checked) (s := OpenSpec.ofChange Rows.fnExactDueWindowSpec) own started (by kernel_rfl) Tryd.func3
    (witness_row_at (enc := enc) (C := Tryd.checked) false (laidWorldP os) #[.agg #[.int .i64 0, .int .i64 0, .slice none 0 0, .slice none 0 0, .int .i64 0, .int .i64 0, .int .i64 0, .int .i64 0, .int .i64 0, .int .i64 0]] rfl (by kernel_rfl) (by kernel_rfl) (by kernel_rfl)
      (OpenSpec.preRow_of_cond 8 hx (by kernel_rfl) (fun k hk => by cases hk) (by kernel_rfl) (laid_met os))) ?_
  intro W base args ds gs before hval hW _ _ _ hL _ _
  exact contract H enc W base args ds gs before hval hW hL

theorem said : Rows.FnExactDueWindowSaid :=
  OpenClaim.holds_of_cond 3 Tryd.f3 rfl rfl rfl rfl rfl rfl rfl ⟨rfl, rfl, rfl, rfl, rfl⟩ rfl rfl rfl rfl rfl (by kernel_rfl) Tryd.func3 (by kernel_rfl)
    (of_decide_eq_true (by kernel_rfl)) (by unfold Func.isWrapper; first | (rw [if_pos (by decide +kernel)]; kernel_rfl) | (rw [if_neg (by decide +kernel)]; exact ⟨rfl, rfl⟩))
    (fun os started H enc _ F => by rw [OpenClaim.pre_eq_preRow]; exact lifted os started H enc F)

theorem plain (f : FuncId) (fn : Func) (hf : Tryd.pinned.checked.prog.funcNamed "loop.example/g00601/laws.FnExactDueWindow" = some f) (hfn : Tryd.pinned.checked.prog.funcs[f]? = some fn) :
    false = Tryd.pinned.checked.prog.looks [] ∧ ∀ (j : Nat) t, fn.params[j]? = some t → Tryd.pinned.checked.prog.wantsStandIn t = false := by
  obtain rfl : f = 3 := Option.some.inj ((show Tryd.prog.funcNamed "loop.example/g00601/laws.FnExactDueWindow" = some 3 by kernel_rfl).symm.trans hf) |>.symm
  obtain rfl : fn = Tryd.f3 := (Option.some.inj (Tryd.func3.symm.trans hfn)).symm
  refine ⟨by kernel_rfl, fun j t ht => ?_⟩
  rw [Tryd.params3] at ht
  obtain rfl : t = 26 := by simpa using Array.mem_of_getElem? ht
  exact (show Tryd.prog.wantsStandIn 26 = false by kernel_rfl)

theorem proved : Rows.FnExactDueWindowCardSaid :=
  Claim7.holds_tied_plain_at .later [] _ _ _ _ said (fun _ h => by cases h) (by kernel_rfl) (fun _ h => by cases h) fnExactDueWindow_row_tie rfl ⟨rfl, rfl⟩ (by kernel_rfl) rfl plain (by kernel_rfl)
#print axioms proved
end Go.Proofs.YthmpmagajbmpaaaDoor.fnExactDueWindow
