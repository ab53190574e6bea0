/-
  'laws.FnExactExpiredEntry' answers true at every input: ExpiredEntry answers as its model does, and writes into no argument. Conditions: the library's tables hold what its text lays there (tied by the card).
-/
import Derived.Test.YthmpmagajbmpaaaDoorExpI
import Derived.Test.YthmpmagajbmpaaaDoorExpS
import Derived.Test.YthmpmagajbmpaaaDoorM1
import Derived.Deep.RegionHeld3
import Derived.Test.YthmpmagajbmpaaaDoorCards
import Derived.Test.YthmpmagajbmpaaaDoorTie
import Derived.ProofKit
import Derived.OpenShut
import Derived.Deep.DeepHandedRow
import Derived.Lib.LaidTab
import Derived.Outline
import Derived.ShutString
namespace Go.Proofs.YthmpmagajbmpaaaDoor.fnExactExpiredEntry
open Go.ChangeShapes Go.WideShapes Go.ChangeAt Go.RowKit
set_option linter.unusedVariables false

set_option maxRecDepth 100000 in
set_option maxHeartbeats 4000000 in
theorem walk (A : Option Addr) (c : Nat) (A2 : Option Addr) (c2 : Nat) (s : GSt) (now : Int) (w : World) (h : StAt w w.heap.size A A2 s) (hf : s.fit) (hp : Paths w) (hz : 2 < w.heap.size) (ht : Tab3 1 kep w) (hz2 : 1 < w.heap.size) :
    Calls Tryd.prog 5 #[.agg #[.int .i64 s.sq, .int .i64 s.fe, .slice A s.ents.length c, .slice A2 s.tmbs.length c2, .int .i64 s.lo.a, .int .i64 s.lo.b, .int .i64 s.lo.c, .int .i64 s.hi.a, .int .i64 s.hi.b, .int .i64 s.hi.c], .int .i64 now] w fun e w' => e = .returned (.bool true) ∧ Below w.heap.size w w' := by
  have H := Lib.hid h; clear h
  have Hf := Lib.hid hf; clear hf
  have HP : Hid (∀ w', Below w.heap.size w w' → (Paths w' ∧ 2 < w'.heap.size) ∧ Tab3 1 kep w' ∧ 1 < w'.heap.size) := Lib.hid (fun w' h => ⟨⟨hp.below h hz, Nat.lt_of_lt_of_le hz h.size⟩, ht.below h hz2, Nat.lt_of_lt_of_le hz2 h.size⟩)
  clear hp ht
  go_enter Tryd.func5, Tryd.ntmps5
  go_wp2_with fail
  have T0 := Lib.hid (Cells.new w [.int .i64 s.sq, .int .i64 s.fe, .slice A s.ents.length c, .slice A2 s.tmbs.length c2, .int .i64 s.lo.a, .int .i64 s.lo.b, .int .i64 s.lo.c, .int .i64 s.hi.a, .int .i64 s.hi.b, .int .i64 s.hi.c] 26)
  have b0 : Below w.heap.size w (w.alloc (.cells #[.int .i64 s.sq, .int .i64 s.fe, .slice A s.ents.length c, .slice A2 s.tmbs.length c2, .int .i64 s.lo.a, .int .i64 s.lo.b, .int .i64 s.lo.c, .int .i64 s.hi.a, .int .i64 s.hi.b, .int .i64 s.hi.c] 26)) := bal (Below.refl _ _) _
  have s0 : w.heap.size < (w.alloc (.cells #[.int .i64 s.sq, .int .i64 s.fe, .slice A s.ents.length c, .slice A2 s.tmbs.length c2, .int .i64 s.lo.a, .int .i64 s.lo.b, .int .i64 s.lo.c, .int .i64 s.hi.a, .int .i64 s.hi.b, .int .i64 s.hi.c] 26)).heap.size := by simp
  have T0' : Hid (Cells (w.alloc (.cells #[.int .i64 s.sq, .int .i64 s.fe, .slice A s.ents.length c, .slice A2 s.tmbs.length c2, .int .i64 s.lo.a, .int .i64 s.lo.b, .int .i64 s.lo.c, .int .i64 s.hi.a, .int .i64 s.hi.b, .int .i64 s.hi.c] 26)) w.heap.size 0 [.int .i64 s.sq, .int .i64 s.fe, .slice A s.ents.length c, .slice A2 s.tmbs.length c2, .int .i64 s.lo.a, .int .i64 s.lo.b, .int .i64 s.lo.c, .int .i64 s.hi.a, .int .i64 s.hi.b, .int .i64 s.hi.c]) := T0
  clear T0
  generalize w.alloc (.cells #[.int .i64 s.sq, .int .i64 s.fe, .slice A s.ents.length c, .slice A2 s.tmbs.length c2, .int .i64 s.lo.a, .int .i64 s.lo.b, .int .i64 s.lo.c, .int .i64 s.hi.a, .int .i64 s.hi.b, .int .i64 s.hi.c] 26) = W at *
  generalize hx0 : w.heap.size = x0 at *
  have Hx0 := Lib.hid hx0; clear hx0
  refine (szState_any A c A2 c2 s 1048576 x0 W (H.out.below b0 (Nat.le_refl _)) (by omega) Hf.out.2.2.2.2.1 Hf.out.2.2.2.2.2.1 Hf.out.2.2.2.2.2.2.1 Hf.out.2.2.2.2.2.2.2 (by omega) (by omega)).mono ?_
  rintro e w1 ⟨v, hv, hv1, hv2, rfl, hb1⟩
  have Hv := Lib.hid hv; clear hv
  have b1 : Below x0 w w1 := b0.trans (hb1.mono (by omega))
  by_cases hneg : v < 0
  · have d : decide (v < 0) = true := by simpa using hneg
    go_wp2
    go_ret
    exact ⟨rfl, by rw [Hx0.out]; exact b1⟩
  have d : decide (v < 0) = false := by simpa using hneg
  have hlen : s.ents.length ≤ 1048576 := (Hv.out (by omega)).1.1.1
  have hlen2 : s.tmbs.length ≤ 1048576 := (Hv.out (by omega)).1.2.1
  have HSE := Lib.hid (Hv.out (by omega)).1.1.2
  have HST := Lib.hid (Hv.out (by omega)).1.2.2
  have T1 := Lib.hid (T0'.out.below hb1 s0)
  have s1 : x0 < w1.heap.size := by have := hb1.size; omega
  obtain ⟨t0, t1, t2, t3, t4, t5, t6, t7, t8, t9⟩ := T1.out.ten
  clear Hv T0' hb1 b0 s0
  go_wp2_with fail
  refine (toState_any A c A2 c2 s x0 w1 (H.out.below b1 (Nat.le_refl _)) (by omega) hlen hlen2).mono ?_
  rintro e w2 ⟨A2', c2', B2', d2', rfl, ho2, hf2, hc2, hd2, hb2⟩
  have Ho2 := Lib.hid ho2; clear ho2 hf2 hc2 hd2 t0 t1 t2 t3 t4 t5 t6 t7 t8 t9
  have b2 : Below x0 w w2 := b1.trans (hb2.mono (by omega))
  have T2 := Lib.hid (T1.out.below hb2 s1)
  have s2 : x0 < w2.heap.size := Nat.lt_of_lt_of_le s1 hb2.size
  clear T1 hb2 b1 s1
  go_wp2_with fail
  refine (specExpiredEntry_any A2' c2' B2' d2' s now w2.heap.size w2 Ho2.out (Nat.le_refl _) HSE.out HST.out hlen hlen2).mono ?_
  rintro e w3 hr3
  obtain ⟨rx, rb, rz, hv3, rfl, hb3⟩ := hr3
  have Hv3 := Lib.hid hv3; clear hv3
  have b3 : Below x0 w w3 := b2.trans (hb3.mono (by omega))
  have T3 := Lib.hid (T2.out.below hb3 s2)
  have s3 : x0 < w3.heap.size := Nat.lt_of_lt_of_le s2 hb3.size
  clear T2 hb3 b2 s2 Ho2
  obtain ⟨t0, t1, t2, t3, t4, t5, t6, t7, t8, t9⟩ := T3.out.ten
  go_wp2_with fail
  have U4 : Hid (Cells (w3.alloc (.cells #[.int .i64 rx.tier, .int .i64 rx.beg, .int .i64 rx.fin, .string rx.key] 44)) w3.heap.size 0 [.int .i64 rx.tier, .int .i64 rx.beg, .int .i64 rx.fin, .string rx.key]) := Lib.hid (Cells.new _ _ _)
  have bb4 : Below w3.heap.size w3 (w3.alloc (.cells #[.int .i64 rx.tier, .int .i64 rx.beg, .int .i64 rx.fin, .string rx.key] 44)) := bal (Below.refl _ _) _
  have y4s : w3.heap.size < (w3.alloc (.cells #[.int .i64 rx.tier, .int .i64 rx.beg, .int .i64 rx.fin, .string rx.key] 44)).heap.size := by simp
  generalize (w3.alloc (.cells #[.int .i64 rx.tier, .int .i64 rx.beg, .int .i64 rx.fin, .string rx.key] 44)) = W4 at *
  have b4 : Below x0 w W4 := b3.trans (bb4.mono (by omega))
  have T4 := Lib.hid (T3.out.below bb4 s3)
  have s4 : x0 < W4.heap.size := by omega
  clear T3 bb4 b3 t0 t1 t2 t3 t4 t5 t6 t7 t8 t9
  generalize w3.heap.size = y4 at *
  refine (toState_any A c A2 c2 s x0 W4 (H.out.below b4 (Nat.le_refl _)) (by omega) hlen hlen2).mono ?_
  rintro e w6 ⟨A6, c6, B6, d6, rfl, ho6, hf6, hc6, hd6, hb6⟩
  have Ho6 := Lib.hid ho6; clear ho6 hf6 hc6 hd6
  have b6 : Below x0 w w6 := b4.trans (hb6.mono (by omega))
  have T6 := Lib.hid (T4.out.below hb6 s4)
  have s6 : x0 < w6.heap.size := Nat.lt_of_lt_of_le s4 hb6.size
  have U6 := Lib.hid (U4.out.below hb6 y4s)
  have y6s : y4 < w6.heap.size := Nat.lt_of_lt_of_le y4s hb6.size
  clear T4 U4 hb6 b4 s4 y4s s3
  go_wp2_with fail
  have V7 : Hid (Cells (w6.alloc (.cells #[.int .i64 s.sq, .int .i64 s.fe, .slice A6 s.ents.length c6, .slice B6 s.tmbs.length d6, .int .i64 s.lo.a, .int .i64 s.lo.b, .int .i64 s.lo.c, .int .i64 s.hi.a, .int .i64 s.hi.b, .int .i64 s.hi.c] 33)) w6.heap.size 0 [.int .i64 s.sq, .int .i64 s.fe, .slice A6 s.ents.length c6, .slice B6 s.tmbs.length d6, .int .i64 s.lo.a, .int .i64 s.lo.b, .int .i64 s.lo.c, .int .i64 s.hi.a, .int .i64 s.hi.b, .int .i64 s.hi.c]) := Lib.hid (Cells.new _ _ _)
  have bb7 : Below w6.heap.size w6 (w6.alloc (.cells #[.int .i64 s.sq, .int .i64 s.fe, .slice A6 s.ents.length c6, .slice B6 s.tmbs.length d6, .int .i64 s.lo.a, .int .i64 s.lo.b, .int .i64 s.lo.c, .int .i64 s.hi.a, .int .i64 s.hi.b, .int .i64 s.hi.c] 33)) := bal (Below.refl _ _) _
  have s7 : w6.heap.size < (w6.alloc (.cells #[.int .i64 s.sq, .int .i64 s.fe, .slice A6 s.ents.length c6, .slice B6 s.tmbs.length d6, .int .i64 s.lo.a, .int .i64 s.lo.b, .int .i64 s.lo.c, .int .i64 s.hi.a, .int .i64 s.hi.b, .int .i64 s.hi.c] 33)).heap.size := by simp
  generalize w6.alloc (.cells #[.int .i64 s.sq, .int .i64 s.fe, .slice A6 s.ents.length c6, .slice B6 s.tmbs.length d6, .int .i64 s.lo.a, .int .i64 s.lo.b, .int .i64 s.lo.c, .int .i64 s.hi.a, .int .i64 s.hi.b, .int .i64 s.hi.c] 33) = W7 at *
  have T7 := Lib.hid (T6.out.below bb7 s6)
  have Ho7 := Lib.hid (Ho6.out.below bb7 (Nat.le_refl _))
  have b7 : Below x0 w W7 := b6.trans (bb7.mono (by omega))
  have U7 := Lib.hid (U6.out.below bb7 y6s)
  have y7s : y4 < W7.heap.size := by omega
  clear T6 U6 bb7 b6 Ho6 y6s
  generalize w6.heap.size = x6 at *
  refine (expiredEntry_any A6 c6 B6 d6 s now x6 W7 Ho7.out (by omega) Hf.out.2.2.2.2.1 Hf.out.2.2.2.2.2.1 hlen hlen2 (HP.out _ b7).1.1 (HP.out _ b7).1.2 (HP.out _ b7).2.1 (HP.out _ b7).2.2).mono ?_
  rintro e w10 hr10
  obtain ⟨sx, sb, sz, hv10, rfl, hb10⟩ := hr10
  obtain ⟨rfl, rfl, rfl⟩ := Hv3.out.one hv10
  clear hv10
  have b10 : Below x0 w w10 := b7.trans (hb10.mono (by omega))
  have T10 := Lib.hid (T7.out.below hb10 (by omega))
  have V10 := Lib.hid (V7.out.below hb10 s7)
  have Hx10 := Lib.hid (Ho7.out.below hb10 (by omega))
  have s106 : x6 < w10.heap.size := Nat.lt_of_lt_of_le s7 hb10.size
  have s100 : x0 < w10.heap.size := by omega
  have U10 := Lib.hid (U7.out.below hb10 y7s)
  have y10s : y4 < w10.heap.size := Nat.lt_of_lt_of_le y7s hb10.size
  clear Hv3 T7 V7 U7 hb10 b7 Ho7 y7s
  obtain ⟨u0, u1, u2, u3⟩ : w10.cell? ⟨y4, 0, none⟩ = some (.int .i64 sx.tier) ∧ w10.cell? ⟨y4, 1, none⟩ = some (.int .i64 sx.beg) ∧ w10.cell? ⟨y4, 2, none⟩ = some (.int .i64 sx.fin) ∧ w10.cell? ⟨y4, 3, none⟩ = some (.string sx.key) := ⟨U10.out 0 _ rfl, U10.out 1 _ rfl, U10.out 2 _ rfl, U10.out 3 _ rfl⟩
  go_wp2_with fail
  refine (eqEntry_any sx sx _).mono ?_
  rintro e w12 ⟨bq, hbq, rfl, hb12⟩
  obtain rfl : bq = true := hbq.2 rfl
  clear hbq
  have hb12 : Below w10.heap.size w10 w12 := (bal (Below.refl _ _) _).trans (hb12.mono (by simp))
  have b12 : Below x0 w w12 := b10.trans (hb12.mono (by omega))
  have T12 := Lib.hid (T10.out.below hb12 (by omega))
  have V12 := Lib.hid (V10.out.below hb12 s106)
  have Hx12 := Lib.hid (Hx10.out.below hb12 (by omega))
  have s126 : x6 < w12.heap.size := Nat.lt_of_lt_of_le s106 hb12.size
  have s120 : x0 < w12.heap.size := by omega
  clear T10 V10 Hx10 U10 hb12 b10 u0 u1 u2 u3 y10s s106 s100
  have CT := T12.out.ten
  have CV := V12.out.ten
  go_wp2_with fail
  go_region_held3 (fun w' => (w'.cell? ⟨x6, 0, none⟩ = some (.int .i64 s.sq) ∧ w'.cell? ⟨x6, 1, none⟩ = some (.int .i64 s.fe) ∧ w'.cell? ⟨x6, 2, none⟩ = some (.slice A6 s.ents.length c6) ∧ w'.cell? ⟨x6, 3, none⟩ = some (.slice B6 s.tmbs.length d6) ∧ w'.cell? ⟨x6, 4, none⟩ = some (.int .i64 s.lo.a) ∧ w'.cell? ⟨x6, 5, none⟩ = some (.int .i64 s.lo.b) ∧ w'.cell? ⟨x6, 6, none⟩ = some (.int .i64 s.lo.c) ∧ w'.cell? ⟨x6, 7, none⟩ = some (.int .i64 s.hi.a) ∧ w'.cell? ⟨x6, 8, none⟩ = some (.int .i64 s.hi.b) ∧ w'.cell? ⟨x6, 9, none⟩ = some (.int .i64 s.hi.c)) ∧ w'.cell? ⟨x0, 0, none⟩ = some (.int .i64 s.sq) ∧ w'.cell? ⟨x0, 1, none⟩ = some (.int .i64 s.fe) ∧ w'.cell? ⟨x0, 2, none⟩ = some (.slice A s.ents.length c) ∧ w'.cell? ⟨x0, 3, none⟩ = some (.slice A2 s.tmbs.length c2) ∧ w'.cell? ⟨x0, 4, none⟩ = some (.int .i64 s.lo.a) ∧ w'.cell? ⟨x0, 5, none⟩ = some (.int .i64 s.lo.b) ∧ w'.cell? ⟨x0, 6, none⟩ = some (.int .i64 s.lo.c) ∧ w'.cell? ⟨x0, 7, none⟩ = some (.int .i64 s.hi.a) ∧ w'.cell? ⟨x0, 8, none⟩ = some (.int .i64 s.hi.b) ∧ w'.cell? ⟨x0, 9, none⟩ = some (.int .i64 s.hi.c))
    (first | exact ⟨CV, CT⟩ | exact ⟨(V12.out.below hb13 s126).ten, (T12.out.below hb13 s120).ten⟩ | exact ⟨((V12.out.below hb13 s126).below hb14 s136).ten, ((T12.out.below hb13 s120).below hb14 s130).ten⟩ | (go_keep; done))
    (first
      | (go_at_call 10; refine (toState_any A c A2 c2 s x0 w12.drew (by exact H.out.below b12.drew (Nat.le_refl _)) (by exact Nat.le_of_lt s120) hlen hlen2).mono ?_; rintro e w13 ⟨A11, c11, B11, d11, rfl, ho11, hf11, hc11, hd11, hb13'⟩; have Ho11 := Lib.hid ho11; clear ho11 hf11 hc11 hd11; have hb13 : Below w12.heap.size w12 w13 := (Below.refl _ _).drew.trans hb13'; clear hb13'; have s136 : x6 < w13.heap.size := Nat.lt_of_lt_of_le s126 hb13.size; have s130 : x0 < w13.heap.size := Nat.lt_of_lt_of_le s120 hb13.size; have b13 : Below x0 w w13 := b12.trans (hb13.mono (Nat.le_of_lt s120)))
      | (go_at_call 12; refine (eqState_any A6 c6 B6 d6 A11 c11 B11 d11 s s w13.heap.size w13 (by exact (Hx12.out.below hb13 (Nat.le_of_lt s126)).more (Nat.le_of_lt s136)) Ho11.out (Nat.le_refl _) (by omega) (by omega) (by omega) (by omega)).mono ?_; rintro e w14 ⟨be, hbe, rfl, hb14⟩; obtain rfl : be = true := hbe.2 rfl; clear hbe; have b14 : Below x0 w w14 := b13.trans (hb14.mono (Nat.le_of_lt s130))))
  clear CT CV hb13 hb14 b12 b13
  go_wp2
  go_ret
  exact ⟨rfl, by rw [Hx0.out]; exact b14⟩

set_option maxRecDepth 100000 in
theorem contract (H : Type) (enc : TypeId × Value → H) (W : World) (base : Nat) (args : Array Value) (ds gs : List (DataW H)) (before : List MemPlace)
    (hval0 : ∀ (j : Nat) t v, Tryd.f5.params[j]? = some t → args[j]? = some v → Value.okWide Tryd.prog W .any base t v)
    (hW : DataW.Whole enc Tryd.prog Tryd.f5.params.toList Rows.fnExactExpiredEntrySpec.vars false W args.toList ds gs before) (hL : laidMetH Tryd.prog Rows.fnExactExpiredEntryRow.laid W) :
    Calls Tryd.prog 5 args W fun e W' => ∃ v, e = .returned v ∧ Rows.fnExactExpiredEntrySpec.post enc Tryd.prog Tryd.f5 false true false false W args v W' := by
  obtain ⟨hQ, hz⟩ := paths_in hL List.mem_cons_self
  obtain ⟨hT, hz2⟩ := kep_in hL (List.mem_cons_of_mem _ List.mem_cons_self)
  have hval : ∀ (j : Nat) t v, Tryd.f5.params[j]? = some t → args[j]? = some v → Value.okWide Tryd.prog W .any base t v := hval0
  have hW' := hW
  have hlt : ∀ p ∈ before, p.block < W.heap.size := fun p hp => hW.lt p hp
  obtain ⟨p, q, hA0, hV, rfl, hfz, hnd⟩ := hW
  have hA : DataW.TrodAll enc Tryd.prog W 0 (fun _ => true) true Tryd.f5.params.toList args.toList ds p := hA0
  rw [Tryd.params5] at hA hval
  obtain ⟨v0, vs0, d0, ds0, p0, q0, hargs, rfl, rfl, h0, r0⟩ := trodAll_cons hA
  obtain ⟨v1, vs1, d1, ds1, p1, q1, rfl, rfl, rfl, h1, r1⟩ := trodAll_cons r0
  obtain ⟨rfl, rfl, rfl⟩ := trodAll_nil r1
  obtain rfl : args = #[v0, v1] := by cases args; simp_all
  have hV1 : DataW.TrodVars enc Tryd.prog W (fun _ => true) ["loop.example/g00601/impl.tierKeeps", "loop.example/g00601/impl.tierPaths"] gs q := hV
  obtain ⟨dg, dh, rfl⟩ : ∃ d e, gs = [d, e] := by
    rcases gs with _ | ⟨d, _ | ⟨e, _ | ⟨f, r⟩⟩⟩
    · cases hV1
    · obtain ⟨_, _, _, _, _, _, _, _, _, _, h, _⟩ := hV1; cases h
    · exact ⟨d, e, rfl⟩
    · obtain ⟨_, _, _, _, _, _, _, _, _, _, ⟨_, _, _, _, _, _, _, _, _, _, h, _⟩, _⟩ := hV1; cases h
  have k0 := h0
  have lt0 : ∀ x ∈ p0, x.block < W.heap.size := by obtain ⟨m, hm⟩ := k0; exact DataW.trod_lt m _ _ _ hm
  obtain ⟨A0, c0, B0, e0, st0, rfl, ob0, ft0⟩ := open_lst (hval 0 26 v0 rfl rfl) h0
  have k1 := h1
  have lt1 : ∀ x ∈ p1, x.block < W.heap.size := by obtain ⟨m, hm⟩ := k1; exact DataW.trod_lt m _ _ _ hm
  obtain ⟨i1, rfl, hd1, hp1, wi1⟩ := open_int Tryd.underlying3 (hval 1 3 v1 rfl rfl) h1
  clear hA0 hval0
  refine (walk A0 c0 B0 e0 st0 i1 W ob0 ft0 hQ hz hT hz2).mono fun e W' ⟨he, bel⟩ => ?_
  subst he
  exact ⟨_, rfl, _, _, _, [], _, _, hW', trodAll_mk1 (shut_bool Tryd.underlying4 _), (trodAll_cons_mk (Below.trod laidOut (by kernel_rfl) (of_decide_eq_true (by kernel_rfl)) k0 bel lt0) (trodAll_cons_mk (Below.trod laidOut (by kernel_rfl) (of_decide_eq_true (by kernel_rfl)) k1 bel lt1) trodAll_mk0)), vars_backs bel ["loop.example/g00601/impl.tierKeeps", "loop.example/g00601/impl.tierPaths"] _ _ (by
    intro n hn
    simp only [List.mem_cons, List.not_mem_nil, or_false] at hn
    rcases hn with rfl | rfl
    · exact ⟨_, _, gKepA, gKepTypeA, Or.inr rfl, hz2⟩
    · exact ⟨_, _, gTab, gTabType, Or.inl rfl, hz⟩) hV1 (fun x hx => hlt x (List.mem_append_right _ hx)), bel.frame _, fun h => by cases h⟩

theorem laid_met (os : Os) : laidMet Tryd.prog Rows.fnExactExpiredEntryRow.laid ((laidWorldP os).forCall (fun _ _ => 0) ⟨#[], #[.agg #[.int .i64 0, .int .i64 0, .slice none 0 0, .slice none 0 0, .int .i64 0, .int .i64 0, .int .i64 0, .int .i64 0, .int .i64 0, .int .i64 0], .int .i64 0], []⟩).memory :=
  laidMet_of_run' 8 (by kernel_rfl) (by kernel_rfl)

theorem reads (os : Os) {H : Type} (enc : TypeId × Value → H) : ∃ places, DataW.whole enc Tryd.prog ((laidWorldP os).forCall (fun _ _ => 0) ⟨#[], #[.agg #[.int .i64 0, .int .i64 0, .slice none 0 0, .slice none 0 0, .int .i64 0, .int .i64 0, .int .i64 0, .int .i64 0, .int .i64 0, .int .i64 0], .int .i64 0], []⟩).memory Tryd.f5.params.toList Rows.fnExactExpiredEntrySpec.vars false (#[.agg #[.int .i64 0, .int .i64 0, .slice none 0 0, .slice none 0 0, .int .i64 0, .int .i64 0, .int .i64 0, .int .i64 0, .int .i64 0, .int .i64 0], .int .i64 0] : Array Value).toList 8 = some ([.agg [.lit (.int .i64 0), .lit (.int .i64 0), .nil, .nil, .agg [.lit (.int .i64 0), .lit (.int .i64 0), .lit (.int .i64 0)], .agg [.lit (.int .i64 0), .lit (.int .i64 0), .lit (.int .i64 0)]], .lit (.int .i64 0)], [Lib.tabData .i64 [40, 100, 400], .agg (pl.map fun z => .lit (.string z))], places) :=
  ⟨MemPlace.row ⟨1, 0, none⟩ 3 ++ MemPlace.row ⟨2, 0, none⟩ 3, by kernel_rfl⟩

set_option maxRecDepth 100000 in
theorem lifted (os : Os) (started : os.Started) (H : Type) (enc : TypeId × Value → H) (F : Stop.Interp) :
    ReturnsInHanded {} Tryd.checked os 5 .any ((OpenSpec.ofChange Rows.fnExactExpiredEntrySpec).preRow enc Tryd.prog Tryd.f5 Rows.fnExactExpiredEntryRow.domain false Rows.fnExactExpiredEntryRow.laid) (((OpenSpec.ofChange Rows.fnExactExpiredEntrySpec).at F).post enc Tryd.prog Tryd.f5 false true false false) := by
  obtain ⟨places, hx⟩ := reads os enc
  refine returnsInHanded_of_row (C := Tryd.checked) (s := OpenSpec.ofChange Rows.fnExactExpiredEntrySpec) own started (by kernel_rfl) Tryd.func5
    (witness_row_at (enc := enc) (C := Tryd.checked) false (laidWorldP os) #[.agg #[.int .i64 0, .int .i64 0, .slice none 0 0, .slice none 0 0, .int .i64 0, .int .i64 0, .int .i64 0, .int .i64 0, .int .i64 0, .int .i64 0], .int .i64 0] rfl (by kernel_rfl) (by kernel_rfl) (by kernel_rfl)
      (OpenSpec.preRow_of_cond 8 hx (by kernel_rfl) (fun k hk => by cases hk) (by kernel_rfl) (laid_met os))) ?_
  intro W base args ds gs before hval hW _ _ _ hL _ _
  exact contract H enc W base args ds gs before hval hW hL

theorem said : Rows.FnExactExpiredEntrySaid :=
  OpenClaim.holds_of_cond 5 Tryd.f5 rfl rfl rfl rfl rfl rfl rfl ⟨rfl, rfl, rfl, rfl, rfl⟩ rfl rfl rfl rfl rfl (by kernel_rfl) Tryd.func5 (by kernel_rfl)
    (of_decide_eq_true (by kernel_rfl)) (by unfold Func.isWrapper; first | (rw [if_pos (by decide +kernel)]; kernel_rfl) | (rw [if_neg (by decide +kernel)]; exact ⟨rfl, rfl⟩))
    (fun os started H enc _ F => by rw [OpenClaim.pre_eq_preRow]; exact lifted os started H enc F)

theorem plain (f : FuncId) (fn : Func) (hf : Tryd.pinned.checked.prog.funcNamed "loop.example/g00601/laws.FnExactExpiredEntry" = some f) (hfn : Tryd.pinned.checked.prog.funcs[f]? = some fn) :
    false = Tryd.pinned.checked.prog.looks [] ∧ ∀ (j : Nat) t, fn.params[j]? = some t → Tryd.pinned.checked.prog.wantsStandIn t = false := by
  obtain rfl : f = 5 := Option.some.inj ((show Tryd.prog.funcNamed "loop.example/g00601/laws.FnExactExpiredEntry" = some 5 by kernel_rfl).symm.trans hf) |>.symm
  obtain rfl : fn = Tryd.f5 := (Option.some.inj (Tryd.func5.symm.trans hfn)).symm
  refine ⟨by kernel_rfl, fun j t ht => ?_⟩
  rw [Tryd.params5] at ht
  have hm := Array.mem_of_getElem? ht
  simp at hm
  rcases hm with rfl | rfl
  · exact (show Tryd.prog.wantsStandIn 26 = false by kernel_rfl)
  · exact (show Tryd.prog.wantsStandIn 3 = false by kernel_rfl)

theorem proved : Rows.FnExactExpiredEntryCardSaid :=
  Claim7.holds_tied_plain_at .later [] _ _ _ _ said (fun _ h => by cases h) (by kernel_rfl) (fun _ h => by cases h) fnExactExpiredEntry_row_tie rfl ⟨rfl, rfl⟩ (by kernel_rfl) rfl plain (by kernel_rfl)
#print axioms proved
end Go.Proofs.YthmpmagajbmpaaaDoor.fnExactExpiredEntry
