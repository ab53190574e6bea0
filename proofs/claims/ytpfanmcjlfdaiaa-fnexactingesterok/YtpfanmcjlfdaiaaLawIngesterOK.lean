/-
  'laws.FnExactIngesterOK' answers true at every one: IngesterOK answers as its model does, and writes into no argument. Conditions: none.
-/
import Derived.Test.YtpfanmcjlfdaiaaIngI
import Derived.Test.YtpfanmcjlfdaiaaIngS
import Derived.Test.YtpfanmcjlfdaiaaOpenIng
import Derived.Deep.RegionHeld3
import Derived.Deep.DeepCutAuto
import Derived.Deep.MidRow
namespace Go.Proofs.Ytpfanmcjlfdaiaa.fnExactIngesterOK
open Go.ChangeShapes Go.WideShapes Go.ChangeAt Go.RowKit
set_option linter.unusedVariables false

theorem infoL : (Try.prog.info? 32).map (·.size) = some 6 := by kernel_rfl

theorem infoI : (Try.prog.info? 24).map (·.size) = some 6 := by kernel_rfl

theorem rng {w w' : World} {b B : Nat} {L : List Value} (h : Cells w b 0 L) (hb : Below B w w') (hB : b < B) : w'.rangeAt b 0 L := fun j v hv => h.below hb hB j v hv

set_option maxRecDepth 100000 in
set_option maxHeartbeats 4000000 in
theorem walk (A : Option Addr) (c : Nat) (s : GIng) (w : World) (h : SamsAt w w.heap.size A s.bat) (hf : s.fit) :
    Calls Try.prog 4 #[.agg #[.int .i64 s.id, .int .i64 s.sq, .int .i64 s.beg, .int .i64 s.fin, .slice A s.bat.length c, .bool s.put]] w fun e w' => e = .returned (.bool true) ∧ Below w.heap.size w w' := by
  have H := Lib.hid h; clear h
  have Hf := Lib.hid hf; clear hf
  go_enter Try.func4, Try.ntmps4
  go_upto_region 2 with fail
  obtain ⟨W, hW⟩ : ∃ W, W = w.alloc (.cells #[.int .i64 s.id, .int .i64 s.sq, .int .i64 s.beg, .int .i64 s.fin, .slice A s.bat.length c, .bool s.put] 32) := ⟨_, rfl⟩
  obtain ⟨LA, hLA⟩ : ∃ L : List Value, L = [.int .i64 s.id, .int .i64 s.sq, .int .i64 s.beg, .int .i64 s.fin, .slice A s.bat.length c, .bool s.put] := ⟨_, rfl⟩
  have t1 : Cells W w.heap.size 0 LA := by rw [hW, hLA]; exact Cells.new w _ _
  have b0 : Below w.heap.size w W := by rw [hW]; exact bal (Below.refl _ _) _
  have s0 : w.heap.size < W.heap.size := by rw [hW]; simp
  have HNA : Hid (LA.length = 6) := Lib.hid (by rw [hLA]; rfl)
  have EA : Hid (Value.agg LA.toArray = .agg #[.int .i64 s.id, .int .i64 s.sq, .int .i64 s.beg, .int .i64 s.fin, .slice A s.bat.length c, .bool s.put]) := Lib.hid (by rw [hLA])
  clear hLA
  rw [← hW]
  clear hW
  generalize (Value.agg #[.int .i64 s.id, .int .i64 s.sq, .int .i64 s.beg, .int .i64 s.fin, .slice A s.bat.length c, .bool s.put]) = va
  have T0 := Lib.hid t1; clear t1
  generalize hx0 : w.heap.size = x0 at *
  have Hx0 := Lib.hid hx0; clear hx0
  apply wp_region_lit
  refine wpList_load_mid rfl 32 (.tmp 1) rfl x0 0 rfl LA _ (fun j v hv => T0.out j v hv) Try.underlying32 rfl (infoL.trans (by rw [HNA.out])) ?_
  simp only [Act.put, List.setIfInBounds_toArray, List.set_cons_zero, List.set_cons_succ]
  have hq : Calls Try.prog 12 #[.agg LA.toArray, .int .i64 1048576] W (Left s.small 1048576 W) := by
    rw [EA.out]; exact szIngester_any A c s 1048576 x0 W (Sl.below H.out b0 (Nat.le_refl _)) (by omega) Hf.out (by omega) (by omega)
  have Hq := Lib.hid hq; clear hq
  go_wp2_with fail
  refine Hq.out.mono ?_
  rintro e w2 ⟨v, hv, hv1, hv2, rfl, hb1⟩
  clear Hq
  have Hv := Lib.hid hv; clear hv
  have b2 : Below x0 w w2 := b0.trans (hb1.mono (by omega))
  by_cases hneg : v < 0
  · have d : decide (v < 0) = true := by simpa using hneg
    go_wp2
    go_ret
    exact ⟨rfl, by rw [Hx0.out]; exact b2⟩
  have d : decide (v < 0) = false := by simpa using hneg
  have hlen : s.bat.length ≤ 1048576 := lenIng (Hv.out (by omega)).1
  have T2 := Lib.hid (T0.out.below hb1 (by omega))
  have s2 : x0 < w2.heap.size := by have := hb1.size; omega
  clear Hv T0 hb1 b0 s0
  go_upto_region 5 with fail
  apply wp_region_lit
  refine wpList_load_mid rfl 32 (.tmp 1) rfl x0 0 rfl LA _ (fun j v hv => T2.out j v hv) Try.underlying32 rfl (infoL.trans (by rw [HNA.out])) ?_
  simp only [Act.put, List.setIfInBounds_toArray, List.set_cons_zero, List.set_cons_succ]
  have hqz : Calls Try.prog 14 #[.agg LA.toArray] w2 (fun e w' => ∃ (A3 : Option Addr) (c3 : Nat), e = .returned (.agg #[.int .i64 s.id, .int .i64 s.sq, .int .i64 s.beg, .int .i64 s.fin, .slice A3 s.bat.length c3, .bool s.put]) ∧ SamsAt w' w'.heap.size A3 s.bat ∧ Below w2.heap.size w2 w') := by
    rw [EA.out]; exact (toIngester_any A c s x0 w2 (Sl.below H.out b2 (Nat.le_refl _)) (by omega) hlen).mono (fun e w' h => by obtain ⟨A3, c3, h1, h2, _, _, _, h6⟩ := h; exact ⟨A3, c3, h1, h2, h6⟩)
  have Hqz := Lib.hid hqz; clear hqz
  go_wp2_with fail
  refine Hqz.out.mono ?_
  rintro e w3 ⟨A3, c3, rfl, ho, hb3⟩
  clear Hqz
  have Ho3 := Lib.hid ho; clear ho
  have b3 : Below x0 w w3 := b2.trans (hb3.mono (by omega))
  have T3 := Lib.hid (T2.out.below hb3 (by omega))
  have s3 : x0 < w3.heap.size := Nat.lt_of_lt_of_le s2 hb3.size
  clear T2 hb3 b2 s2
  go_wp2_with fail
  refine (specIngesterOK_any A3 c3 s w3.heap.size w3 Ho3.out (Nat.le_refl _) hlen).mono ?_
  rintro e w5 ⟨bs, hbs, rfl, hb5⟩
  have Hbs := Lib.hid hbs; clear hbs
  have b5 : Below x0 w w5 := b3.trans (hb5.mono (by omega))
  have T5 := Lib.hid (T3.out.below hb5 (by omega))
  have s5 : x0 < w5.heap.size := Nat.lt_of_lt_of_le s3 hb5.size
  clear T3 hb5 b3 s3 Ho3
  generalize (Value.agg #[.int .i64 s.id, .int .i64 s.sq, .int .i64 s.beg, .int .i64 s.fin, .slice A3 s.bat.length c3, .bool s.put]) = va3
  go_upto_region 6 with fail
  apply wp_region_lit
  refine wpList_load_mid rfl 32 (.tmp 1) rfl x0 0 rfl LA _ (fun j v hv => T5.out j v hv) Try.underlying32 rfl (infoL.trans (by rw [HNA.out])) ?_
  simp only [Act.put, List.setIfInBounds_toArray, List.set_cons_zero, List.set_cons_succ]
  have hqz : Calls Try.prog 14 #[.agg LA.toArray] w5 (fun e w' => ∃ (A3 : Option Addr) (c3 : Nat), e = .returned (.agg #[.int .i64 s.id, .int .i64 s.sq, .int .i64 s.beg, .int .i64 s.fin, .slice A3 s.bat.length c3, .bool s.put]) ∧ SamsAt w' w'.heap.size A3 s.bat ∧ Below w5.heap.size w5 w') := by
    rw [EA.out]; exact (toIngester_any A c s x0 w5 (Sl.below H.out b5 (Nat.le_refl _)) (by omega) hlen).mono (fun e w' h => by obtain ⟨A3, c3, h1, h2, _, _, _, h6⟩ := h; exact ⟨A3, c3, h1, h2, h6⟩)
  have Hqz := Lib.hid hqz; clear hqz
  go_wp2_with fail
  refine Hqz.out.mono ?_
  rintro e w6 ⟨A6, c6, rfl, ho, hb6⟩
  clear Hqz
  have Ho6 := Lib.hid ho; clear ho
  have b6 : Below x0 w w6 := b5.trans (hb6.mono (by omega))
  have T6 := Lib.hid (T5.out.below hb6 (by omega))
  have s6 : x0 < w6.heap.size := Nat.lt_of_lt_of_le s5 hb6.size
  clear T5 hb6 b5
  go_upto_region 7 with fail
  obtain ⟨w7, hW7⟩ : ∃ W7, W7 = w6.alloc (.cells #[.int .i64 s.id, .int .i64 s.sq, .int .i64 s.beg, .int .i64 s.fin, .slice A6 s.bat.length c6, .bool s.put] 24) := ⟨_, rfl⟩
  obtain ⟨LC, hLC⟩ : ∃ L : List Value, L = [.int .i64 s.id, .int .i64 s.sq, .int .i64 s.beg, .int .i64 s.fin, .slice A6 s.bat.length c6, .bool s.put] := ⟨_, rfl⟩
  have t7 : Cells w7 w6.heap.size 0 LC := by rw [hW7, hLC]; exact Cells.new _ _ _
  have HNC : Hid (LC.length = 6) := Lib.hid (by rw [hLC]; rfl)
  have EC : Hid (Value.agg LC.toArray = .agg #[.int .i64 s.id, .int .i64 s.sq, .int .i64 s.beg, .int .i64 s.fin, .slice A6 s.bat.length c6, .bool s.put]) := Lib.hid (by rw [hLC])
  have bb7 : Below w6.heap.size w6 w7 := by rw [hW7]; exact bal (Below.refl _ _) _
  have s7 : w6.heap.size < w7.heap.size := by rw [hW7]; simp
  rw [← hW7]
  clear hW7 hLC
  generalize (Value.agg #[.int .i64 s.id, .int .i64 s.sq, .int .i64 s.beg, .int .i64 s.fin, .slice A6 s.bat.length c6, .bool s.put]) = vc
  have V7 := Lib.hid t7; clear t7
  have T7 := Lib.hid (T6.out.below bb7 (by omega))
  have Ho7 := Lib.hid (Sl.below Ho6.out bb7 (Nat.le_refl _))
  have b7 : Below x0 w w7 := b6.trans (bb7.mono (by omega))
  clear T6 bb7 b6 Ho6
  generalize w6.heap.size = x6 at *
  apply wp_region_lit
  refine wpList_load_mid rfl 24 (.tmp 5) rfl x6 0 rfl LC _ (fun j v hv => V7.out j v hv) Try.underlying24 rfl (infoI.trans (by rw [HNC.out])) ?_
  simp only [Act.put, List.setIfInBounds_toArray, List.set_cons_zero, List.set_cons_succ]
  have hq : Calls Try.prog 15 #[.agg LC.toArray] w7 (IsBB (IngP s) w7) := by
    rw [EC.out]; exact ingesterOK_any A6 c6 s x6 w7 Ho7.out (by omega) hlen
  have Hq := Lib.hid hq; clear hq
  go_wp2_with fail
  refine Hq.out.mono ?_
  rintro e w10 ⟨bi, hbi, rfl, hb10⟩
  clear Hq
  obtain rfl : bi = bs := by rw [Bool.eq_iff_iff]; exact hbi.trans Hbs.out.symm
  have b10 : Below x0 w w10 := b7.trans (hb10.mono (by omega))
  have T10 := Lib.hid (T7.out.below hb10 (by omega))
  have V10 := Lib.hid (V7.out.below hb10 s7)
  have Hx10 := Lib.hid (Sl.below Ho7.out hb10 (by omega))
  have s106 : x6 < w10.heap.size := Nat.lt_of_lt_of_le s7 hb10.size
  have s100 : x0 < w10.heap.size := by omega
  have dbb : (bi != bi) = false := by simp
  have dbb2 : (bi == bi) = true := by simp
  clear hbi Hbs T7 V7 hb10 b7 Ho7
  go_upto_region 10 with fail
  have bdr : Below x0 w w10.drew := b10.drew
  have zdr : w10.drew.heap.size = w10.heap.size := rfl
  refine wp_region_noPanic ?_
  refine wp_region_held_drew (S := fun w' => w'.rangeAt x6 0 LC ∧ w'.rangeAt x0 0 LA) (by kernel_rfl) (by exact ⟨rng V10.out (Below.refl w10.heap.size w10).drew s106, rng T10.out (Below.refl w10.heap.size w10).drew s100⟩) (fun hHeld => ?_)
  refine' wpAnyH_take (i := 0) (oi := { dst := some 22, op := Op.load 24 (Operand.tmp 5), type := 24, pos := "exact.go:3590", after := #[], guard := none }) (v := _) rfl (by kernel_rfl) (by kernel_rfl) (by kernel_rfl) (fun _ _ _ h => h) (yieldsIf_load_mid (by rfl) _ _ rfl _ _ rfl LC _ ?hSq0 ?huq0 ?hdq0 ?hiq0) (by assumption) ?restq0
  case hSq0 => exact fun w hSw => hSw.1
  case huq0 => exact Try.underlying24
  case hdq0 => rfl
  case hiq0 => exact infoI.trans (by rw [HNC.out])
  try simp only [Act.put, List.setIfInBounds_toArray, List.set_cons_zero, List.set_cons_succ]
  refine' wpAnyH_take (i := 1) (oi := { dst := some 23, op := Op.load 32 (Operand.tmp 1), type := 32, pos := "exact.go:3590", after := #[], guard := none }) (v := _) rfl (by kernel_rfl) (by kernel_rfl) (by kernel_rfl) (fun _ _ _ h => h) (yieldsIf_load_mid (by rfl) _ _ rfl _ _ rfl LA _ ?hSq1 ?huq1 ?hdq1 ?hiq1) (by assumption) ?restq1
  case hSq1 => exact fun w hSw => hSw.2
  case huq1 => exact Try.underlying32
  case hdq1 => rfl
  case hiq1 => exact infoL.trans (by rw [HNA.out])
  try simp only [Act.put, List.setIfInBounds_toArray, List.set_cons_zero, List.set_cons_succ]
  refine wpAnyH_ready (rs := [2]) (by kernel_rfl) (by simp) ?_
  refine AllReadyH.cons (o := { dst := some 24, op := Op.call { callee := Callee.value (Operand.func 14), args := #[Operand.tmp 23], argTypes := #[32] }, type := 24, pos := "exact.go:3590", after := #[{ on := 1, ground := Ground.data }], guard := none }) rfl (fun K hK => ?_) AllReadyH.nil
  go_simp
  have hqz : Calls Try.prog 14 #[.agg LA.toArray] w10.drew (fun e w' => ∃ (A3 : Option Addr) (c3 : Nat), e = .returned (.agg #[.int .i64 s.id, .int .i64 s.sq, .int .i64 s.beg, .int .i64 s.fin, .slice A3 s.bat.length c3, .bool s.put]) ∧ SamsAt w' w'.heap.size A3 s.bat ∧ Below w10.drew.heap.size w10.drew w') := by
    rw [EA.out]; exact (toIngester_any A c s x0 w10.drew (Sl.below H.out bdr (Nat.le_refl _)) (by omega) hlen).mono (fun e w' h => by obtain ⟨A3, c3, h1, h2, _, _, _, h6⟩ := h; exact ⟨A3, c3, h1, h2, h6⟩)
  refine hqz.mono ?_
  rintro e w11 ⟨A11, c11, rfl, ho11, hb11'⟩
  clear hqz
  have Ho11 := Lib.hid ho11; clear ho11
  have hb11 : Below w10.heap.size w10 w11 := (Below.refl _ _).drew.trans hb11'
  clear hb11'
  refine hK.out _ _ (by exact ⟨rng V10.out hb11 s106, rng T10.out hb11 s100⟩) (fun hHeld => ?_)
  clear hK K
  try simp only [Act.put, List.setIfInBounds_toArray, List.set_cons_zero, List.set_cons_succ]
  refine wpAnyH_ready (rs := [3]) (by kernel_rfl) (by simp) ?_
  refine AllReadyH.cons (o := { dst := some 25, op := Op.call { callee := Callee.value (Operand.func 9), args := #[Operand.tmp 22, Operand.tmp 24], argTypes := #[24, 24] }, type := 4, pos := "exact.go:3590", after := #[{ on := 0, ground := Ground.data }, { on := 2, ground := Ground.data }, { on := 2, ground := Ground.chain }], guard := none }) rfl (fun K hK => ?_) AllReadyH.nil
  go_simp
  have hqe : Calls Try.prog 9 #[.agg LC.toArray, .agg #[.int .i64 s.id, .int .i64 s.sq, .int .i64 s.beg, .int .i64 s.fin, .slice A11 s.bat.length c11, .bool s.put]] w11 (IsBB (s = s) w11) := by rw [EC.out]; exact eqIngester_any A6 c6 A11 c11 s s w11.heap.size w11 (Sl.more (Sl.below Hx10.out hb11 (by omega)) (by have := hb11.size; omega)) Ho11.out (Nat.le_refl _) (by omega) (by omega)
  refine hqe.mono ?_
  rintro e w12 ⟨be, hbe, rfl, hb12⟩
  obtain rfl : be = true := hbe.2 (by trivial)
  clear hbe hqe
  have hbz : Below w10.heap.size w10 w12 := hb11.trans (hb12.mono hb11.size)
  refine hK.out _ _ (by exact ⟨rng V10.out hbz s106, rng T10.out hbz s100⟩) (fun hHeld => ?_)
  clear hK K
  try simp only [Act.put, List.setIfInBounds_toArray, List.set_cons_zero, List.set_cons_succ]
  refine wpAnyH_take (i := 4) (oi := { dst := some 26, op := Op.unOp UnOp.not 4 (Operand.tmp 25), type := 4, pos := "exact.go:3590", after := #[{ on := 3, ground := Ground.data }], guard := none }) (v := ?vq4) rfl (by kernel_rfl) (by kernel_rfl) (by kernel_rfl) (fun _ _ _ h => h) (Or.inl ⟨by rfl, ?hyq4⟩) (by assumption) ?restq4
  case hyq4 => intro w hSw; (try dsimp only at hSw); (first | (go_simp; done) | (go_simp; with_reducible rfl) | (with_reducible rfl))
  try simp only [Act.put, List.setIfInBounds_toArray, List.set_cons_zero, List.set_cons_succ]
  refine wpAnyH_done (by kernel_rfl) ?_ _
  refine NoPanic.normal ?_
  clear hHeld bdr zdr
  have b14 : Below x0 w w12 := b10.trans (hbz.mono (by omega))
  clear hb11 hb12 hbz b10
  go_wp2
  go_ret
  exact ⟨rfl, by rw [Hx0.out]; exact b14⟩

theorem own : ownKnob Try.prog.godebug = none := by kernel_rfl
theorem laidOut : laidOutB Try.prog = true := by kernel_rfl

set_option maxRecDepth 100000 in
theorem lifted (os : Os) (started : os.Started) (H : Type) (enc : TypeId × Value → H) :
    ReturnsInHanded {} Try.checked os 4 .any (Rows.fnExactIngesterOKSpec.pre6 enc Try.prog Try.f4 Rows.fnExactIngesterOKRow.domain false) (Rows.fnExactIngesterOKSpec.post enc Try.prog Try.f4 false true false false) := by
  refine returnsInHanded_of_change (C := Try.checked) own started (by kernel_rfl) Try.func4
    (ChangeSpec.witness6 (enc := enc) (C := Try.checked) false ⟨#[], #[.agg #[.int .i64 0, .int .i64 0, .int .i64 0, .int .i64 0, .slice none 0 0, .bool false]], []⟩ 8 (by kernel_rfl) (by kernel_rfl) (by kernel_rfl) (by kernel_rfl)) ?_
  intro W base args ds gs before hval0 hW hcnd _
  have hval : ∀ (j : Nat) t v, Try.f4.params[j]? = some t → args[j]? = some v → Value.okWide Try.prog W .any base t v := hval0
  have hW' := hW
  obtain ⟨p, q, hA0, hV, rfl, hfz, hnd⟩ := hW
  have hA : DataW.TrodAll enc Try.prog W 0 (fun _ => true) true Try.f4.params.toList args.toList ds p := hA0
  rw [Try.params4] at hA hval
  obtain ⟨v0, vs0, d0, ds0, p0, q0, hargs, rfl, rfl, h0, r0⟩ := trodAll_cons hA
  obtain ⟨rfl, rfl, rfl⟩ := trodAll_nil r0
  obtain rfl : args = #[v0] := by cases args; simp_all
  obtain ⟨rfl, rfl⟩ := trodVars_none hV
  have k0 := h0
  have lt0 : ∀ x ∈ p0, x.block < W.heap.size := by obtain ⟨m, hm⟩ := k0; exact DataW.trod_lt m _ _ _ hm
  obtain ⟨A0, c0, st0, rfl, ob0, ft0⟩ := open_ling (hval 0 32 v0 rfl rfl) h0
  clear hA0 hval0
  refine (walk A0 c0 st0 W ob0 ft0).mono fun e W' ⟨he, bel⟩ => ?_
  subst he
  exact ⟨_, rfl, _, _, _, [], _, [], hW', trodAll_mk1 (shut_bool Try.underlying4 _), (trodAll_cons_mk (Below.trod laidOut (by kernel_rfl) (of_decide_eq_true (by kernel_rfl)) k0 bel lt0) trodAll_mk0), rfl, bel.frame _, fun h => by cases h⟩

theorem over : Rows.fnExactIngesterOKRow.holds Try.pinned (OpenSpec.ofChange Rows.fnExactIngesterOKSpec) :=
  OpenClaim.holds_of_wide 4 Try.f4 rfl rfl rfl rfl rfl rfl rfl ⟨rfl, rfl, rfl, rfl, rfl⟩ rfl rfl rfl rfl rfl (by kernel_rfl) Try.func4 (by kernel_rfl)
    (of_decide_eq_true (by kernel_rfl)) (by unfold Func.isWrapper; first | (rw [if_pos (by decide +kernel)]; kernel_rfl) | (rw [if_neg (by decide +kernel)]; exact ⟨rfl, rfl⟩))
    (fun os started H enc _ => lifted os started H enc)

theorem proved : Rows.FnExactIngesterOKSaid := over
#print axioms proved
end Go.Proofs.Ytpfanmcjlfdaiaa.fnExactIngesterOK
