/-
  'laws.FnExactSameIngester' answers true at every two of them: SameIngester answers as its model does, and writes into no argument. Conditions: none.
-/
import Derived.Test.YtpfanmcjlfdaiaaSameI
import Derived.Test.YtpfanmcjlfdaiaaOpenIng
import Derived.Deep.RegionHeld3
import Derived.Deep.DeepCutAuto
import Derived.Deep.MidRow
namespace Go.Proofs.Ytpfanmcjlfdaiaa.fnExactSameIngester
open Go.ChangeShapes Go.WideShapes Go.ChangeAt Go.RowKit
set_option linter.unusedVariables false

theorem infoL : (Try.prog.info? 32).map (·.size) = some 6 := by kernel_rfl

theorem infoI : (Try.prog.info? 24).map (·.size) = some 6 := by kernel_rfl

theorem rng {w w' : World} {b B : Nat} {L : List Value} (h : Cells w b 0 L) (hb : Below B w w') (hB : b < B) : w'.rangeAt b 0 L := fun j v hv => h.below hb hB j v hv

set_option maxRecDepth 100000 in
set_option maxHeartbeats 4000000 in
theorem walk (A : Option Addr) (c : Nat) (s : GIng) (A' : Option Addr) (c' : Nat) (t : GIng) (w : World) (h : SamsAt w w.heap.size A s.bat) (hf : s.fit) (h' : SamsAt w w.heap.size A' t.bat) (hf' : t.fit) :
    Calls Try.prog 6 #[.agg #[.int .i64 s.id, .int .i64 s.sq, .int .i64 s.beg, .int .i64 s.fin, .slice A s.bat.length c, .bool s.put], .agg #[.int .i64 t.id, .int .i64 t.sq, .int .i64 t.beg, .int .i64 t.fin, .slice A' t.bat.length c', .bool t.put]] w fun e w' => e = .returned (.bool true) ∧ Below w.heap.size w w' := by
  have H := Lib.hid h; clear h
  have Hf := Lib.hid hf; clear hf
  have H' := Lib.hid h'; clear h'
  have Hf' := Lib.hid hf'; clear hf'
  go_enter Try.func6, Try.ntmps6
  go_upto_region 2 with fail
  obtain ⟨W, hW⟩ : ∃ W, W = (w.alloc (.cells #[.int .i64 s.id, .int .i64 s.sq, .int .i64 s.beg, .int .i64 s.fin, .slice A s.bat.length c, .bool s.put] 32)).alloc (.cells #[.int .i64 t.id, .int .i64 t.sq, .int .i64 t.beg, .int .i64 t.fin, .slice A' t.bat.length c', .bool t.put] 32) := ⟨_, rfl⟩
  obtain ⟨LA, hLA⟩ : ∃ L : List Value, L = [.int .i64 s.id, .int .i64 s.sq, .int .i64 s.beg, .int .i64 s.fin, .slice A s.bat.length c, .bool s.put] := ⟨_, rfl⟩
  obtain ⟨LB, hLB⟩ : ∃ L : List Value, L = [.int .i64 t.id, .int .i64 t.sq, .int .i64 t.beg, .int .i64 t.fin, .slice A' t.bat.length c', .bool t.put] := ⟨_, rfl⟩
  have t1 : Cells W w.heap.size 0 LA := by rw [hW, hLA]; exact (Cells.new w _ _).below (bal (Below.refl _ _) _) (by simp)
  have t2 : Cells W (w.heap.size + 1) 0 LB := by
    rw [hW, hLB]; have := Cells.new (w.alloc (.cells #[.int .i64 s.id, .int .i64 s.sq, .int .i64 s.beg, .int .i64 s.fin, .slice A s.bat.length c, .bool s.put] 32)) [.int .i64 t.id, .int .i64 t.sq, .int .i64 t.beg, .int .i64 t.fin, .slice A' t.bat.length c', .bool t.put] 32; simpa using this
  have b0 : Below w.heap.size w W := by rw [hW]; exact bal (bal (Below.refl _ _) _) _
  have s0 : w.heap.size + 1 < W.heap.size := by rw [hW]; simp
  have HNA : Hid (LA.length = 6) := Lib.hid (by rw [hLA]; rfl)
  have HNB : Hid (LB.length = 6) := Lib.hid (by rw [hLB]; rfl)
  have EA : Hid (Value.agg LA.toArray = .agg #[.int .i64 s.id, .int .i64 s.sq, .int .i64 s.beg, .int .i64 s.fin, .slice A s.bat.length c, .bool s.put]) := Lib.hid (by rw [hLA])
  have EB : Hid (Value.agg LB.toArray = .agg #[.int .i64 t.id, .int .i64 t.sq, .int .i64 t.beg, .int .i64 t.fin, .slice A' t.bat.length c', .bool t.put]) := Lib.hid (by rw [hLB])
  clear hLA hLB
  rw [← hW]
  clear hW
  generalize (Value.agg #[.int .i64 s.id, .int .i64 s.sq, .int .i64 s.beg, .int .i64 s.fin, .slice A s.bat.length c, .bool s.put]) = va
  generalize (Value.agg #[.int .i64 t.id, .int .i64 t.sq, .int .i64 t.beg, .int .i64 t.fin, .slice A' t.bat.length c', .bool t.put]) = vb
  have T0 := Lib.hid t1; clear t1
  have U0 := Lib.hid t2; clear t2
  generalize hx0 : w.heap.size = x0 at *
  have Hx0 := Lib.hid hx0; clear hx0
  apply wp_region_lit
  refine wpList_load_mid rfl 32 (.tmp 2) rfl x0 0 rfl LA _ (fun j v hv => T0.out j v hv) Try.underlying32 rfl (infoL.trans (by rw [HNA.out])) ?_
  simp only [Act.put, List.setIfInBounds_toArray, List.set_cons_zero, List.set_cons_succ]
  have hq : Calls Try.prog 12 #[.agg LA.toArray, .int .i64 1048576] W (Left s.small 1048576 W) := by
    rw [EA.out]; exact szIngester_any A c s 1048576 x0 W (Sl.below H.out b0 (Nat.le_refl _)) (by omega) Hf.out (by omega) (by omega)
  have Hq := Lib.hid hq; clear hq
  go_wp2_with fail
  refine Hq.out.mono ?_
  rintro e w1 ⟨v, hv, hv1, hv2, rfl, hb1⟩
  clear Hq
  have Hv := Lib.hid hv; clear hv
  have b1 : Below x0 w w1 := b0.trans (hb1.mono (by omega))
  by_cases hneg : v < 0
  · have d : decide (v < 0) = true := by simpa using hneg
    go_wp2
    go_ret
    exact ⟨rfl, by rw [Hx0.out]; exact b1⟩
  have d : decide (v < 0) = false := by simpa using hneg
  have hlen : s.bat.length ≤ 1048576 := lenIng (Hv.out (by omega)).1
  have T1 := Lib.hid (T0.out.below hb1 (by omega))
  have U1 := Lib.hid (U0.out.below hb1 s0)
  have s1 : x0 + 1 < w1.heap.size := by have := hb1.size; omega
  clear Hv T0 U0 hb1 b0 s0
  go_upto_region 5 with fail
  apply wp_region_lit
  refine wpList_load_mid rfl 32 (.tmp 3) rfl (x0 + 1) 0 rfl LB _ (fun j v hv => U1.out j v hv) Try.underlying32 rfl (infoL.trans (by rw [HNB.out])) ?_
  simp only [Act.put, List.setIfInBounds_toArray, List.set_cons_zero, List.set_cons_succ]
  have hq : Calls Try.prog 12 #[.agg LB.toArray, .int .i64 v] w1 (Left t.small v w1) := by
    rw [EB.out]; exact szIngester_any A' c' t v x0 w1 (Sl.below H'.out b1 (Nat.le_refl _)) (by omega) Hf'.out (by omega) (by omega)
  have Hq := Lib.hid hq; clear hq
  go_wp2_with fail
  refine Hq.out.mono ?_
  rintro e w2 ⟨v2, hv, hv21, hv22, rfl, hb2⟩
  clear Hq
  have Hv := Lib.hid hv; clear hv
  have b2 : Below x0 w w2 := b1.trans (hb2.mono (by omega))
  by_cases hneg2 : v2 < 0
  · have d2 : decide (v2 < 0) = true := by simpa using hneg2
    go_wp2
    go_ret
    exact ⟨rfl, by rw [Hx0.out]; exact b2⟩
  have d2 : decide (v2 < 0) = false := by simpa using hneg2
  have klen : t.bat.length ≤ 1048576 := lenIng (Hv.out (by omega)).1
  have T2 := Lib.hid (T1.out.below hb2 (by omega))
  have U2 := Lib.hid (U1.out.below hb2 s1)
  have s2 : x0 + 1 < w2.heap.size := by have := hb2.size; omega
  have s20 : x0 < w2.heap.size := by omega
  clear Hv T1 U1 hb2 b1
  go_upto_region 8 with fail
  have b2d : Below x0 w w2.drew := b2.drew
  have z2d : w2.drew.heap.size = w2.heap.size := rfl
  refine wp_region_noPanic ?_
  refine wp_region_held_drew (S := fun w' => w'.rangeAt x0 0 LA ∧ w'.rangeAt (x0 + 1) 0 LB) (by kernel_rfl) (by exact ⟨rng T2.out (Below.refl w2.heap.size w2).drew s20, rng U2.out (Below.refl w2.heap.size w2).drew s2⟩) (fun hHeld => ?_)
  refine' wpAnyH_take (i := 0) (oi := { dst := some 20, op := Op.load 32 (Operand.tmp 2), type := 32, pos := "exact.go:3726", after := #[], guard := none }) (v := _) rfl (by kernel_rfl) (by kernel_rfl) (by kernel_rfl) (fun _ _ _ h => h) (yieldsIf_load_mid (by rfl) _ _ rfl _ _ rfl LA _ ?hSp0 ?hup0 ?hdp0 ?hip0) (by assumption) ?restp0
  case hSp0 => exact fun w hSw => hSw.1
  case hup0 => exact Try.underlying32
  case hdp0 => rfl
  case hip0 => exact infoL.trans (by rw [HNA.out])
  try simp only [Act.put, List.setIfInBounds_toArray, List.set_cons_zero, List.set_cons_succ]
  refine' wpAnyH_take (i := 2) (oi := { dst := some 22, op := Op.load 32 (Operand.tmp 3), type := 32, pos := "exact.go:3726", after := #[], guard := none }) (v := _) rfl (by kernel_rfl) (by kernel_rfl) (by kernel_rfl) (fun _ _ _ h => h) (yieldsIf_load_mid (by rfl) _ _ rfl _ _ rfl LB _ ?hSp2 ?hup2 ?hdp2 ?hip2) (by assumption) ?restp2
  case hSp2 => exact fun w hSw => hSw.2
  case hup2 => exact Try.underlying32
  case hdp2 => rfl
  case hip2 => exact infoL.trans (by rw [HNB.out])
  try simp only [Act.put, List.setIfInBounds_toArray, List.set_cons_zero, List.set_cons_succ]
  refine wpAnyH_ready (rs := [1]) (by kernel_rfl) (by simp) ?_
  refine AllReadyH.cons (o := { dst := some 21, op := Op.call { callee := Callee.value (Operand.func 14), args := #[Operand.tmp 20], argTypes := #[32] }, type := 24, pos := "exact.go:3726", after := #[{ on := 0, ground := Ground.data }], guard := none }) rfl (fun K hK => ?_) AllReadyH.nil
  go_simp
  have hqa : Calls Try.prog 14 #[.agg LA.toArray] w2.drew (fun e w' => ∃ (A3 : Option Addr) (c3 : Nat), e = .returned (.agg #[.int .i64 s.id, .int .i64 s.sq, .int .i64 s.beg, .int .i64 s.fin, .slice A3 s.bat.length c3, .bool s.put]) ∧ SamsAt w' w'.heap.size A3 s.bat ∧ Below w2.drew.heap.size w2.drew w') := by
    rw [EA.out]; exact (toIngester_any A c s x0 w2.drew (Sl.below H.out b2d (Nat.le_refl _)) (by omega) hlen).mono (fun e w' h => by obtain ⟨A3, c3, h1, h2, _, _, _, h6⟩ := h; exact ⟨A3, c3, h1, h2, h6⟩)
  refine hqa.mono ?_
  rintro e w3 ⟨A3, c3, rfl, ho3, hb3'⟩
  clear hqa
  have Ho3 := Lib.hid ho3; clear ho3
  have hb3 : Below w2.heap.size w2 w3 := (Below.refl _ _).drew.trans hb3'
  clear hb3'
  have s3 : x0 + 1 < w3.heap.size := Nat.lt_of_lt_of_le s2 hb3.size
  have b3 : Below x0 w w3 := b2.trans (hb3.mono (by omega))
  refine hK.out _ _ (by exact ⟨rng T2.out hb3 s20, rng U2.out hb3 s2⟩) (fun hHeld => ?_)
  clear hK K
  try simp only [Act.put, List.setIfInBounds_toArray, List.set_cons_zero, List.set_cons_succ]
  refine wpAnyH_ready (rs := [3]) (by kernel_rfl) (by simp) ?_
  refine AllReadyH.cons (o := { dst := some 23, op := Op.call { callee := Callee.value (Operand.func 14), args := #[Operand.tmp 22], argTypes := #[32] }, type := 24, pos := "exact.go:3726", after := #[{ on := 2, ground := Ground.data }, { on := 1, ground := Ground.chain }], guard := none }) rfl (fun K hK => ?_) AllReadyH.nil
  go_simp
  have hqb : Calls Try.prog 14 #[.agg LB.toArray] w3 (fun e w' => ∃ (A3 : Option Addr) (c3 : Nat), e = .returned (.agg #[.int .i64 t.id, .int .i64 t.sq, .int .i64 t.beg, .int .i64 t.fin, .slice A3 t.bat.length c3, .bool t.put]) ∧ SamsAt w' w'.heap.size A3 t.bat ∧ Below w3.heap.size w3 w') := by
    rw [EB.out]; exact (toIngester_any A' c' t x0 w3 (Sl.below H'.out b3 (Nat.le_refl _)) (by omega) klen).mono (fun e w' h => by obtain ⟨A3, c3, h1, h2, _, _, _, h6⟩ := h; exact ⟨A3, c3, h1, h2, h6⟩)
  refine hqb.mono ?_
  rintro e w4 ⟨A4, c4, rfl, ho4, hb4⟩
  clear hqb
  have Ho4 := Lib.hid ho4; clear ho4
  have s4 : x0 + 1 < w4.heap.size := Nat.lt_of_lt_of_le s3 hb4.size
  have b4 : Below x0 w w4 := b3.trans (hb4.mono (by omega))
  have hb24 : Below w2.heap.size w2 w4 := hb3.trans (hb4.mono hb3.size)
  refine hK.out _ _ (by exact ⟨rng T2.out hb24 s20, rng U2.out hb24 s2⟩) (fun hHeld => ?_)
  clear hK K
  try simp only [Act.put, List.setIfInBounds_toArray, List.set_cons_zero, List.set_cons_succ]
  refine wpAnyH_ready (rs := [4]) (by kernel_rfl) (by simp) ?_
  refine AllReadyH.cons (o := { dst := some 24, op := Op.call { callee := Callee.value (Operand.func 22), args := #[Operand.tmp 21, Operand.tmp 23], argTypes := #[24, 24] }, type := 4, pos := "exact.go:3726", after := #[{ on := 1, ground := Ground.data }, { on := 3, ground := Ground.data }, { on := 3, ground := Ground.chain }], guard := none }) rfl (fun K hK => ?_) AllReadyH.nil
  go_simp
  refine (specSameIngester_any A3 c3 A4 c4 s t w4.heap.size w4 (by exact Sl.more (Sl.below Ho3.out hb4 (Nat.le_refl _)) hb4.size) Ho4.out (Nat.le_refl _) (by omega) (by omega)).mono ?_
  rintro e w5 ⟨bs, hbs, rfl, hb5⟩
  have Hbs := Lib.hid hbs; clear hbs
  have b5 : Below x0 w w5 := b4.trans (hb5.mono (by omega))
  have hb25 : Below w2.heap.size w2 w5 := hb24.trans (hb5.mono hb24.size)
  refine hK.out _ _ (by exact ⟨rng T2.out hb25 s20, rng U2.out hb25 s2⟩) (fun hHeld => ?_)
  clear hK K
  try simp only [Act.put, List.setIfInBounds_toArray, List.set_cons_zero, List.set_cons_succ]
  refine wpAnyH_take (i := 5) (oi := { dst := some 6, op := Op.assign (Operand.tmp 24), type := 4, pos := "exact.go:3726", after := #[{ on := 4, ground := Ground.data }, { on := 4, ground := Ground.chain }, { on := 0, ground := Ground.phase }, { on := 1, ground := Ground.phase }, { on := 2, ground := Ground.phase }, { on := 3, ground := Ground.phase }, { on := 4, ground := Ground.phase }], guard := none }) (v := ?vp5) rfl (by kernel_rfl) (by kernel_rfl) (by kernel_rfl) (fun _ _ _ h => h) (Or.inl ⟨by rfl, ?hyp5⟩) (by assumption) ?restp5
  case hyp5 => intro w hSw; (try dsimp only at hSw); (first | (go_simp; done) | (go_simp; with_reducible rfl) | (with_reducible rfl))
  try simp only [Act.put, List.setIfInBounds_toArray, List.set_cons_zero, List.set_cons_succ]
  refine wpAnyH_done (by kernel_rfl) ?_ _
  refine NoPanic.normal ?_
  clear hHeld
  have T5 := Lib.hid (T2.out.below hb25 s20)
  have U5 := Lib.hid (U2.out.below hb25 s2)
  have s5 : x0 + 1 < w5.heap.size := Nat.lt_of_lt_of_le s2 hb25.size
  clear T2 U2 hb3 hb4 hb5 hb24 hb25 b3 b4 b2 b2d z2d Ho3 Ho4 s3 s4
  generalize (Value.agg #[.int .i64 s.id, .int .i64 s.sq, .int .i64 s.beg, .int .i64 s.fin, .slice A3 s.bat.length c3, .bool s.put]) = va3
  generalize (Value.agg #[.int .i64 t.id, .int .i64 t.sq, .int .i64 t.beg, .int .i64 t.fin, .slice A4 t.bat.length c4, .bool t.put]) = vb3
  go_upto_region 9 with fail
  apply wp_region_lit
  refine wpList_load_mid rfl 32 (.tmp 2) rfl x0 0 rfl LA _ (fun j v hv => T5.out j v hv) Try.underlying32 rfl (infoL.trans (by rw [HNA.out])) ?_
  simp only [Act.put, List.setIfInBounds_toArray, List.set_cons_zero, List.set_cons_succ]
  have hqz : Calls Try.prog 14 #[.agg LA.toArray] w5 (fun e w' => ∃ (A6 : Option Addr) (c6 : Nat), e = .returned (.agg #[.int .i64 s.id, .int .i64 s.sq, .int .i64 s.beg, .int .i64 s.fin, .slice A6 s.bat.length c6, .bool s.put]) ∧ SamsAt w' w'.heap.size A6 s.bat ∧ Below w5.heap.size w5 w') := by
    rw [EA.out]; exact (toIngester_any A c s x0 w5 (Sl.below H.out b5 (Nat.le_refl _)) (by omega) hlen).mono (fun e w' h => by obtain ⟨A6, c6, h1, h2, _, _, _, h6⟩ := h; exact ⟨A6, c6, h1, h2, h6⟩)
  have Hqz := Lib.hid hqz; clear hqz
  go_wp2_with fail
  refine Hqz.out.mono ?_
  rintro e w6 ⟨A6, c6, rfl, ho, hb6⟩
  clear Hqz
  have Ho6 := Lib.hid ho; clear ho
  have b6 : Below x0 w w6 := b5.trans (hb6.mono (by omega))
  have T6 := Lib.hid (T5.out.below hb6 (by omega))
  have U6 := Lib.hid (U5.out.below hb6 s5)
  have s6 : x0 + 1 < w6.heap.size := Nat.lt_of_lt_of_le s5 hb6.size
  clear T5 U5 hb6 b5
  go_upto_region 10 with fail
  obtain ⟨w7, hW7⟩ : ∃ W7, W7 = w6.alloc (.cells #[.int .i64 s.id, .int .i64 s.sq, .int .i64 s.beg, .int .i64 s.fin, .slice A6 s.bat.length c6, .bool s.put] 24) := ⟨_, rfl⟩
  obtain ⟨LC, hLC⟩ : ∃ L : List Value, L = [.int .i64 s.id, .int .i64 s.sq, .int .i64 s.beg, .int .i64 s.fin, .slice A6 s.bat.length c6, .bool s.put] := ⟨_, rfl⟩
  have t7 : Cells w7 w6.heap.size 0 LC := by rw [hW7, hLC]; exact Cells.new _ _ _
  have HNC : Hid (LC.length = 6) := Lib.hid (by rw [hLC]; rfl)
  have EC : Hid (Value.agg LC.toArray = .agg #[.int .i64 s.id, .int .i64 s.sq, .int .i64 s.beg, .int .i64 s.fin, .slice A6 s.bat.length c6, .bool s.put]) := Lib.hid (by rw [hLC])
  have bb7 : Below w6.heap.size w6 w7 := by rw [hW7]; exact bal (Below.refl _ _) _
  have s7 : w6.heap.size < w7.heap.size := by rw [hW7]; simp
  rw [← hW7]
  clear hW7 hLC
  generalize (Value.agg #[.int .i64 s.id, .int .i64 s.sq, .int .i64 s.beg, .int .i64 s.fin, .slice A6 s.bat.length c6, .bool s.put]) = vc
  have V7 := Lib.hid t7; clear t7
  have T7 := Lib.hid (T6.out.below bb7 (by omega))
  have U7 := Lib.hid (U6.out.below bb7 s6)
  have Ho7 := Lib.hid (Sl.below Ho6.out bb7 (Nat.le_refl _))
  have b7 : Below x0 w w7 := b6.trans (bb7.mono (by omega))
  clear T6 U6 bb7 b6 Ho6
  generalize w6.heap.size = x6 at *
  apply wp_region_lit
  refine wpList_load_mid rfl 32 (.tmp 3) rfl (x0 + 1) 0 rfl LB _ (fun j v hv => U7.out j v hv) Try.underlying32 rfl (infoL.trans (by rw [HNB.out])) ?_
  simp only [Act.put, List.setIfInBounds_toArray, List.set_cons_zero, List.set_cons_succ]
  have hqz : Calls Try.prog 14 #[.agg LB.toArray] w7 (fun e w' => ∃ (A8 : Option Addr) (c8 : Nat), e = .returned (.agg #[.int .i64 t.id, .int .i64 t.sq, .int .i64 t.beg, .int .i64 t.fin, .slice A8 t.bat.length c8, .bool t.put]) ∧ SamsAt w' w'.heap.size A8 t.bat ∧ Below w7.heap.size w7 w') := by
    rw [EB.out]; exact (toIngester_any A' c' t x0 w7 (Sl.below H'.out b7 (Nat.le_refl _)) (by omega) klen).mono (fun e w' h => by obtain ⟨A8, c8, h1, h2, _, _, _, h6⟩ := h; exact ⟨A8, c8, h1, h2, h6⟩)
  have Hqz := Lib.hid hqz; clear hqz
  go_wp2_with fail
  refine Hqz.out.mono ?_
  rintro e w8 ⟨A8, c8, rfl, ho, hb8⟩
  clear Hqz
  have Ho8 := Lib.hid ho; clear ho
  have b8 : Below x0 w w8 := b7.trans (hb8.mono (by omega))
  have T8 := Lib.hid (T7.out.below hb8 (by omega))
  have U8 := Lib.hid (U7.out.below hb8 (by omega))
  have V8 := Lib.hid (V7.out.below hb8 s7)
  have Hx8 := Lib.hid (Sl.below Ho7.out hb8 (by omega))
  have s8 : x6 < w8.heap.size := Nat.lt_of_lt_of_le s7 hb8.size
  clear T7 U7 V7 hb8 b7 Ho7
  go_upto_region 11 with fail
  obtain ⟨w9, hW9⟩ : ∃ W9, W9 = w8.alloc (.cells #[.int .i64 t.id, .int .i64 t.sq, .int .i64 t.beg, .int .i64 t.fin, .slice A8 t.bat.length c8, .bool t.put] 24) := ⟨_, rfl⟩
  obtain ⟨LD, hLD⟩ : ∃ L : List Value, L = [.int .i64 t.id, .int .i64 t.sq, .int .i64 t.beg, .int .i64 t.fin, .slice A8 t.bat.length c8, .bool t.put] := ⟨_, rfl⟩
  have t9 : Cells w9 w8.heap.size 0 LD := by rw [hW9, hLD]; exact Cells.new _ _ _
  have HND : Hid (LD.length = 6) := Lib.hid (by rw [hLD]; rfl)
  have ED : Hid (Value.agg LD.toArray = .agg #[.int .i64 t.id, .int .i64 t.sq, .int .i64 t.beg, .int .i64 t.fin, .slice A8 t.bat.length c8, .bool t.put]) := Lib.hid (by rw [hLD])
  have bb9 : Below w8.heap.size w8 w9 := by rw [hW9]; exact bal (Below.refl _ _) _
  have s9 : w8.heap.size < w9.heap.size := by rw [hW9]; simp
  rw [← hW9]
  clear hW9 hLD
  generalize (Value.agg #[.int .i64 t.id, .int .i64 t.sq, .int .i64 t.beg, .int .i64 t.fin, .slice A8 t.bat.length c8, .bool t.put]) = vd
  have Z9 := Lib.hid t9; clear t9
  have T9 := Lib.hid (T8.out.below bb9 (by omega))
  have U9 := Lib.hid (U8.out.below bb9 (by omega))
  have V9 := Lib.hid (V8.out.below bb9 s8)
  have Hx9 := Lib.hid (Sl.below Hx8.out bb9 (by omega))
  have Hy9 := Lib.hid (Sl.below Ho8.out bb9 (Nat.le_refl _))
  have b9 : Below x0 w w9 := b8.trans (bb9.mono (by omega))
  clear T8 U8 V8 bb9 b8 Hx8 Ho8
  generalize w8.heap.size = x8 at *
  apply wp_region_lit
  refine wpList_load_mid rfl 24 (.tmp 7) rfl x6 0 rfl LC _ (fun j v hv => V9.out j v hv) Try.underlying24 rfl (infoI.trans (by rw [HNC.out])) ?_
  simp only [Act.put, List.setIfInBounds_toArray, List.set_cons_zero, List.set_cons_succ]
  refine wpList_load_mid rfl 24 (.tmp 8) rfl x8 0 rfl LD _ (fun j v hv => Z9.out j v hv) Try.underlying24 rfl (infoI.trans (by rw [HND.out])) ?_
  simp only [Act.put, List.setIfInBounds_toArray, List.set_cons_zero, List.set_cons_succ]
  have hq : Calls Try.prog 23 #[.agg LC.toArray, .agg LD.toArray] w9 (IsBB (s = t) w9) := by
    rw [EC.out, ED.out]; exact sameIngester_any A6 c6 A8 c8 s t x8 w9 (Sl.more Hx9.out (by omega)) Hy9.out (by omega) (by omega) (by omega)
  have Hq := Lib.hid hq; clear hq
  go_wp2_with fail
  refine Hq.out.mono ?_
  rintro e w10 ⟨bi, hbi, rfl, hb10⟩
  clear Hq
  obtain rfl : bi = bs := by rw [Bool.eq_iff_iff]; exact hbi.trans Hbs.out.symm
  have b10 : Below x0 w w10 := b9.trans (hb10.mono (by omega))
  have T10 := Lib.hid (T9.out.below hb10 (by omega))
  have U10 := Lib.hid (U9.out.below hb10 (by omega))
  have V10 := Lib.hid (V9.out.below hb10 (by omega))
  have Z10 := Lib.hid (Z9.out.below hb10 s9)
  have Hx10 := Lib.hid (Sl.below Hx9.out hb10 (by omega))
  have Hy10 := Lib.hid (Sl.below Hy9.out hb10 (by omega))
  have s10 : x8 < w10.heap.size := Nat.lt_of_lt_of_le s9 hb10.size
  have s106 : x6 < w10.heap.size := by omega
  have s100 : x0 < w10.heap.size := by omega
  have dbb : (bi != bi) = false := by simp
  have dbb2 : (bi == bi) = true := by simp
  clear hbi Hbs T9 U9 V9 Z9 hb10 b9 Hx9 Hy9
  go_upto_region 14 with fail
  have bdr : Below x0 w w10.drew := b10.drew
  have zdr : w10.drew.heap.size = w10.heap.size := rfl
  refine wp_region_noPanic ?_
  refine wp_region_held_drew (S := fun w' => w'.rangeAt x6 0 LC ∧ w'.rangeAt x0 0 LA) (by kernel_rfl) (by exact ⟨rng V10.out (Below.refl w10.heap.size w10).drew s106, rng T10.out (Below.refl w10.heap.size w10).drew s100⟩) (fun hHeld => ?_)
  refine' wpAnyH_take (i := 0) (oi := { dst := some 35, op := Op.load 24 (Operand.tmp 7), type := 24, pos := "exact.go:3733", after := #[], guard := none }) (v := _) rfl (by kernel_rfl) (by kernel_rfl) (by kernel_rfl) (fun _ _ _ h => h) (yieldsIf_load_mid (by rfl) _ _ rfl _ _ rfl LC _ ?hSq0 ?huq0 ?hdq0 ?hiq0) (by assumption) ?restq0
  case hSq0 => exact fun w hSw => hSw.1
  case huq0 => exact Try.underlying24
  case hdq0 => rfl
  case hiq0 => exact infoI.trans (by rw [HNC.out])
  try simp only [Act.put, List.setIfInBounds_toArray, List.set_cons_zero, List.set_cons_succ]
  refine' wpAnyH_take (i := 1) (oi := { dst := some 36, op := Op.load 32 (Operand.tmp 2), type := 32, pos := "exact.go:3733", after := #[], guard := none }) (v := _) rfl (by kernel_rfl) (by kernel_rfl) (by kernel_rfl) (fun _ _ _ h => h) (yieldsIf_load_mid (by rfl) _ _ rfl _ _ rfl LA _ ?hSq1 ?huq1 ?hdq1 ?hiq1) (by assumption) ?restq1
  case hSq1 => exact fun w hSw => hSw.2
  case huq1 => exact Try.underlying32
  case hdq1 => rfl
  case hiq1 => exact infoL.trans (by rw [HNA.out])
  try simp only [Act.put, List.setIfInBounds_toArray, List.set_cons_zero, List.set_cons_succ]
  refine wpAnyH_ready (rs := [2]) (by kernel_rfl) (by simp) ?_
  refine AllReadyH.cons (o := { dst := some 37, op := Op.call { callee := Callee.value (Operand.func 14), args := #[Operand.tmp 36], argTypes := #[32] }, type := 24, pos := "exact.go:3733", after := #[{ on := 1, ground := Ground.data }], guard := none }) rfl (fun K hK => ?_) AllReadyH.nil
  go_simp
  have hqa : Calls Try.prog 14 #[.agg LA.toArray] w10.drew (fun e w' => ∃ (A3 : Option Addr) (c3 : Nat), e = .returned (.agg #[.int .i64 s.id, .int .i64 s.sq, .int .i64 s.beg, .int .i64 s.fin, .slice A3 s.bat.length c3, .bool s.put]) ∧ SamsAt w' w'.heap.size A3 s.bat ∧ Below w10.drew.heap.size w10.drew w') := by
    rw [EA.out]; exact (toIngester_any A c s x0 w10.drew (Sl.below H.out bdr (Nat.le_refl _)) (by omega) hlen).mono (fun e w' h => by obtain ⟨A3, c3, h1, h2, _, _, _, h6⟩ := h; exact ⟨A3, c3, h1, h2, h6⟩)
  refine hqa.mono ?_
  rintro e w11 ⟨A11, c11, rfl, ho11, hb11'⟩
  clear hqa
  have Ho11 := Lib.hid ho11; clear ho11
  have hb11 : Below w10.heap.size w10 w11 := (Below.refl _ _).drew.trans hb11'
  clear hb11'
  refine hK.out _ _ (by exact ⟨rng V10.out hb11 s106, rng T10.out hb11 s100⟩) (fun hHeld => ?_)
  clear hK K
  try simp only [Act.put, List.setIfInBounds_toArray, List.set_cons_zero, List.set_cons_succ]
  refine wpAnyH_ready (rs := [3]) (by kernel_rfl) (by simp) ?_
  refine AllReadyH.cons (o := { dst := some 38, op := Op.call { callee := Callee.value (Operand.func 9), args := #[Operand.tmp 35, Operand.tmp 37], argTypes := #[24, 24] }, type := 4, pos := "exact.go:3733", after := #[{ on := 0, ground := Ground.data }, { on := 2, ground := Ground.data }, { on := 2, ground := Ground.chain }], guard := none }) rfl (fun K hK => ?_) AllReadyH.nil
  go_simp
  have hqe : Calls Try.prog 9 #[.agg LC.toArray, .agg #[.int .i64 s.id, .int .i64 s.sq, .int .i64 s.beg, .int .i64 s.fin, .slice A11 s.bat.length c11, .bool s.put]] w11 (IsBB (s = s) w11) := by rw [EC.out]; exact eqIngester_any A6 c6 A11 c11 s s w11.heap.size w11 (Sl.more (Sl.below Hx10.out hb11 (by omega)) (by have := hb11.size; omega)) Ho11.out (Nat.le_refl _) (by omega) (by omega)
  refine hqe.mono ?_
  rintro e w12 ⟨be, hbe, rfl, hb12⟩
  obtain rfl : be = true := hbe.2 (by trivial)
  clear hbe hqe
  have hbz : Below w10.heap.size w10 w12 := hb11.trans (hb12.mono hb11.size)
  refine hK.out _ _ (by exact ⟨rng V10.out hbz s106, rng T10.out hbz s100⟩) (fun hHeld => ?_)
  clear hK K
  try simp only [Act.put, List.setIfInBounds_toArray, List.set_cons_zero, List.set_cons_succ]
  refine wpAnyH_take (i := 4) (oi := { dst := some 39, op := Op.unOp UnOp.not 4 (Operand.tmp 38), type := 4, pos := "exact.go:3733", after := #[{ on := 3, ground := Ground.data }], guard := none }) (v := ?vq4) rfl (by kernel_rfl) (by kernel_rfl) (by kernel_rfl) (fun _ _ _ h => h) (Or.inl ⟨by rfl, ?hyq4⟩) (by assumption) ?restq4
  case hyq4 => intro w hSw; (try dsimp only at hSw); (first | (go_simp; done) | (go_simp; with_reducible rfl) | (with_reducible rfl))
  try simp only [Act.put, List.setIfInBounds_toArray, List.set_cons_zero, List.set_cons_succ]
  refine wpAnyH_done (by kernel_rfl) ?_ _
  refine NoPanic.normal ?_
  clear hHeld bdr zdr
  generalize (Value.agg #[.int .i64 s.id, .int .i64 s.sq, .int .i64 s.beg, .int .i64 s.fin, .slice A11 s.bat.length c11, .bool s.put]) = veq
  have U12 := Lib.hid (U10.out.below hbz (by omega))
  have Z12 := Lib.hid (Z10.out.below hbz s10)
  have Hy12 := Lib.hid (Sl.below Hy10.out hbz (by omega))
  have b12 : Below x0 w w12 := b10.trans (hbz.mono (by omega))
  have s12 : x8 < w12.heap.size := Nat.lt_of_lt_of_le s10 hbz.size
  have s120 : x0 + 1 < w12.heap.size := by omega
  clear hb11 hb12 b10 hbz U10 Z10 Hy10 T10 V10 Hx10 Ho11 dbb dbb2 s106 s100 s10
  obtain ⟨w13, hw13⟩ : ∃ w13, w13 = w12 := ⟨_, rfl⟩
  rw [← hw13] at U12 Z12 Hy12 b12 s12 s120 ⊢
  clear hw13
  go_upto_region 16 with fail
  have bdr : Below x0 w w13.drew := b12.drew
  have zdr : w13.drew.heap.size = w13.heap.size := rfl
  refine wp_region_noPanic ?_
  refine wp_region_held_drew (S := fun w' => w'.rangeAt x8 0 LD ∧ w'.rangeAt (x0 + 1) 0 LB) (by kernel_rfl) (by exact ⟨rng Z12.out (Below.refl w13.heap.size w13).drew s12, rng U12.out (Below.refl w13.heap.size w13).drew s120⟩) (fun hHeld => ?_)
  refine' wpAnyH_take (i := 0) (oi := { dst := some 40, op := Op.load 24 (Operand.tmp 8), type := 24, pos := "exact.go:3736", after := #[], guard := none }) (v := _) rfl (by kernel_rfl) (by kernel_rfl) (by kernel_rfl) (fun _ _ _ h => h) (yieldsIf_load_mid (by rfl) _ _ rfl _ _ rfl LD _ ?hSr0 ?hur0 ?hdr0 ?hir0) (by assumption) ?restr0
  case hSr0 => exact fun w hSw => hSw.1
  case hur0 => exact Try.underlying24
  case hdr0 => rfl
  case hir0 => exact infoI.trans (by rw [HND.out])
  try simp only [Act.put, List.setIfInBounds_toArray, List.set_cons_zero, List.set_cons_succ]
  refine' wpAnyH_take (i := 1) (oi := { dst := some 41, op := Op.load 32 (Operand.tmp 3), type := 32, pos := "exact.go:3736", after := #[], guard := none }) (v := _) rfl (by kernel_rfl) (by kernel_rfl) (by kernel_rfl) (fun _ _ _ h => h) (yieldsIf_load_mid (by rfl) _ _ rfl _ _ rfl LB _ ?hSr1 ?hur1 ?hdr1 ?hir1) (by assumption) ?restr1
  case hSr1 => exact fun w hSw => hSw.2
  case hur1 => exact Try.underlying32
  case hdr1 => rfl
  case hir1 => exact infoL.trans (by rw [HNB.out])
  try simp only [Act.put, List.setIfInBounds_toArray, List.set_cons_zero, List.set_cons_succ]
  refine wpAnyH_ready (rs := [2]) (by kernel_rfl) (by simp) ?_
  refine AllReadyH.cons (o := { dst := some 42, op := Op.call { callee := Callee.value (Operand.func 14), args := #[Operand.tmp 41], argTypes := #[32] }, type := 24, pos := "exact.go:3736", after := #[{ on := 1, ground := Ground.data }], guard := none }) rfl (fun K hK => ?_) AllReadyH.nil
  go_simp
  have hqa : Calls Try.prog 14 #[.agg LB.toArray] w13.drew (fun e w' => ∃ (A3 : Option Addr) (c3 : Nat), e = .returned (.agg #[.int .i64 t.id, .int .i64 t.sq, .int .i64 t.beg, .int .i64 t.fin, .slice A3 t.bat.length c3, .bool t.put]) ∧ SamsAt w' w'.heap.size A3 t.bat ∧ Below w13.drew.heap.size w13.drew w') := by
    rw [EB.out]; exact (toIngester_any A' c' t x0 w13.drew (Sl.below H'.out bdr (Nat.le_refl _)) (by omega) klen).mono (fun e w' h => by obtain ⟨A3, c3, h1, h2, _, _, _, h6⟩ := h; exact ⟨A3, c3, h1, h2, h6⟩)
  refine hqa.mono ?_
  rintro e w11 ⟨A11, c11, rfl, ho11, hb11'⟩
  clear hqa
  have Ho11 := Lib.hid ho11; clear ho11
  have hb11 : Below w13.heap.size w13 w11 := (Below.refl _ _).drew.trans hb11'
  clear hb11'
  refine hK.out _ _ (by exact ⟨rng Z12.out hb11 s12, rng U12.out hb11 s120⟩) (fun hHeld => ?_)
  clear hK K
  try simp only [Act.put, List.setIfInBounds_toArray, List.set_cons_zero, List.set_cons_succ]
  refine wpAnyH_ready (rs := [3]) (by kernel_rfl) (by simp) ?_
  refine AllReadyH.cons (o := { dst := some 43, op := Op.call { callee := Callee.value (Operand.func 9), args := #[Operand.tmp 40, Operand.tmp 42], argTypes := #[24, 24] }, type := 4, pos := "exact.go:3736", after := #[{ on := 0, ground := Ground.data }, { on := 2, ground := Ground.data }, { on := 2, ground := Ground.chain }], guard := none }) rfl (fun K hK => ?_) AllReadyH.nil
  go_simp
  have hqe : Calls Try.prog 9 #[.agg LD.toArray, .agg #[.int .i64 t.id, .int .i64 t.sq, .int .i64 t.beg, .int .i64 t.fin, .slice A11 t.bat.length c11, .bool t.put]] w11 (IsBB (t = t) w11) := by rw [ED.out]; exact eqIngester_any A8 c8 A11 c11 t t w11.heap.size w11 (Sl.more (Sl.below Hy12.out hb11 (by omega)) (by have := hb11.size; omega)) Ho11.out (Nat.le_refl _) (by omega) (by omega)
  refine hqe.mono ?_
  rintro e w12 ⟨be, hbe, rfl, hb12⟩
  obtain rfl : be = true := hbe.2 (by trivial)
  clear hbe hqe
  have hbz : Below w13.heap.size w13 w12 := hb11.trans (hb12.mono hb11.size)
  refine hK.out _ _ (by exact ⟨rng Z12.out hbz s12, rng U12.out hbz s120⟩) (fun hHeld => ?_)
  clear hK K
  try simp only [Act.put, List.setIfInBounds_toArray, List.set_cons_zero, List.set_cons_succ]
  refine wpAnyH_take (i := 4) (oi := { dst := some 44, op := Op.unOp UnOp.not 4 (Operand.tmp 43), type := 4, pos := "exact.go:3736", after := #[{ on := 3, ground := Ground.data }], guard := none }) (v := ?vr4) rfl (by kernel_rfl) (by kernel_rfl) (by kernel_rfl) (fun _ _ _ h => h) (Or.inl ⟨by rfl, ?hyr4⟩) (by assumption) ?restr4
  case hyr4 => intro w hSw; (try dsimp only at hSw); (first | (go_simp; done) | (go_simp; with_reducible rfl) | (with_reducible rfl))
  try simp only [Act.put, List.setIfInBounds_toArray, List.set_cons_zero, List.set_cons_succ]
  refine wpAnyH_done (by kernel_rfl) ?_ _
  refine NoPanic.normal ?_
  clear hHeld bdr zdr
  generalize (Value.agg #[.int .i64 t.id, .int .i64 t.sq, .int .i64 t.beg, .int .i64 t.fin, .slice A11 t.bat.length c11, .bool t.put]) = ver
  have b14 : Below x0 w w12 := b12.trans (hbz.mono (by omega))
  clear hb11 hb12 hbz b12
  go_wp2
  go_ret
  exact ⟨rfl, by rw [Hx0.out]; exact b14⟩

theorem own : ownKnob Try.prog.godebug = none := by kernel_rfl
theorem laidOut : laidOutB Try.prog = true := by kernel_rfl

set_option maxRecDepth 100000 in
theorem lifted (os : Os) (started : os.Started) (H : Type) (enc : TypeId × Value → H) :
    ReturnsInHanded {} Try.checked os 6 .any (Rows.fnExactSameIngesterSpec.pre6 enc Try.prog Try.f6 Rows.fnExactSameIngesterRow.domain false) (Rows.fnExactSameIngesterSpec.post enc Try.prog Try.f6 false true false false) := by
  refine returnsInHanded_of_change (C := Try.checked) own started (by kernel_rfl) Try.func6
    (ChangeSpec.witness6 (enc := enc) (C := Try.checked) false ⟨#[], #[.agg #[.int .i64 0, .int .i64 0, .int .i64 0, .int .i64 0, .slice none 0 0, .bool false], .agg #[.int .i64 0, .int .i64 0, .int .i64 0, .int .i64 0, .slice none 0 0, .bool false]], []⟩ 8 (by kernel_rfl) (by kernel_rfl) (by kernel_rfl) (by kernel_rfl)) ?_
  intro W base args ds gs before hval0 hW hcnd _
  have hval : ∀ (j : Nat) t v, Try.f6.params[j]? = some t → args[j]? = some v → Value.okWide Try.prog W .any base t v := hval0
  have hW' := hW
  obtain ⟨p, q, hA0, hV, rfl, hfz, hnd⟩ := hW
  have hA : DataW.TrodAll enc Try.prog W 0 (fun _ => true) true Try.f6.params.toList args.toList ds p := hA0
  rw [Try.params6] at hA hval
  obtain ⟨v0, vs0, d0, ds0, p0, q0, hargs, rfl, rfl, h0, r0⟩ := trodAll_cons hA
  obtain ⟨v1, vs1, d1, ds1, p1, q1, rfl, rfl, rfl, h1, r1⟩ := trodAll_cons r0
  obtain ⟨rfl, rfl, rfl⟩ := trodAll_nil r1
  obtain rfl : args = #[v0, v1] := by cases args; simp_all
  obtain ⟨rfl, rfl⟩ := trodVars_none hV
  have k0 := h0
  have lt0 : ∀ x ∈ p0, x.block < W.heap.size := by obtain ⟨m, hm⟩ := k0; exact DataW.trod_lt m _ _ _ hm
  obtain ⟨A0, c0, st0, rfl, ob0, ft0⟩ := open_ling (hval 0 32 v0 rfl rfl) h0
  have k1 := h1
  have lt1 : ∀ x ∈ p1, x.block < W.heap.size := by obtain ⟨m, hm⟩ := k1; exact DataW.trod_lt m _ _ _ hm
  obtain ⟨A1, c1, st1, rfl, ob1, ft1⟩ := open_ling (hval 1 32 v1 rfl rfl) h1
  clear hA0 hval0
  refine (walk A0 c0 st0 A1 c1 st1 W ob0 ft0 ob1 ft1).mono fun e W' ⟨he, bel⟩ => ?_
  subst he
  exact ⟨_, rfl, _, _, _, [], _, [], hW', trodAll_mk1 (shut_bool Try.underlying4 _), (trodAll_cons_mk (Below.trod laidOut (by kernel_rfl) (of_decide_eq_true (by kernel_rfl)) k0 bel lt0) (trodAll_cons_mk (Below.trod laidOut (by kernel_rfl) (of_decide_eq_true (by kernel_rfl)) k1 bel lt1) trodAll_mk0)), rfl, bel.frame _, fun h => by cases h⟩

theorem over : Rows.fnExactSameIngesterRow.holds Try.pinned (OpenSpec.ofChange Rows.fnExactSameIngesterSpec) :=
  OpenClaim.holds_of_wide 6 Try.f6 rfl rfl rfl rfl rfl rfl rfl ⟨rfl, rfl, rfl, rfl, rfl⟩ rfl rfl rfl rfl rfl (by kernel_rfl) Try.func6 (by kernel_rfl)
    (of_decide_eq_true (by kernel_rfl)) (by unfold Func.isWrapper; first | (rw [if_pos (by decide +kernel)]; kernel_rfl) | (rw [if_neg (by decide +kernel)]; exact ⟨rfl, rfl⟩))
    (fun os started H enc _ => lifted os started H enc)

theorem proved : Rows.FnExactSameIngesterSaid := over
#print axioms proved
end Go.Proofs.Ytpfanmcjlfdaiaa.fnExactSameIngester
