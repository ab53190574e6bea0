/-
  'laws.FnExactWorkerOK' answers true at every input: WorkerOK answers as its model does, and writes into no argument. Conditions: the library's tables hold what its text lays there (tied by the card).
-/
import Derived.Test.YtpackpocnonpiaaDoorWkJ
import Derived.Test.YtpackpocnonpiaaDoorWkS
import Derived.Test.YtpackpocnonpiaaDoorOpenWrk
import Derived.Test.YtpackpocnonpiaaDoorM1
import Derived.Test.YtpackpocnonpiaaDoorCards
import Derived.Test.YtpackpocnonpiaaDoorTie
import Derived.ProofKit
import Derived.OpenShut
import Derived.Deep.DeepHandedRow
import Derived.Lib.LaidTab
import Derived.Outline
import Derived.ShutString
import Derived.Deep.RegionHeld3
import Derived.Deep.DeepCutAuto
import Derived.Deep.MidRow
namespace Go.Proofs.YtpackpocnonpiaaDoor.fnExactWorkerOK
open Go.ChangeShapes Go.WideShapes Go.ChangeAt Go.RowKit
set_option linter.unusedVariables false

theorem infoL : (Tryd.prog.info? 28).map (·.size) = some 16 := by kernel_rfl

theorem infoI : (Tryd.prog.info? 35).map (·.size) = some 16 := by kernel_rfl

theorem rng {w w' : World} {b B : Nat} {L : List Value} (h : Cells w b 0 L) (hb : Below B w w') (hB : b < B) : w'.rangeAt b 0 L := fun j v hv => h.below hb hB j v hv

/-- a world that holds the program's tables of paths and widths -/
noncomputable def laidWorldW (os : Os) : World :=
  { World.holding Tryd.prog os ⟨#[], #[], []⟩ with heap := ((World.holding Tryd.prog os ⟨#[], #[], []⟩).heap.modify 1 (layTabA Rows.laid_loop_example_g00601_impl_tierPaths)).modify 0 (layTabA Rows.laid_loop_example_g00601_impl_tierWidths) }

set_option maxRecDepth 100000 in
set_option maxHeartbeats 4000000 in
theorem walk (A : Option Addr) (c : Nat) (s : GWrk) (w : World) (h : EntsAt w w.heap.size A s.ins) (hf : s.fit) (hp : Paths w) (hz : 1 < w.heap.size) :
    Calls Tryd.prog 3 #[.agg #[.int .i64 s.id, .int .i64 s.ph, .int .i64 s.tk, .int .i64 s.job.kind, .int .i64 s.job.tok, .int .i64 s.job.tier, .int .i64 s.job.beg, .int .i64 s.job.fin, .string s.job.key, .slice A s.ins.length c, .int .i64 s.got.cnt, .int .i64 s.got.sum, .int .i64 s.got.mn, .int .i64 s.got.mx, .int .i64 s.got.fst, .int .i64 s.got.lst]] w fun e w' => e = .returned (.bool true) ∧ Below w.heap.size w w' := by
  have H := Lib.hid h; clear h
  have Hf := Lib.hid hf; clear hf
  have HP : Hid (∀ w', Below w.heap.size w w' → Paths w' ∧ 1 < w'.heap.size) := Lib.hid (fun w' h => ⟨hp.below h hz, Nat.lt_of_lt_of_le hz h.size⟩)
  clear hp
  go_enter Tryd.func3, Tryd.ntmps3
  go_upto_region 2 with fail
  obtain ⟨W, hW⟩ : ∃ W, W = w.alloc (.cells #[.int .i64 s.id, .int .i64 s.ph, .int .i64 s.tk, .int .i64 s.job.kind, .int .i64 s.job.tok, .int .i64 s.job.tier, .int .i64 s.job.beg, .int .i64 s.job.fin, .string s.job.key, .slice A s.ins.length c, .int .i64 s.got.cnt, .int .i64 s.got.sum, .int .i64 s.got.mn, .int .i64 s.got.mx, .int .i64 s.got.fst, .int .i64 s.got.lst] 28) := ⟨_, rfl⟩
  obtain ⟨LA, hLA⟩ : ∃ L : List Value, L = [.int .i64 s.id, .int .i64 s.ph, .int .i64 s.tk, .int .i64 s.job.kind, .int .i64 s.job.tok, .int .i64 s.job.tier, .int .i64 s.job.beg, .int .i64 s.job.fin, .string s.job.key, .slice A s.ins.length c, .int .i64 s.got.cnt, .int .i64 s.got.sum, .int .i64 s.got.mn, .int .i64 s.got.mx, .int .i64 s.got.fst, .int .i64 s.got.lst] := ⟨_, rfl⟩
  have t1 : Cells W w.heap.size 0 LA := by rw [hW, hLA]; exact Cells.new w _ _
  have b0 : Below w.heap.size w W := by rw [hW]; exact bal (Below.refl _ _) _
  have s0 : w.heap.size < W.heap.size := by rw [hW]; simp
  have HNA : Hid (LA.length = 16) := Lib.hid (by rw [hLA]; rfl)
  have EA : Hid (Value.agg LA.toArray = .agg #[.int .i64 s.id, .int .i64 s.ph, .int .i64 s.tk, .int .i64 s.job.kind, .int .i64 s.job.tok, .int .i64 s.job.tier, .int .i64 s.job.beg, .int .i64 s.job.fin, .string s.job.key, .slice A s.ins.length c, .int .i64 s.got.cnt, .int .i64 s.got.sum, .int .i64 s.got.mn, .int .i64 s.got.mx, .int .i64 s.got.fst, .int .i64 s.got.lst]) := Lib.hid (by rw [hLA])
  clear hLA
  rw [← hW]
  clear hW
  generalize (Value.agg #[.int .i64 s.id, .int .i64 s.ph, .int .i64 s.tk, .int .i64 s.job.kind, .int .i64 s.job.tok, .int .i64 s.job.tier, .int .i64 s.job.beg, .int .i64 s.job.fin, .string s.job.key, .slice A s.ins.length c, .int .i64 s.got.cnt, .int .i64 s.got.sum, .int .i64 s.got.mn, .int .i64 s.got.mx, .int .i64 s.got.fst, .int .i64 s.got.lst]) = va
  have T0 := Lib.hid t1; clear t1
  generalize hx0 : w.heap.size = x0 at *
  have Hx0 := Lib.hid hx0; clear hx0
  apply wp_region_lit
  refine wpList_load_mid rfl 28 (.tmp 1) rfl x0 0 rfl LA _ (fun j v hv => T0.out j v hv) Tryd.underlying28 rfl (infoL.trans (by rw [HNA.out])) ?_
  simp only [Act.put, List.setIfInBounds_toArray, List.set_cons_zero, List.set_cons_succ]
  have hq : Calls Tryd.prog 4 #[.agg LA.toArray, .int .i64 1048576] W (Left s.small 1048576 W) := by
    rw [EA.out]; exact szWorker_any A c s 1048576 x0 W (Sl.below H.out b0 (Nat.le_refl _)) (by omega) Hf.out (by omega) (by omega)
  have Hq := Lib.hid hq; clear hq
  go_wp2_with fail
  refine Hq.out.mono ?_
  rintro e w2 ⟨v, hv, hv1, hv2, rfl, hb1⟩
  clear Hq
  have Hv := Lib.hid hv; clear hv
  have b2 : Below x0 w w2 := b0.trans (hb1.mono (by omega))
  by_cases hneg : v < 0
  · have d : decide (v < 0) = true := by simpa using hneg
    go_wp2
    go_ret
    exact ⟨rfl, by rw [Hx0.out]; exact b2⟩
  have d : decide (v < 0) = false := by simpa using hneg
  have hlen : s.ins.length ≤ 1048576 := lenWrk (Hv.out (by omega)).1
  have HSI : Hid (∀ e ∈ s.ins, e.key.size ≤ 1048576) := Lib.hid (Hv.out (by omega)).1.2.2
  have hjk : s.job.key.size ≤ 1048576 := (Hv.out (by omega)).1.1
  have T2 := Lib.hid (T0.out.below hb1 (by omega))
  have s2 : x0 < w2.heap.size := by have := hb1.size; omega
  clear Hv T0 hb1 b0 s0
  go_upto_region 5 with fail
  apply wp_region_lit
  refine wpList_load_mid rfl 28 (.tmp 1) rfl x0 0 rfl LA _ (fun j v hv => T2.out j v hv) Tryd.underlying28 rfl (infoL.trans (by rw [HNA.out])) ?_
  simp only [Act.put, List.setIfInBounds_toArray, List.set_cons_zero, List.set_cons_succ]
  have hqz : Calls Tryd.prog 6 #[.agg LA.toArray] w2 (fun e w' => ∃ (A3 : Option Addr) (c3 : Nat), e = .returned (.agg #[.int .i64 s.id, .int .i64 s.ph, .int .i64 s.tk, .int .i64 s.job.kind, .int .i64 s.job.tok, .int .i64 s.job.tier, .int .i64 s.job.beg, .int .i64 s.job.fin, .string s.job.key, .slice A3 s.ins.length c3, .int .i64 s.got.cnt, .int .i64 s.got.sum, .int .i64 s.got.mn, .int .i64 s.got.mx, .int .i64 s.got.fst, .int .i64 s.got.lst]) ∧ EntsAt w' w'.heap.size A3 s.ins ∧ Below w2.heap.size w2 w') := by
    rw [EA.out]; exact (toWorker_any A c s x0 w2 (Sl.below H.out b2 (Nat.le_refl _)) (by omega) hlen).mono (fun e w' h => by obtain ⟨A3, c3, h1, h2, _, _, _, h6⟩ := h; exact ⟨A3, c3, h1, h2, h6⟩)
  have Hqz := Lib.hid hqz; clear hqz
  go_wp2_with fail
  refine Hqz.out.mono ?_
  rintro e w3 ⟨A3, c3, rfl, ho, hb3⟩
  clear Hqz
  have Ho3 := Lib.hid ho; clear ho
  have b3 : Below x0 w w3 := b2.trans (hb3.mono (by omega))
  have T3 := Lib.hid (T2.out.below hb3 (by omega))
  have s3 : x0 < w3.heap.size := Nat.lt_of_lt_of_le s2 hb3.size
  clear T2 hb3 b2 s2
  go_wp2_with fail
  refine (specWorkerOK_any A3 c3 s w3.heap.size w3 Ho3.out (Nat.le_refl _) hlen HSI.out hjk).mono ?_
  rintro e w5 ⟨bs, hbs, rfl, hb5⟩
  have Hbs := Lib.hid hbs; clear hbs
  have b5 : Below x0 w w5 := b3.trans (hb5.mono (by omega))
  have T5 := Lib.hid (T3.out.below hb5 (by omega))
  have s5 : x0 < w5.heap.size := Nat.lt_of_lt_of_le s3 hb5.size
  clear T3 hb5 b3 s3 Ho3
  generalize (Value.agg #[.int .i64 s.id, .int .i64 s.ph, .int .i64 s.tk, .int .i64 s.job.kind, .int .i64 s.job.tok, .int .i64 s.job.tier, .int .i64 s.job.beg, .int .i64 s.job.fin, .string s.job.key, .slice A3 s.ins.length c3, .int .i64 s.got.cnt, .int .i64 s.got.sum, .int .i64 s.got.mn, .int .i64 s.got.mx, .int .i64 s.got.fst, .int .i64 s.got.lst]) = va3
  go_upto_region 6 with fail
  apply wp_region_lit
  refine wpList_load_mid rfl 28 (.tmp 1) rfl x0 0 rfl LA _ (fun j v hv => T5.out j v hv) Tryd.underlying28 rfl (infoL.trans (by rw [HNA.out])) ?_
  simp only [Act.put, List.setIfInBounds_toArray, List.set_cons_zero, List.set_cons_succ]
  have hqz : Calls Tryd.prog 6 #[.agg LA.toArray] w5 (fun e w' => ∃ (A3 : Option Addr) (c3 : Nat), e = .returned (.agg #[.int .i64 s.id, .int .i64 s.ph, .int .i64 s.tk, .int .i64 s.job.kind, .int .i64 s.job.tok, .int .i64 s.job.tier, .int .i64 s.job.beg, .int .i64 s.job.fin, .string s.job.key, .slice A3 s.ins.length c3, .int .i64 s.got.cnt, .int .i64 s.got.sum, .int .i64 s.got.mn, .int .i64 s.got.mx, .int .i64 s.got.fst, .int .i64 s.got.lst]) ∧ EntsAt w' w'.heap.size A3 s.ins ∧ Below w5.heap.size w5 w') := by
    rw [EA.out]; exact (toWorker_any A c s x0 w5 (Sl.below H.out b5 (Nat.le_refl _)) (by omega) hlen).mono (fun e w' h => by obtain ⟨A3, c3, h1, h2, _, _, _, h6⟩ := h; exact ⟨A3, c3, h1, h2, h6⟩)
  have Hqz := Lib.hid hqz; clear hqz
  go_wp2_with fail
  refine Hqz.out.mono ?_
  rintro e w6 ⟨A6, c6, rfl, ho, hb6⟩
  clear Hqz
  have Ho6 := Lib.hid ho; clear ho
  have b6 : Below x0 w w6 := b5.trans (hb6.mono (by omega))
  have T6 := Lib.hid (T5.out.below hb6 (by omega))
  have s6 : x0 < w6.heap.size := Nat.lt_of_lt_of_le s5 hb6.size
  clear T5 hb6 b5
  go_upto_region 7 with fail
  obtain ⟨w7, hW7⟩ : ∃ W7, W7 = w6.alloc (.cells #[.int .i64 s.id, .int .i64 s.ph, .int .i64 s.tk, .int .i64 s.job.kind, .int .i64 s.job.tok, .int .i64 s.job.tier, .int .i64 s.job.beg, .int .i64 s.job.fin, .string s.job.key, .slice A6 s.ins.length c6, .int .i64 s.got.cnt, .int .i64 s.got.sum, .int .i64 s.got.mn, .int .i64 s.got.mx, .int .i64 s.got.fst, .int .i64 s.got.lst] 35) := ⟨_, rfl⟩
  obtain ⟨LC, hLC⟩ : ∃ L : List Value, L = [.int .i64 s.id, .int .i64 s.ph, .int .i64 s.tk, .int .i64 s.job.kind, .int .i64 s.job.tok, .int .i64 s.job.tier, .int .i64 s.job.beg, .int .i64 s.job.fin, .string s.job.key, .slice A6 s.ins.length c6, .int .i64 s.got.cnt, .int .i64 s.got.sum, .int .i64 s.got.mn, .int .i64 s.got.mx, .int .i64 s.got.fst, .int .i64 s.got.lst] := ⟨_, rfl⟩
  have t7 : Cells w7 w6.heap.size 0 LC := by rw [hW7, hLC]; exact Cells.new _ _ _
  have HNC : Hid (LC.length = 16) := Lib.hid (by rw [hLC]; rfl)
  have EC : Hid (Value.agg LC.toArray = .agg #[.int .i64 s.id, .int .i64 s.ph, .int .i64 s.tk, .int .i64 s.job.kind, .int .i64 s.job.tok, .int .i64 s.job.tier, .int .i64 s.job.beg, .int .i64 s.job.fin, .string s.job.key, .slice A6 s.ins.length c6, .int .i64 s.got.cnt, .int .i64 s.got.sum, .int .i64 s.got.mn, .int .i64 s.got.mx, .int .i64 s.got.fst, .int .i64 s.got.lst]) := Lib.hid (by rw [hLC])
  have bb7 : Below w6.heap.size w6 w7 := by rw [hW7]; exact bal (Below.refl _ _) _
  have s7 : w6.heap.size < w7.heap.size := by rw [hW7]; simp
  rw [← hW7]
  clear hW7 hLC
  generalize (Value.agg #[.int .i64 s.id, .int .i64 s.ph, .int .i64 s.tk, .int .i64 s.job.kind, .int .i64 s.job.tok, .int .i64 s.job.tier, .int .i64 s.job.beg, .int .i64 s.job.fin, .string s.job.key, .slice A6 s.ins.length c6, .int .i64 s.got.cnt, .int .i64 s.got.sum, .int .i64 s.got.mn, .int .i64 s.got.mx, .int .i64 s.got.fst, .int .i64 s.got.lst]) = vc
  have V7 := Lib.hid t7; clear t7
  have T7 := Lib.hid (T6.out.below bb7 (by omega))
  have Ho7 := Lib.hid (Sl.below Ho6.out bb7 (Nat.le_refl _))
  have b7 : Below x0 w w7 := b6.trans (bb7.mono (by omega))
  clear T6 bb7 b6 Ho6
  generalize w6.heap.size = x6 at *
  apply wp_region_lit
  refine wpList_load_mid rfl 35 (.tmp 5) rfl x6 0 rfl LC _ (fun j v hv => V7.out j v hv) Tryd.underlying35 rfl (infoI.trans (by rw [HNC.out])) ?_
  simp only [Act.put, List.setIfInBounds_toArray, List.set_cons_zero, List.set_cons_succ]
  have hq : Calls Tryd.prog 7 #[.agg LC.toArray] w7 (IsBB (WrkP s) w7) := by
    rw [EC.out]; exact workerOK_any A6 c6 s x6 w7 Ho7.out (by omega) hlen HSI.out hjk (HP.out _ b7).1 (HP.out _ b7).2
  have Hq := Lib.hid hq; clear hq
  go_wp2_with fail
  refine Hq.out.mono ?_
  rintro e w10 ⟨bi, hbi, rfl, hb10⟩
  clear Hq
  obtain rfl : bi = bs := by rw [Bool.eq_iff_iff]; exact hbi.trans Hbs.out.symm
  have b10 : Below x0 w w10 := b7.trans (hb10.mono (by omega))
  have T10 := Lib.hid (T7.out.below hb10 (by omega))
  have V10 := Lib.hid (V7.out.below hb10 s7)
  have Hx10 := Lib.hid (Sl.below Ho7.out hb10 (by omega))
  have s106 : x6 < w10.heap.size := Nat.lt_of_lt_of_le s7 hb10.size
  have s100 : x0 < w10.heap.size := by omega
  have dbb : (bi != bi) = false := by simp
  have dbb2 : (bi == bi) = true := by simp
  clear hbi Hbs T7 V7 hb10 b7 Ho7
  go_upto_region 10 with fail
  have bdr : Below x0 w w10.drew := b10.drew
  have zdr : w10.drew.heap.size = w10.heap.size := rfl
  refine wp_region_noPanic ?_
  refine wp_region_held_drew (S := fun w' => w'.rangeAt x6 0 LC ∧ w'.rangeAt x0 0 LA) (by kernel_rfl) (by exact ⟨rng V10.out (Below.refl w10.heap.size w10).drew s106, rng T10.out (Below.refl w10.heap.size w10).drew s100⟩) (fun hHeld => ?_)
  refine' wpAnyH_take (i := 0) (oi := { dst := some 22, op := Op.load 35 (Operand.tmp 5), type := 35, pos := "exact.go:3430", after := #[], guard := none }) (v := _) rfl (by kernel_rfl) (by kernel_rfl) (by kernel_rfl) (fun _ _ _ h => h) (yieldsIf_load_mid (by rfl) _ _ rfl _ _ rfl LC _ ?hSq0 ?huq0 ?hdq0 ?hiq0) (by assumption) ?restq0
  case hSq0 => exact fun w hSw => hSw.1
  case huq0 => exact Tryd.underlying35
  case hdq0 => rfl
  case hiq0 => exact infoI.trans (by rw [HNC.out])
  try simp only [Act.put, List.setIfInBounds_toArray, List.set_cons_zero, List.set_cons_succ]
  refine' wpAnyH_take (i := 1) (oi := { dst := some 23, op := Op.load 28 (Operand.tmp 1), type := 28, pos := "exact.go:3430", after := #[], guard := none }) (v := _) rfl (by kernel_rfl) (by kernel_rfl) (by kernel_rfl) (fun _ _ _ h => h) (yieldsIf_load_mid (by rfl) _ _ rfl _ _ rfl LA _ ?hSq1 ?huq1 ?hdq1 ?hiq1) (by assumption) ?restq1
  case hSq1 => exact fun w hSw => hSw.2
  case huq1 => exact Tryd.underlying28
  case hdq1 => rfl
  case hiq1 => exact infoL.trans (by rw [HNA.out])
  try simp only [Act.put, List.setIfInBounds_toArray, List.set_cons_zero, List.set_cons_succ]
  refine wpAnyH_ready (rs := [2]) (by kernel_rfl) (by simp) ?_
  refine AllReadyH.cons (o := { dst := some 24, op := Op.call { callee := Callee.value (Operand.func 6), args := #[Operand.tmp 23], argTypes := #[28] }, type := 35, pos := "exact.go:3430", after := #[{ on := 1, ground := Ground.data }], guard := none }) rfl (fun K hK => ?_) AllReadyH.nil
  go_simp
  have hqz : Calls Tryd.prog 6 #[.agg LA.toArray] w10.drew (fun e w' => ∃ (A3 : Option Addr) (c3 : Nat), e = .returned (.agg #[.int .i64 s.id, .int .i64 s.ph, .int .i64 s.tk, .int .i64 s.job.kind, .int .i64 s.job.tok, .int .i64 s.job.tier, .int .i64 s.job.beg, .int .i64 s.job.fin, .string s.job.key, .slice A3 s.ins.length c3, .int .i64 s.got.cnt, .int .i64 s.got.sum, .int .i64 s.got.mn, .int .i64 s.got.mx, .int .i64 s.got.fst, .int .i64 s.got.lst]) ∧ EntsAt w' w'.heap.size A3 s.ins ∧ Below w10.drew.heap.size w10.drew w') := by
    rw [EA.out]; exact (toWorker_any A c s x0 w10.drew (Sl.below H.out bdr (Nat.le_refl _)) (by omega) hlen).mono (fun e w' h => by obtain ⟨A3, c3, h1, h2, _, _, _, h6⟩ := h; exact ⟨A3, c3, h1, h2, h6⟩)
  refine hqz.mono ?_
  rintro e w11 ⟨A11, c11, rfl, ho11, hb11'⟩
  clear hqz
  have Ho11 := Lib.hid ho11; clear ho11
  have hb11 : Below w10.heap.size w10 w11 := (Below.refl _ _).drew.trans hb11'
  clear hb11'
  refine hK.out _ _ (by exact ⟨rng V10.out hb11 s106, rng T10.out hb11 s100⟩) (fun hHeld => ?_)
  clear hK K
  try simp only [Act.put, List.setIfInBounds_toArray, List.set_cons_zero, List.set_cons_succ]
  refine wpAnyH_ready (rs := [3]) (by kernel_rfl) (by simp) ?_
  refine AllReadyH.cons (o := { dst := some 25, op := Op.call { callee := Callee.value (Operand.func 8), args := #[Operand.tmp 22, Operand.tmp 24], argTypes := #[35, 35] }, type := 4, pos := "exact.go:3430", after := #[{ on := 0, ground := Ground.data }, { on := 2, ground := Ground.data }, { on := 2, ground := Ground.chain }], guard := none }) rfl (fun K hK => ?_) AllReadyH.nil
  go_simp
  have hqe : Calls Tryd.prog 8 #[.agg LC.toArray, .agg #[.int .i64 s.id, .int .i64 s.ph, .int .i64 s.tk, .int .i64 s.job.kind, .int .i64 s.job.tok, .int .i64 s.job.tier, .int .i64 s.job.beg, .int .i64 s.job.fin, .string s.job.key, .slice A11 s.ins.length c11, .int .i64 s.got.cnt, .int .i64 s.got.sum, .int .i64 s.got.mn, .int .i64 s.got.mx, .int .i64 s.got.fst, .int .i64 s.got.lst]] w11 (IsBB (s = s) w11) := by rw [EC.out]; exact eqWorker_any A6 c6 A11 c11 s s w11.heap.size w11 (Sl.more (Sl.below Hx10.out hb11 (by omega)) (by have := hb11.size; omega)) Ho11.out (Nat.le_refl _) (by omega) (by omega)
  refine hqe.mono ?_
  rintro e w12 ⟨be, hbe, rfl, hb12⟩
  obtain rfl : be = true := hbe.2 (by trivial)
  clear hbe hqe
  have hbz : Below w10.heap.size w10 w12 := hb11.trans (hb12.mono hb11.size)
  refine hK.out _ _ (by exact ⟨rng V10.out hbz s106, rng T10.out hbz s100⟩) (fun hHeld => ?_)
  clear hK K
  try simp only [Act.put, List.setIfInBounds_toArray, List.set_cons_zero, List.set_cons_succ]
  refine wpAnyH_take (i := 4) (oi := { dst := some 26, op := Op.unOp UnOp.not 4 (Operand.tmp 25), type := 4, pos := "exact.go:3430", after := #[{ on := 3, ground := Ground.data }], guard := none }) (v := ?vq4) rfl (by kernel_rfl) (by kernel_rfl) (by kernel_rfl) (fun _ _ _ h => h) (Or.inl ⟨by rfl, ?hyq4⟩) (by assumption) ?restq4
  case hyq4 => intro w hSw; (try dsimp only at hSw); (first | (go_simp; done) | (go_simp; with_reducible rfl) | (with_reducible rfl))
  try simp only [Act.put, List.setIfInBounds_toArray, List.set_cons_zero, List.set_cons_succ]
  refine wpAnyH_done (by kernel_rfl) ?_ _
  refine NoPanic.normal ?_
  clear hHeld bdr zdr
  have b14 : Below x0 w w12 := b10.trans (hbz.mono (by omega))
  clear hb11 hb12 hbz b10
  go_wp2
  go_ret
  exact ⟨rfl, by rw [Hx0.out]; exact b14⟩

set_option maxRecDepth 100000 in
theorem contract (H : Type) (enc : TypeId × Value → H) (W : World) (base : Nat) (args : Array Value) (ds gs : List (DataW H)) (before : List MemPlace)
    (hval0 : ∀ (j : Nat) t v, Tryd.f3.params[j]? = some t → args[j]? = some v → Value.okWide Tryd.prog W .any base t v)
    (hW : DataW.Whole enc Tryd.prog Tryd.f3.params.toList Rows.fnExactWorkerOKSpec.vars false W args.toList ds gs before) (hL : laidMetH Tryd.prog Rows.fnExactWorkerOKRow.laid W) :
    Calls Tryd.prog 3 args W fun e W' => ∃ v, e = .returned v ∧ Rows.fnExactWorkerOKSpec.post enc Tryd.prog Tryd.f3 false true false false W args v W' := by
  obtain ⟨hQ, hz⟩ := paths_in hL List.mem_cons_self
  obtain ⟨_, hz2⟩ := wid_in hL (List.mem_cons_of_mem _ List.mem_cons_self)
  have hval : ∀ (j : Nat) t v, Tryd.f3.params[j]? = some t → args[j]? = some v → Value.okWide Tryd.prog W .any base t v := hval0
  have hW' := hW
  have hlt : ∀ p ∈ before, p.block < W.heap.size := fun p hp => hW.lt p hp
  obtain ⟨p, q, hA0, hV, rfl, hfz, hnd⟩ := hW
  have hA : DataW.TrodAll enc Tryd.prog W 0 (fun _ => true) true Tryd.f3.params.toList args.toList ds p := hA0
  rw [Tryd.params3] at hA hval
  obtain ⟨v0, vs0, d0, ds0, p0, q0, hargs, rfl, rfl, h0, r0⟩ := trodAll_cons hA
  obtain ⟨rfl, rfl, rfl⟩ := trodAll_nil r0
  obtain rfl : args = #[v0] := by cases args; simp_all
  have hV1 : DataW.TrodVars enc Tryd.prog W (fun _ => true) ["loop.example/g00601/impl.tierPaths", "loop.example/g00601/impl.tierWidths"] gs q := hV
  obtain ⟨dg, dh, rfl⟩ : ∃ d e, gs = [d, e] := by
    rcases gs with _ | ⟨d, _ | ⟨e, _ | ⟨f, r⟩⟩⟩
    · cases hV1
    · obtain ⟨_, _, _, _, _, _, _, _, _, _, h, _⟩ := hV1; cases h
    · exact ⟨d, e, rfl⟩
    · obtain ⟨_, _, _, _, _, _, _, _, _, _, ⟨_, _, _, _, _, _, _, _, _, _, h, _⟩, _⟩ := hV1; cases h
  have k0 := h0
  have lt0 : ∀ x ∈ p0, x.block < W.heap.size := by obtain ⟨m, hm⟩ := k0; exact DataW.trod_lt m _ _ _ hm
  obtain ⟨A0, c0, st0, rfl, ob0, ft0⟩ := open_lwrk (hval 0 28 v0 rfl rfl) h0
  clear hA0 hval0
  refine (walk A0 c0 st0 W ob0 ft0 hQ hz).mono fun e W' ⟨he, bel⟩ => ?_
  subst he
  exact ⟨_, rfl, _, _, _, [], _, _, hW', trodAll_mk1 (shut_bool Tryd.underlying4 _), (trodAll_cons_mk (Below.trod laidOut (by kernel_rfl) (of_decide_eq_true (by kernel_rfl)) k0 bel lt0) trodAll_mk0), vars_backs bel ["loop.example/g00601/impl.tierPaths", "loop.example/g00601/impl.tierWidths"] _ _ (by
    intro n hn
    simp only [List.mem_cons, List.not_mem_nil, or_false] at hn
    rcases hn with rfl | rfl
    · exact ⟨_, _, gTab, gTabType, Or.inl rfl, hz⟩
    · exact ⟨_, _, gWidA, gWidTypeA, Or.inr rfl, hz2⟩) hV1 (fun x hx => hlt x (List.mem_append_right _ hx)), bel.frame _, fun h => by cases h⟩

theorem laid_met (os : Os) : laidMet Tryd.prog Rows.fnExactWorkerOKRow.laid ((laidWorldW os).forCall (fun _ _ => 0) ⟨#[], #[.agg #[.int .i64 0, .int .i64 0, .int .i64 0, .int .i64 0, .int .i64 0, .int .i64 0, .int .i64 0, .int .i64 0, .string ByteArray.empty, .slice none 0 0, .int .i64 0, .int .i64 0, .int .i64 0, .int .i64 0, .int .i64 0, .int .i64 0]], []⟩).memory :=
  laidMet_of_run' 8 (by kernel_rfl) (by kernel_rfl)

theorem reads (os : Os) {H : Type} (enc : TypeId × Value → H) : ∃ places, DataW.whole enc Tryd.prog ((laidWorldW os).forCall (fun _ _ => 0) ⟨#[], #[.agg #[.int .i64 0, .int .i64 0, .int .i64 0, .int .i64 0, .int .i64 0, .int .i64 0, .int .i64 0, .int .i64 0, .string ByteArray.empty, .slice none 0 0, .int .i64 0, .int .i64 0, .int .i64 0, .int .i64 0, .int .i64 0, .int .i64 0]], []⟩).memory Tryd.f3.params.toList Rows.fnExactWorkerOKSpec.vars false (#[.agg #[.int .i64 0, .int .i64 0, .int .i64 0, .int .i64 0, .int .i64 0, .int .i64 0, .int .i64 0, .int .i64 0, .string ByteArray.empty, .slice none 0 0, .int .i64 0, .int .i64 0, .int .i64 0, .int .i64 0, .int .i64 0, .int .i64 0]] : Array Value).toList 8 = some ([.agg [.lit (.int .i64 0), .lit (.int .i64 0), .lit (.int .i64 0), .agg [.lit (.int .i64 0), .lit (.int .i64 0), .lit (.int .i64 0), .lit (.int .i64 0), .lit (.int .i64 0), .lit (.string [])], .nil, .agg [.lit (.int .i64 0), .lit (.int .i64 0), .lit (.int .i64 0), .lit (.int .i64 0), .lit (.int .i64 0), .lit (.int .i64 0)]]], [.agg (pl.map fun z => .lit (.string z)), Lib.tabData .i64 [1, 5, 20]], places) :=
  ⟨MemPlace.row ⟨1, 0, none⟩ 3 ++ MemPlace.row ⟨0, 0, none⟩ 3, by kernel_rfl⟩

set_option maxRecDepth 100000 in
theorem lifted (os : Os) (started : os.Started) (H : Type) (enc : TypeId × Value → H) (F : Stop.Interp) :
    ReturnsInHanded {} Tryd.checked os 3 .any ((OpenSpec.ofChange Rows.fnExactWorkerOKSpec).preRow enc Tryd.prog Tryd.f3 Rows.fnExactWorkerOKRow.domain false Rows.fnExactWorkerOKRow.laid) (((OpenSpec.ofChange Rows.fnExactWorkerOKSpec).at F).post enc Tryd.prog Tryd.f3 false true false false) := by
  obtain ⟨places, hx⟩ := reads os enc
  refine returnsInHanded_of_row (C := Tryd.checked) (s := OpenSpec.ofChange Rows.fnExactWorkerOKSpec) own started (by kernel_rfl) Tryd.func3
    (witness_row_at (enc := enc) (C := Tryd.checked) false (laidWorldW os) #[.agg #[.int .i64 0, .int .i64 0, .int .i64 0, .int .i64 0, .int .i64 0, .int .i64 0, .int .i64 0, .int .i64 0, .string ByteArray.empty, .slice none 0 0, .int .i64 0, .int .i64 0, .int .i64 0, .int .i64 0, .int .i64 0, .int .i64 0]] rfl (by kernel_rfl) (by kernel_rfl) (by kernel_rfl)
      (OpenSpec.preRow_of_cond 8 hx (by kernel_rfl) (fun k hk => by cases hk) (by kernel_rfl) (laid_met os))) ?_
  intro W base args ds gs before hval hW _ _ _ hL _ _
  exact contract H enc W base args ds gs before hval hW hL

theorem said : Rows.FnExactWorkerOKSaid :=
  OpenClaim.holds_of_cond 3 Tryd.f3 rfl rfl rfl rfl rfl rfl rfl ⟨rfl, rfl, rfl, rfl, rfl⟩ rfl rfl rfl rfl rfl (by kernel_rfl) Tryd.func3 (by kernel_rfl)
    (of_decide_eq_true (by kernel_rfl)) (by unfold Func.isWrapper; first | (rw [if_pos (by decide +kernel)]; kernel_rfl) | (rw [if_neg (by decide +kernel)]; exact ⟨rfl, rfl⟩))
    (fun os started H enc _ F => by rw [OpenClaim.pre_eq_preRow]; exact lifted os started H enc F)

theorem plain (f : FuncId) (fn : Func) (hf : Tryd.pinned.checked.prog.funcNamed "loop.example/g00601/laws.FnExactWorkerOK" = some f) (hfn : Tryd.pinned.checked.prog.funcs[f]? = some fn) :
    false = Tryd.pinned.checked.prog.looks [] ∧ ∀ (j : Nat) t, fn.params[j]? = some t → Tryd.pinned.checked.prog.wantsStandIn t = false := by
  obtain rfl : f = 3 := Option.some.inj ((show Tryd.prog.funcNamed "loop.example/g00601/laws.FnExactWorkerOK" = some 3 by kernel_rfl).symm.trans hf) |>.symm
  obtain rfl : fn = Tryd.f3 := (Option.some.inj (Tryd.func3.symm.trans hfn)).symm
  refine ⟨by kernel_rfl, fun j t ht => ?_⟩
  rw [Tryd.params3] at ht
  obtain rfl : t = 28 := by simpa using Array.mem_of_getElem? ht
  exact (show Tryd.prog.wantsStandIn 28 = false by kernel_rfl)

theorem proved : Rows.FnExactWorkerOKCardSaid :=
  Claim7.holds_tied_plain_at .later [] _ _ _ _ said (fun _ h => by cases h) (by kernel_rfl) (fun _ h => by cases h) fnExactWorkerOK_row_tie rfl ⟨rfl, rfl⟩ (by kernel_rfl) rfl plain (by kernel_rfl)
#print axioms proved
end Go.Proofs.YtpackpocnonpiaaDoor.fnExactWorkerOK
