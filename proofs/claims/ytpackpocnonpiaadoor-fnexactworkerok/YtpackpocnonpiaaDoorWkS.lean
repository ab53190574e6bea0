/-
  Contract of the model's WorkerOK. Conditions: sizes of keys, lengths.
-/
import Derived.Test.YtpackpocnonpiaaDoorWkR0
import Derived.Test.YtpackpocnonpiaaDoorWkR1
import Derived.Test.YtpackpocnonpiaaDoorWkR2
import Derived.Test.YtpackpocnonpiaaDoorWkR3
import Derived.Deep.DeepCutAuto
namespace Go.Proofs.YtpackpocnonpiaaDoor
open Go.ChangeShapes Go.WideShapes Go.ChangeAt Go.RowKit Go.Deep Go.Joins
set_option linter.unusedVariables false
set_option linter.unusedSimpArgs false

theorem tokP_iff (s : GWrk) : TokP s ↔ inB s.tk (if 1 < s.ph then 1 else 0) 999999 = true := by
  unfold TokP
  rw [inB_iff, inB_iff]
  split <;> omega

set_option maxRecDepth 100000 in
set_option maxHeartbeats 4000000 in
theorem specWorkerOK_any (A : Option Addr) (c : Nat) (s : GWrk) (B : Nat) (w : World) (h : EntsAt w B A s.ins) (hB : B ≤ w.heap.size) (hl : s.ins.length ≤ 1048576) (hi : ∀ e ∈ s.ins, e.key.size ≤ 1048576) (hk : s.job.key.size ≤ 1048576) :
    Calls Tryd.prog 5 #[.agg #[.int .i64 s.id, .int .i64 s.ph, .int .i64 s.tk, .int .i64 s.job.kind, .int .i64 s.job.tok, .int .i64 s.job.tier, .int .i64 s.job.beg, .int .i64 s.job.fin, .string s.job.key, .slice A s.ins.length c, .int .i64 s.got.cnt, .int .i64 s.got.sum, .int .i64 s.got.mn, .int .i64 s.got.mx, .int .i64 s.got.fst, .int .i64 s.got.lst]] w (IsBB (WrkP s) w) := by
  have H := Lib.hid h; clear h
  have HI := Lib.hid hi; clear hi
  go_enter Tryd.func5, Tryd.ntmps5
  go_wp2_with fail
  obtain ⟨W, hW⟩ : ∃ W, W = w.alloc (.cells #[.int .i64 s.id, .int .i64 s.ph, .int .i64 s.tk, .int .i64 s.job.kind, .int .i64 s.job.tok, .int .i64 s.job.tier, .int .i64 s.job.beg, .int .i64 s.job.fin, .string s.job.key, .slice A s.ins.length c, .int .i64 s.got.cnt, .int .i64 s.got.sum, .int .i64 s.got.mn, .int .i64 s.got.mx, .int .i64 s.got.fst, .int .i64 s.got.lst] 35) := ⟨_, rfl⟩
  have t0 : Cells W w.heap.size 0 [.int .i64 s.id, .int .i64 s.ph, .int .i64 s.tk, .int .i64 s.job.kind, .int .i64 s.job.tok, .int .i64 s.job.tier, .int .i64 s.job.beg, .int .i64 s.job.fin, .string s.job.key, .slice A s.ins.length c, .int .i64 s.got.cnt, .int .i64 s.got.sum, .int .i64 s.got.mn, .int .i64 s.got.mx, .int .i64 s.got.fst, .int .i64 s.got.lst] := by rw [hW]; exact Cells.new _ _ _
  have b0 : Below w.heap.size w W := by rw [hW]; exact bal (Below.refl _ _) _
  have s0 : w.heap.size < W.heap.size := by rw [hW]; simp
  rw [← hW]
  clear hW
  generalize (Value.agg #[.int .i64 s.id, .int .i64 s.ph, .int .i64 s.tk, .int .i64 s.job.kind, .int .i64 s.job.tok, .int .i64 s.job.tier, .int .i64 s.job.beg, .int .i64 s.job.fin, .string s.job.key, .slice A s.ins.length c, .int .i64 s.got.cnt, .int .i64 s.got.sum, .int .i64 s.got.mn, .int .i64 s.got.mx, .int .i64 s.got.fst, .int .i64 s.got.lst]) = va
  have T0 := Lib.hid t0; clear t0
  have HB : Hid (∀ wr, Below W.heap.size W wr → Below w.heap.size w wr) := Lib.hid (fun wr h => b0.trans (h.mono b0.size))
  have hB0 : Hid (B ≤ w.heap.size) := Lib.hid hB
  clear hB
  generalize hx0 : w.heap.size = x0 at *
  have Hx0 := Lib.hid hx0; clear hx0
  go_loopw [3] (fun i wr => ∃ k : Nat, k ≤ s.ins.length ∧ i = .int .i64 k ∧ Hid (∀ e ∈ s.ins.take k, EntP e) ∧ Below W.heap.size W wr) (fun i _ => s.ins.length - (intOf i).toNat)
  case atStart => exact ⟨0, by omega, rfl, Lib.hid (by simp), Below.refl _ _⟩
  case round =>
    obtain ⟨k, hk2, rfl, HN, hb⟩ := hrel
    have TW := Lib.hid (T0.out.below hb s0)
    have sw : x0 < wr.heap.size := by have := hb.size; omega
    have c9 : wr.cell? ⟨x0, 9, none⟩ = some (.slice A s.ins.length c) := by have := TW.out 9 _ rfl; simpa using this
    by_cases hlt : k < s.ins.length
    · obtain ⟨b1, o1, rfl, hb1, p0, p1, p2, p3⟩ := EntsAt.one (Sl.below H.out (HB.out _ hb) hB0.out) hlt
      have hks := HI.out _ (List.getElem_mem hlt)
      have HT : Hid (s.ins.take (k + 1) = s.ins.take k ++ [s.ins[k]]) := Lib.hid (List.take_succ_eq_append_getElem hlt)
      have HM : Hid (s.ins[k] ∈ s.ins) := Lib.hid (List.getElem_mem hlt)
      generalize s.ins[k] = e at *
      go_wp2_with fail
      have bz : Below wr.heap.size wr (wr.alloc (.cells #[.int .i64 e.tier, .int .i64 e.beg, .int .i64 e.fin, .string e.key] 42)) := bal (Below.refl _ _) _
      generalize wr.alloc (.cells #[.int .i64 e.tier, .int .i64 e.beg, .int .i64 e.fin, .string e.key] 42) = wz at *
      refine (l06Tiered_any ⟨0, 0, e.tier, e.beg, e.fin, e.key⟩ 0 wz hks).mono ?_
      rintro r w3 ⟨v, hv, rfl, hb3⟩
      have hbz : Below W.heap.size W w3 := hb.trans ((bnext bz hb3).mono hb.size)
      clear hb3 bz p0 p1 p2 p3 c9
      cases v
      · have HE : Hid (¬ WrkP s) := Lib.hid (fun h => by
          have h1 : EntP e := h.2.2.2.2.1.2 e HM.out
          have := hv.2 ⟨h1, by have := h1.tier; simp; omega⟩
          cases this)
        clear hv
        go_wp2
        go_ret
        exact ⟨false, ⟨fun h => (by cases h), fun h => absurd h HE.out⟩, rfl, by rw [Hx0.out]; exact HB.out _ hbz⟩
      · have hN : ∀ e ∈ s.ins.take (k + 1), EntP e := by
          rw [HT.out]
          intro x hx
          rcases List.mem_append.1 hx with hx | hx
          · exact HN.out x hx
          · simp at hx; subst hx
            exact (hv.1 rfl).1
        have HN2 := Lib.hid hN; clear hN hv
        go_wp2_with fail
        go_roundw
        case rel => exact ⟨k + 1, by omega, by go_num, HN2, hbz⟩
        case measure => simp [intOf]; omega
    · have hN : ∀ e ∈ s.ins, EntP e := by have := HN.out; rwa [List.take_of_length_le (by omega)] at this
      have HA := Lib.hid hN; clear hN HN
      have c1 : wr.cell? ⟨x0, 1, none⟩ = some (.int .i64 s.ph) := by have := TW.out 1 _ rfl; simpa using this
      have HW : Hid (WrkP s ↔ (inB s.id 0 9 = true ∧ inB s.ph 0 7 = true ∧ TokP s ∧ JobP s ∧ (s.ins.length ≤ 300 ∧ ∀ e ∈ s.ins, EntP e) ∧ AggP s.got ∧ s.got.cnt ≤ 1000)) := Lib.hid Iff.rfl
      have bW : Below x0 w wr := HB.out _ hb
      go_wp2_with fail
      refine (inL_any _ _ _ _).mono ?_
      rintro r w9 ⟨rfl, rfl⟩
      clear c1 c9 hb
      go_upto_region 8 with fail
      cases d0 : inB s.id 0 9
      · have HNO : Hid (¬ WrkP s) := Lib.hid (fun h => by have := h.1; rw [d0] at this; cases this)
        refine reg8_1 A c s x0 wr _ _ _ _ _ _ _ _ _ _ _ _ _ _ _ _ _ _ _ _ _ _ _ _ _ _ _ _ _ _ _ _ _ _ _ _ _ _ _ _ _ _ _ _ _ _ _ _ _ _ _ _ _ _ _ _ _ _ _ _ _ _ _ _ _ _ _ _ _ _ _ _ _ _ _ _ _ _ _ _ _ _ _ _ _ _ _ _ _ _ _ _ _ _ _ _ _ _ _ _ hk TW.out sw d0 ?_
        intro tm w' htm hbt
        have bz : Below x0 w w' := bW.trans (hbt.mono (Nat.le_of_lt sw))
        go_wp2
        go_ret
        exact ⟨false, ⟨fun h => (by cases h), fun h => absurd h HNO.out⟩, by rw [htm], by rw [Hx0.out]; exact bz⟩
      cases d1 : inB s.ph 0 7
      · have HNO : Hid (¬ WrkP s) := Lib.hid (fun h => by have := h.2.1; rw [d1] at this; cases this)
        refine reg8_2 A c s x0 wr _ _ _ _ _ _ _ _ _ _ _ _ _ _ _ _ _ _ _ _ _ _ _ _ _ _ _ _ _ _ _ _ _ _ _ _ _ _ _ _ _ _ _ _ _ _ _ _ _ _ _ _ _ _ _ _ _ _ _ _ _ _ _ _ _ _ _ _ _ _ _ _ _ _ _ _ _ _ _ _ _ _ _ _ _ _ _ _ _ _ _ _ _ _ _ _ _ _ _ _ hk TW.out sw d0 d1 ?_
        intro tm w' htm hbt
        have bz : Below x0 w w' := bW.trans (hbt.mono (Nat.le_of_lt sw))
        go_wp2
        go_ret
        exact ⟨false, ⟨fun h => (by cases h), fun h => absurd h HNO.out⟩, by rw [htm], by rw [Hx0.out]; exact bz⟩
      cases d2 : inB s.tk (if 1 < s.ph then 1 else 0) 999999
      · have HNO : Hid (¬ WrkP s) := Lib.hid (fun h => by have := (tokP_iff s).1 h.2.2.1; rw [d2] at this; cases this)
        refine reg8_3 A c s x0 wr _ _ _ _ _ _ _ _ _ _ _ _ _ _ _ _ _ _ _ _ _ _ _ _ _ _ _ _ _ _ _ _ _ _ _ _ _ _ _ _ _ _ _ _ _ _ _ _ _ _ _ _ _ _ _ _ _ _ _ _ _ _ _ _ _ _ _ _ _ _ _ _ _ _ _ _ _ _ _ _ _ _ _ _ _ _ _ _ _ _ _ _ _ _ _ _ _ _ _ _ hk TW.out sw d0 d1 d2 ?_
        intro tm w' htm hbt
        have bz : Below x0 w w' := bW.trans (hbt.mono (Nat.le_of_lt sw))
        go_wp2
        go_ret
        exact ⟨false, ⟨fun h => (by cases h), fun h => absurd h HNO.out⟩, by rw [htm], by rw [Hx0.out]; exact bz⟩
      have ht := (tokP_iff s).2 d2
      cases dj : inB s.ph 4 6
      · have hj : JobP s := fun h => by rw [dj] at h; cases h
        by_cases d4 : AggP s.got
        rotate_left
        · have HNO : Hid (¬ WrkP s) := Lib.hid (fun h => d4 h.2.2.2.2.2.1)
          refine reg8_a1 A c s x0 wr true _ _ _ _ _ _ _ _ _ _ _ _ _ _ _ _ _ _ _ _ _ _ _ _ _ _ _ _ _ _ _ _ _ _ _ _ _ _ _ _ _ _ _ _ _ _ _ _ _ _ _ _ _ _ _ _ _ _ _ _ _ _ _ _ _ _ _ _ _ _ _ _ _ _ _ _ _ _ _ _ _ _ _ _ _ _ _ _ _ _ _ _ _ _ _ _ _ _ _ hk TW.out sw d0 d1 d2 d4 ?_
          intro tm w' htm hbt
          have bz : Below x0 w w' := bW.trans (hbt.mono (Nat.le_of_lt sw))
          go_wp2
          go_ret
          exact ⟨false, ⟨fun h => (by cases h), fun h => absurd h HNO.out⟩, by rw [htm], by rw [Hx0.out]; exact bz⟩
        cases ecnt : decide (s.got.cnt ≤ 1000)
        · have HNO : Hid (¬ WrkP s) := Lib.hid (fun h => by have := h.2.2.2.2.2.2; simp at ecnt; omega)
          refine reg8_a2 A c s x0 wr true _ _ _ _ _ _ _ _ _ _ _ _ _ _ _ _ _ _ _ _ _ _ _ _ _ _ _ _ _ _ _ _ _ _ _ _ _ _ _ _ _ _ _ _ _ _ _ _ _ _ _ _ _ _ _ _ _ _ _ _ _ _ _ _ _ _ _ _ _ _ _ _ _ _ _ _ _ _ _ _ _ _ _ _ _ _ _ _ _ _ _ _ _ _ _ _ _ _ _ hk TW.out sw d0 d1 d2 d4 ecnt ?_
          intro tm w' htm hbt
          have bz : Below x0 w w' := bW.trans (hbt.mono (Nat.le_of_lt sw))
          go_wp2
          go_ret
          exact ⟨false, ⟨fun h => (by cases h), fun h => absurd h HNO.out⟩, by rw [htm], by rw [Hx0.out]; exact bz⟩
        · have HNO : Hid (decide ((s.ins.length : Int) ≤ 300) = true ↔ WrkP s) := Lib.hid (⟨fun h => ⟨d0, d1, ht, hj, ⟨by have := of_decide_eq_true h; omega, HA.out⟩, d4, of_decide_eq_true ecnt⟩, fun h => decide_eq_true (by have := h.2.2.2.2.1.1; omega)⟩)
          refine reg8_a3 A c s x0 wr true _ _ _ _ _ _ _ _ _ _ _ _ _ _ _ _ _ _ _ _ _ _ _ _ _ _ _ _ _ _ _ _ _ _ _ _ _ _ _ _ _ _ _ _ _ _ _ _ _ _ _ _ _ _ _ _ _ _ _ _ _ _ _ _ _ _ _ _ _ _ _ _ _ _ _ _ _ _ _ _ _ _ _ _ _ _ _ _ _ _ _ _ _ _ _ _ _ _ _ hk TW.out sw d0 d1 d2 d4 ecnt ?_
          intro tm w' htm hbt
          have bz : Below x0 w w' := bW.trans (hbt.mono (Nat.le_of_lt sw))
          go_wp2
          go_ret
          exact ⟨decide ((s.ins.length : Int) ≤ 300), HNO.out, by rw [htm], by rw [Hx0.out]; exact bz⟩
      by_cases d3 : RecP s.job
      rotate_left
      · have HNO : Hid (¬ WrkP s) := Lib.hid (fun h => d3 (h.2.2.2.1 dj).2.2)
        refine reg8_b A c s x0 wr true _ _ _ _ _ _ _ _ _ _ _ _ _ _ _ _ _ _ _ _ _ _ _ _ _ _ _ _ _ _ _ _ _ _ _ _ _ _ _ _ _ _ _ _ _ _ _ _ _ _ _ _ _ _ _ _ _ _ _ _ _ _ _ _ _ _ _ _ _ _ _ _ _ _ _ _ _ _ _ _ _ _ _ _ _ _ _ _ _ _ _ _ _ _ _ _ _ _ _ hk TW.out sw d0 d1 d2 d3 ?_
        intro tm w' htm hbt
        have bz : Below x0 w w' := bW.trans (hbt.mono (Nat.le_of_lt sw))
        go_wp2
        go_ret
        exact ⟨false, ⟨fun h => (by cases h), fun h => absurd h HNO.out⟩, by rw [htm], by rw [Hx0.out]; exact bz⟩
      cases etok : (s.job.tok == s.tk)
      · have HNO : Hid (¬ WrkP s) := Lib.hid (fun h => by have := (h.2.2.2.1 dj).2.1; simp at etok; exact etok this)
        refine reg8_c A c s x0 wr true _ _ _ _ _ _ _ _ _ _ _ _ _ _ _ _ _ _ _ _ _ _ _ _ _ _ _ _ _ _ _ _ _ _ _ _ _ _ _ _ _ _ _ _ _ _ _ _ _ _ _ _ _ _ _ _ _ _ _ _ _ _ _ _ _ _ _ _ _ _ _ _ _ _ _ _ _ _ _ _ _ _ _ _ _ _ _ _ _ _ _ _ _ _ _ _ _ _ _ hk TW.out sw d0 d1 d2 d3 etok ?_
        intro tm w' htm hbt
        have bz : Below x0 w w' := bW.trans (hbt.mono (Nat.le_of_lt sw))
        go_wp2
        go_ret
        exact ⟨false, ⟨fun h => (by cases h), fun h => absurd h HNO.out⟩, by rw [htm], by rw [Hx0.out]; exact bz⟩
      have htk : s.job.tok = s.tk := by simpa using etok
      cases ek3 : (s.job.kind == 3)
      rotate_left
      · have hj : JobP s := fun _ => ⟨.inl (by simpa using ek3), htk, d3⟩
        by_cases d4 : AggP s.got
        rotate_left
        · have HNO : Hid (¬ WrkP s) := Lib.hid (fun h => d4 h.2.2.2.2.2.1)
          refine reg8_f1 A c s x0 wr true _ _ _ _ _ _ _ _ _ _ _ _ _ _ _ _ _ _ _ _ _ _ _ _ _ _ _ _ _ _ _ _ _ _ _ _ _ _ _ _ _ _ _ _ _ _ _ _ _ _ _ _ _ _ _ _ _ _ _ _ _ _ _ _ _ _ _ _ _ _ _ _ _ _ _ _ _ _ _ _ _ _ _ _ _ _ _ _ _ _ _ _ _ _ _ _ _ _ _ hk TW.out sw d0 d1 d2 d3 etok ek3 d4 ?_
          intro tm w' htm hbt
          have bz : Below x0 w w' := bW.trans (hbt.mono (Nat.le_of_lt sw))
          go_wp2
          go_ret
          exact ⟨false, ⟨fun h => (by cases h), fun h => absurd h HNO.out⟩, by rw [htm], by rw [Hx0.out]; exact bz⟩
        cases ecnt : decide (s.got.cnt ≤ 1000)
        · have HNO : Hid (¬ WrkP s) := Lib.hid (fun h => by have := h.2.2.2.2.2.2; simp at ecnt; omega)
          refine reg8_f2 A c s x0 wr true _ _ _ _ _ _ _ _ _ _ _ _ _ _ _ _ _ _ _ _ _ _ _ _ _ _ _ _ _ _ _ _ _ _ _ _ _ _ _ _ _ _ _ _ _ _ _ _ _ _ _ _ _ _ _ _ _ _ _ _ _ _ _ _ _ _ _ _ _ _ _ _ _ _ _ _ _ _ _ _ _ _ _ _ _ _ _ _ _ _ _ _ _ _ _ _ _ _ _ hk TW.out sw d0 d1 d2 d3 etok ek3 d4 ecnt ?_
          intro tm w' htm hbt
          have bz : Below x0 w w' := bW.trans (hbt.mono (Nat.le_of_lt sw))
          go_wp2
          go_ret
          exact ⟨false, ⟨fun h => (by cases h), fun h => absurd h HNO.out⟩, by rw [htm], by rw [Hx0.out]; exact bz⟩
        · have HNO : Hid (decide ((s.ins.length : Int) ≤ 300) = true ↔ WrkP s) := Lib.hid (⟨fun h => ⟨d0, d1, ht, hj, ⟨by have := of_decide_eq_true h; omega, HA.out⟩, d4, of_decide_eq_true ecnt⟩, fun h => decide_eq_true (by have := h.2.2.2.2.1.1; omega)⟩)
          refine reg8_f3 A c s x0 wr true _ _ _ _ _ _ _ _ _ _ _ _ _ _ _ _ _ _ _ _ _ _ _ _ _ _ _ _ _ _ _ _ _ _ _ _ _ _ _ _ _ _ _ _ _ _ _ _ _ _ _ _ _ _ _ _ _ _ _ _ _ _ _ _ _ _ _ _ _ _ _ _ _ _ _ _ _ _ _ _ _ _ _ _ _ _ _ _ _ _ _ _ _ _ _ _ _ _ _ hk TW.out sw d0 d1 d2 d3 etok ek3 d4 ecnt ?_
          intro tm w' htm hbt
          have bz : Below x0 w w' := bW.trans (hbt.mono (Nat.le_of_lt sw))
          go_wp2
          go_ret
          exact ⟨decide ((s.ins.length : Int) ≤ 300), HNO.out, by rw [htm], by rw [Hx0.out]; exact bz⟩
      cases ep6 : (s.ph == 6)
      · have HNO : Hid (¬ WrkP s) := Lib.hid (fun h => by have := (h.2.2.2.1 dj).1; simp at ek3 ep6; rcases this with h1 | ⟨h1, h2⟩; (· exact ek3 h1); (· exact ep6 h2))
        refine reg8_d A c s x0 wr true _ _ _ _ _ _ _ _ _ _ _ _ _ _ _ _ _ _ _ _ _ _ _ _ _ _ _ _ _ _ _ _ _ _ _ _ _ _ _ _ _ _ _ _ _ _ _ _ _ _ _ _ _ _ _ _ _ _ _ _ _ _ _ _ _ _ _ _ _ _ _ _ _ _ _ _ _ _ _ _ _ _ _ _ _ _ _ _ _ _ _ _ _ _ _ _ _ _ _ hk TW.out sw d0 d1 d2 d3 etok ek3 ep6 ?_
        intro tm w' htm hbt
        have bz : Below x0 w w' := bW.trans (hbt.mono (Nat.le_of_lt sw))
        go_wp2
        go_ret
        exact ⟨false, ⟨fun h => (by cases h), fun h => absurd h HNO.out⟩, by rw [htm], by rw [Hx0.out]; exact bz⟩
      cases ek4 : (s.job.kind == 4)
      · have HNO : Hid (¬ WrkP s) := Lib.hid (fun h => by have := (h.2.2.2.1 dj).1; simp at ek3 ek4; rcases this with h1 | ⟨h1, h2⟩; (· exact ek3 h1); (· exact ek4 h1))
        refine reg8_e A c s x0 wr true _ _ _ _ _ _ _ _ _ _ _ _ _ _ _ _ _ _ _ _ _ _ _ _ _ _ _ _ _ _ _ _ _ _ _ _ _ _ _ _ _ _ _ _ _ _ _ _ _ _ _ _ _ _ _ _ _ _ _ _ _ _ _ _ _ _ _ _ _ _ _ _ _ _ _ _ _ _ _ _ _ _ _ _ _ _ _ _ _ _ _ _ _ _ _ _ _ _ _ hk TW.out sw d0 d1 d2 d3 etok ek3 ep6 ek4 ?_
        intro tm w' htm hbt
        have bz : Below x0 w w' := bW.trans (hbt.mono (Nat.le_of_lt sw))
        go_wp2
        go_ret
        exact ⟨false, ⟨fun h => (by cases h), fun h => absurd h HNO.out⟩, by rw [htm], by rw [Hx0.out]; exact bz⟩
      have hj : JobP s := fun _ => ⟨.inr ⟨by simpa using ek4, by simpa using ep6⟩, htk, d3⟩
      by_cases d4 : AggP s.got
      rotate_left
      · have HNO : Hid (¬ WrkP s) := Lib.hid (fun h => d4 h.2.2.2.2.2.1)
        refine reg8_g1 A c s x0 wr true _ _ _ _ _ _ _ _ _ _ _ _ _ _ _ _ _ _ _ _ _ _ _ _ _ _ _ _ _ _ _ _ _ _ _ _ _ _ _ _ _ _ _ _ _ _ _ _ _ _ _ _ _ _ _ _ _ _ _ _ _ _ _ _ _ _ _ _ _ _ _ _ _ _ _ _ _ _ _ _ _ _ _ _ _ _ _ _ _ _ _ _ _ _ _ _ _ _ _ hk TW.out sw d0 d1 d2 d3 etok ek3 ep6 ek4 d4 ?_
        intro tm w' htm hbt
        have bz : Below x0 w w' := bW.trans (hbt.mono (Nat.le_of_lt sw))
        go_wp2
        go_ret
        exact ⟨false, ⟨fun h => (by cases h), fun h => absurd h HNO.out⟩, by rw [htm], by rw [Hx0.out]; exact bz⟩
      cases ecnt : decide (s.got.cnt ≤ 1000)
      · have HNO : Hid (¬ WrkP s) := Lib.hid (fun h => by have := h.2.2.2.2.2.2; simp at ecnt; omega)
        refine reg8_g2 A c s x0 wr true _ _ _ _ _ _ _ _ _ _ _ _ _ _ _ _ _ _ _ _ _ _ _ _ _ _ _ _ _ _ _ _ _ _ _ _ _ _ _ _ _ _ _ _ _ _ _ _ _ _ _ _ _ _ _ _ _ _ _ _ _ _ _ _ _ _ _ _ _ _ _ _ _ _ _ _ _ _ _ _ _ _ _ _ _ _ _ _ _ _ _ _ _ _ _ _ _ _ _ hk TW.out sw d0 d1 d2 d3 etok ek3 ep6 ek4 d4 ecnt ?_
        intro tm w' htm hbt
        have bz : Below x0 w w' := bW.trans (hbt.mono (Nat.le_of_lt sw))
        go_wp2
        go_ret
        exact ⟨false, ⟨fun h => (by cases h), fun h => absurd h HNO.out⟩, by rw [htm], by rw [Hx0.out]; exact bz⟩
      · have HNO : Hid (decide ((s.ins.length : Int) ≤ 300) = true ↔ WrkP s) := Lib.hid (⟨fun h => ⟨d0, d1, ht, hj, ⟨by have := of_decide_eq_true h; omega, HA.out⟩, d4, of_decide_eq_true ecnt⟩, fun h => decide_eq_true (by have := h.2.2.2.2.1.1; omega)⟩)
        refine reg8_g3 A c s x0 wr true _ _ _ _ _ _ _ _ _ _ _ _ _ _ _ _ _ _ _ _ _ _ _ _ _ _ _ _ _ _ _ _ _ _ _ _ _ _ _ _ _ _ _ _ _ _ _ _ _ _ _ _ _ _ _ _ _ _ _ _ _ _ _ _ _ _ _ _ _ _ _ _ _ _ _ _ _ _ _ _ _ _ _ _ _ _ _ _ _ _ _ _ _ _ _ _ _ _ _ hk TW.out sw d0 d1 d2 d3 etok ek3 ep6 ek4 d4 ecnt ?_
        intro tm w' htm hbt
        have bz : Below x0 w w' := bW.trans (hbt.mono (Nat.le_of_lt sw))
        go_wp2
        go_ret
        exact ⟨decide ((s.ins.length : Int) ≤ 300), HNO.out, by rw [htm], by rw [Hx0.out]; exact bz⟩

end Go.Proofs.YtpackpocnonpiaaDoor
