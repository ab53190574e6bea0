/-
  Contracts of SameWorker of both packages: true just where all is alike. Conditions: none beside lengths.
-/
import Derived.Test.YtpackpocnonpiaaWrk
import Derived.Test.YtpackpocnonpiaaStrEq
namespace Go.Proofs.Ytpackpocnonpiaa
open Go.ChangeShapes Go.WideShapes Go.ChangeAt Go.RowKit Go.Deep Go.Joins
set_option linter.unusedVariables false
set_option linter.unusedSimpArgs false

/-- which of the parts of two workers is the first to differ, in the forms that a walk asks -/
theorem wrk_cases (s t : GWrk) : (s.id = t.id ∧ s.ph = t.ph ∧ s.tk = t.tk ∧ s.job = t.job ∧ s.got = t.got) ∨ (s ≠ t ∧ (s.id == t.id) = false) ∨ (s ≠ t ∧ (s.id == t.id) = true ∧ (s.ph == t.ph) = false) ∨ (s ≠ t ∧ (s.id == t.id) = true ∧ (s.ph == t.ph) = true ∧ (s.tk == t.tk) = false) ∨ (s ≠ t ∧ (s.id == t.id) = true ∧ (s.ph == t.ph) = true ∧ (s.tk == t.tk) = true ∧ decide (s.job = t.job) = false) ∨ (s ≠ t ∧ (s.id == t.id) = true ∧ (s.ph == t.ph) = true ∧ (s.tk == t.tk) = true ∧ decide (s.job = t.job) = true ∧ decide (s.got = t.got) = false) := by
  by_cases h0 : s.id = t.id
  rotate_left
  · exact .inr (.inl ⟨fun e => h0 (by rw [e]), by simpa using h0⟩)
  by_cases h1 : s.ph = t.ph
  rotate_left
  · exact .inr (.inr (.inl ⟨fun e => h1 (by rw [e]), by simpa using h0, by simpa using h1⟩))
  by_cases h2 : s.tk = t.tk
  rotate_left
  · exact .inr (.inr (.inr (.inl ⟨fun e => h2 (by rw [e]), by simpa using h0, by simpa using h1, by simpa using h2⟩)))
  by_cases h3 : s.job = t.job
  rotate_left
  · exact .inr (.inr (.inr (.inr (.inl ⟨fun e => h3 (by rw [e]), by simpa using h0, by simpa using h1, by simpa using h2, by simpa using h3⟩))))
  by_cases h4 : s.got = t.got
  rotate_left
  · exact .inr (.inr (.inr (.inr (.inr (⟨fun e => h4 (by rw [e]), by simpa using h0, by simpa using h1, by simpa using h2, by simpa using h3, by simpa using h4⟩)))))
  exact .inl ⟨h0, h1, h2, h3, h4⟩

set_option maxRecDepth 100000 in
theorem sameWorker_any (A : Option Addr) (c : Nat) (D : Option Addr) (d : Nat) (s t : GWrk) (B : Nat) (w : World) (h : EntsAt w B A s.ins) (k : EntsAt w B D t.ins) (hB : B ≤ w.heap.size) (hl : s.ins.length ≤ 4611686018427387904) (kl : t.ins.length ≤ 4611686018427387904) :
    Calls Try.prog 13 #[.agg #[.int .i64 s.id, .int .i64 s.ph, .int .i64 s.tk, .int .i64 s.job.kind, .int .i64 s.job.tok, .int .i64 s.job.tier, .int .i64 s.job.beg, .int .i64 s.job.fin, .string s.job.key, .slice A s.ins.length c, .int .i64 s.got.cnt, .int .i64 s.got.sum, .int .i64 s.got.mn, .int .i64 s.got.mx, .int .i64 s.got.fst, .int .i64 s.got.lst], .agg #[.int .i64 t.id, .int .i64 t.ph, .int .i64 t.tk, .int .i64 t.job.kind, .int .i64 t.job.tok, .int .i64 t.job.tier, .int .i64 t.job.beg, .int .i64 t.job.fin, .string t.job.key, .slice D t.ins.length d, .int .i64 t.got.cnt, .int .i64 t.got.sum, .int .i64 t.got.mn, .int .i64 t.got.mx, .int .i64 t.got.fst, .int .i64 t.got.lst]] w (IsBB (s = t) w) := by
  have Bw : ∀ o1 o2, Below w.heap.size w ((w.alloc o1).alloc o2) := fun o1 o2 => bal (bal (Below.refl _ _) _) _
  have BW := Lib.hid Bw; clear Bw
  have H := Lib.hid h; clear h
  have K := Lib.hid k; clear k
  rcases wrk_cases s t with ⟨e0, e1, e2, e3, e4⟩ | ⟨hn, g0⟩ | ⟨hn, g0, g1⟩ | ⟨hn, g0, g1, g2⟩ | ⟨hn, g0, g1, g2, g3⟩ | ⟨hn, g0, g1, g2, g3, g4⟩
  · have HE : Hid (s = t ↔ s.ins = t.ins) := Lib.hid (by
      constructor
      · rintro rfl; rfl
      · rintro e5; clear H K; cases s; cases t; simp_all)
    obtain ⟨id, ph, tk, job, ins, got⟩ := s
    obtain ⟨id', ph', tk', job', ins', got'⟩ := t
    dsimp only at *
    subst e0 e1 e2 e3 e4
    have k3 := eqRecV job job true (by simp)
    have k4 := eqAggV got got true (by simp)
    go_enter Try.func13, Try.ntmps13
    go_wp2_with fail
    refine (slicesEqEnt_any A D c d ins ins' B _ (Sl.below H.out (BW.out _ _) hB) (Sl.below K.out (BW.out _ _) hB) (by simp; omega) hl kl).mono ?_
    rintro e w1 ⟨b1, hb1, rfl, hB1⟩
    have hbw : Below w.heap.size w w1 := (BW.out _ _).trans (hB1.mono (by simp <;> omega))
    have HF : Hid (b1 = true ↔ ins = ins') := Lib.hid hb1
    clear hb1 hB1
    go_wp2
    go_ret
    exact ⟨b1, by rw [HE.out]; exact HF.out, rfl, hbw⟩
  · clear H K
    have n0 : (s.id != t.id) = true := by simp [bne, g0]
    have Hn := Lib.hid hn; clear hn
    go_enter Try.func13, Try.ntmps13
    go_wp2
    go_ret
    exact ⟨false, by simp [Hn.out], rfl, BW.out _ _⟩
  · clear H K
    have n0 : (s.id != t.id) = false := by simp [bne, g0]
    have n1 : (s.ph != t.ph) = true := by simp [bne, g1]
    have Hn := Lib.hid hn; clear hn
    go_enter Try.func13, Try.ntmps13
    go_wp2
    go_ret
    exact ⟨false, by simp [Hn.out], rfl, BW.out _ _⟩
  · clear H K
    have n0 : (s.id != t.id) = false := by simp [bne, g0]
    have n1 : (s.ph != t.ph) = false := by simp [bne, g1]
    have n2 : (s.tk != t.tk) = true := by simp [bne, g2]
    have Hn := Lib.hid hn; clear hn
    go_enter Try.func13, Try.ntmps13
    go_wp2
    go_ret
    exact ⟨false, by simp [Hn.out], rfl, BW.out _ _⟩
  · clear H K
    have n0 : (s.id != t.id) = false := by simp [bne, g0]
    have n1 : (s.ph != t.ph) = false := by simp [bne, g1]
    have n2 : (s.tk != t.tk) = false := by simp [bne, g2]
    have k3 := eqRecV s.job t.job _ g3
    clear g3
    have Hn := Lib.hid hn; clear hn
    go_enter Try.func13, Try.ntmps13
    go_wp2
    go_ret
    exact ⟨false, by simp [Hn.out], rfl, BW.out _ _⟩
  · clear H K
    have n0 : (s.id != t.id) = false := by simp [bne, g0]
    have n1 : (s.ph != t.ph) = false := by simp [bne, g1]
    have n2 : (s.tk != t.tk) = false := by simp [bne, g2]
    have k3 := eqRecV s.job t.job _ g3
    have k4 := eqAggV s.got t.got _ g4
    clear g3 g4
    have Hn := Lib.hid hn; clear hn
    go_enter Try.func13, Try.ntmps13
    go_wp2
    go_ret
    exact ⟨false, by simp [Hn.out], rfl, BW.out _ _⟩

theorem bdrewB' {B : Nat} {a w : World} (h : Below B a w) (n : Nat) : Below B a (w.drewN n) := ⟨h.os, h.tape, h.output, h.size, h.block⟩

set_option maxRecDepth 100000 in
set_option maxHeartbeats 2000000 in
theorem specSameWorker_any (A : Option Addr) (c : Nat) (D : Option Addr) (d : Nat) (s t : GWrk) (B : Nat) (w : World) (h : EntsAt w B A s.ins) (k : EntsAt w B D t.ins) (hB : B ≤ w.heap.size) (hl : s.ins.length ≤ 4611686018427387904) (kl : t.ins.length ≤ 4611686018427387904) :
    Calls Try.prog 11 #[.agg #[.int .i64 s.id, .int .i64 s.ph, .int .i64 s.tk, .int .i64 s.job.kind, .int .i64 s.job.tok, .int .i64 s.job.tier, .int .i64 s.job.beg, .int .i64 s.job.fin, .string s.job.key, .slice A s.ins.length c, .int .i64 s.got.cnt, .int .i64 s.got.sum, .int .i64 s.got.mn, .int .i64 s.got.mx, .int .i64 s.got.fst, .int .i64 s.got.lst], .agg #[.int .i64 t.id, .int .i64 t.ph, .int .i64 t.tk, .int .i64 t.job.kind, .int .i64 t.job.tok, .int .i64 t.job.tier, .int .i64 t.job.beg, .int .i64 t.job.fin, .string t.job.key, .slice D t.ins.length d, .int .i64 t.got.cnt, .int .i64 t.got.sum, .int .i64 t.got.mn, .int .i64 t.got.mx, .int .i64 t.got.fst, .int .i64 t.got.lst]] w (IsBB (s = t) w) := by
  have Bw : ∀ o1 o2, Below w.heap.size w ((w.alloc o1).alloc o2) := fun o1 o2 => bal (bal (Below.refl _ _) _) _
  have BW := Lib.hid Bw; clear Bw
  have H := Lib.hid h; clear h
  have K := Lib.hid k; clear k
  rcases wrk_cases s t with ⟨e0, e1, e2, e3, e4⟩ | ⟨hn, g0⟩ | ⟨hn, g0, g1⟩ | ⟨hn, g0, g1, g2⟩ | ⟨hn, g0, g1, g2, g3⟩ | ⟨hn, g0, g1, g2, g3, g4⟩
  · have HE : Hid (s = t ↔ s.ins = t.ins) := Lib.hid (by
      constructor
      · rintro rfl; rfl
      · rintro e5; clear H K; cases s; cases t; simp_all)
    obtain ⟨id, ph, tk, job, ins, got⟩ := s
    obtain ⟨id', ph', tk', job', ins', got'⟩ := t
    dsimp only at *
    subst e0 e1 e2 e3 e4
    have k3 := eqRecV job job true (by simp)
    have k4 := eqAggV got got true (by simp)
    by_cases l0 : ins.length = ins'.length
    rotate_left
    · have u0 : ((ins.length : Int) != (ins'.length : Int)) = true := by simp; omega
      have u1 : ((ins.length : Int) == (ins'.length : Int)) = false := by simp; omega
      have Hn : Hid (¬ (ins = ins')) := Lib.hid (fun h => l0 (by rw [h]))
      clear l0 H K
      go_enter Try.func11, Try.ntmps11
      go_wp2
      go_ret
      exact ⟨false, by rw [HE.out]; simp [Hn.out], rfl, BW.out _ _⟩
    have u0 : ((ins.length : Int) != (ins'.length : Int)) = false := by simp; omega
    have u1 : ((ins.length : Int) == (ins'.length : Int)) = true := by simp; omega
    have HLE := Lib.hid l0
    clear l0
    go_enter Try.func11, Try.ntmps11
    go_wp2_with fail
    obtain ⟨W, hW⟩ : ∃ W, W = (w.alloc (.cells #[.int .i64 id, .int .i64 ph, .int .i64 tk, .int .i64 job.kind, .int .i64 job.tok, .int .i64 job.tier, .int .i64 job.beg, .int .i64 job.fin, .string job.key, .slice A ins.length c, .int .i64 got.cnt, .int .i64 got.sum, .int .i64 got.mn, .int .i64 got.mx, .int .i64 got.fst, .int .i64 got.lst] 28)).alloc (.cells #[.int .i64 id, .int .i64 ph, .int .i64 tk, .int .i64 job.kind, .int .i64 job.tok, .int .i64 job.tier, .int .i64 job.beg, .int .i64 job.fin, .string job.key, .slice D ins'.length d, .int .i64 got.cnt, .int .i64 got.sum, .int .i64 got.mn, .int .i64 got.mx, .int .i64 got.fst, .int .i64 got.lst] 28) := ⟨_, rfl⟩
    have ca : Cells W w.heap.size 0 [.int .i64 id, .int .i64 ph, .int .i64 tk, .int .i64 job.kind, .int .i64 job.tok, .int .i64 job.tier, .int .i64 job.beg, .int .i64 job.fin, .string job.key, .slice A ins.length c, .int .i64 got.cnt, .int .i64 got.sum, .int .i64 got.mn, .int .i64 got.mx, .int .i64 got.fst, .int .i64 got.lst] := by
      rw [hW]
      exact (Cells.new w _ _).below (bal (Below.refl _ _) _) (by simp)
    have cb : Cells W (w.heap.size + 1) 0 [.int .i64 id, .int .i64 ph, .int .i64 tk, .int .i64 job.kind, .int .i64 job.tok, .int .i64 job.tier, .int .i64 job.beg, .int .i64 job.fin, .string job.key, .slice D ins'.length d, .int .i64 got.cnt, .int .i64 got.sum, .int .i64 got.mn, .int .i64 got.mx, .int .i64 got.fst, .int .i64 got.lst] := by
      rw [hW]
      have := Cells.new (w.alloc (.cells #[.int .i64 id, .int .i64 ph, .int .i64 tk, .int .i64 job.kind, .int .i64 job.tok, .int .i64 job.tier, .int .i64 job.beg, .int .i64 job.fin, .string job.key, .slice A ins.length c, .int .i64 got.cnt, .int .i64 got.sum, .int .i64 got.mn, .int .i64 got.mx, .int .i64 got.fst, .int .i64 got.lst] 28)) [.int .i64 id, .int .i64 ph, .int .i64 tk, .int .i64 job.kind, .int .i64 job.tok, .int .i64 job.tier, .int .i64 job.beg, .int .i64 job.fin, .string job.key, .slice D ins'.length d, .int .i64 got.cnt, .int .i64 got.sum, .int .i64 got.mn, .int .i64 got.mx, .int .i64 got.fst, .int .i64 got.lst] 28
      simpa using this
    have hs : w.heap.size + 2 ≤ W.heap.size := by rw [hW]; simp
    have HB : Hid (∀ wr, Below W.heap.size W wr → Below w.heap.size w wr) := Lib.hid (fun wr h => by
      refine Below.trans ?_ (h.mono (by omega))
      rw [hW]
      exact BW.out _ _)
    rw [← hW]
    clear hW BW k3 k4
    have CA := Lib.hid ca; have CB := Lib.hid cb; clear ca cb
    have hB0 : Hid (B ≤ w.heap.size) := Lib.hid hB
    clear hB
    generalize hx0 : w.heap.size = x0 at *
    have Hx0 := Lib.hid hx0; clear hx0
    go_loopw [5] (fun i wr => ∃ k : Nat, k ≤ ins.length ∧ i = .int .i64 k ∧ Hid (ins.take k = ins'.take k) ∧ Below W.heap.size W wr) (fun i _ => ins.length - (intOf i).toNat)
    case atStart => exact ⟨0, by omega, rfl, Lib.hid (by simp), Below.refl _ _⟩
    case round =>
      obtain ⟨k, hk, rfl, HH, hb⟩ := hrel
      have c0 : wr.cell? ⟨x0, 9, none⟩ = some (.slice A ins.length c) := by have := (CA.out.below hb (by omega)) 9 _ rfl; simpa using this
      have c1 : wr.cell? ⟨x0 + 1, 9, none⟩ = some (.slice D ins'.length d) := by have := (CB.out.below hb (by omega)) 9 _ rfl; simpa using this
      by_cases hlt : k < ins.length
      · have hy : k < ins'.length := by have := HLE.out; omega
        obtain ⟨b1, o1, rfl, hb1, p0, p1, p2, p3⟩ := EntsAt.one (Sl.below (H.out) (HB.out _ hb) hB0.out) hlt
        obtain ⟨b2, o2, rfl, hb2, q0, q1, q2, q3⟩ := EntsAt.one (Sl.below (K.out) (HB.out _ hb) hB0.out) hy
        rcases ent_cases ins[k] ins'[k] with he | ⟨he, f0⟩ | ⟨he, f0, f1⟩ | ⟨he, f0, f1, f2⟩ | ⟨he, f0, f1, f2, f3⟩
        · have hn : ins.take (k + 1) = ins'.take (k + 1) := by
            rw [List.take_succ_eq_append_getElem hlt, List.take_succ_eq_append_getElem hy, HH.out, he]
          have Hn := Lib.hid hn; clear hn
          rw [← he] at q0 q1 q2 q3
          clear he
          go_wp2_with fail
          go_quiet (fail)
          go_wp2
          go_roundw
          case rel => exact ⟨k + 1, by omega, by go_num, Hn, bdrewB' hb _⟩
          case measure => simp [intOf]; omega
        · have Hn : Hid (¬ (ins = ins')) := Lib.hid (fun h => he (by simp [h]))
          clear he
          go_wp2_with fail
          go_quiet (fail)
          go_wp2
          go_ret
          exact ⟨false, by rw [HE.out]; simp [Hn.out], rfl, by rw [Hx0.out]; exact bdrewB' (HB.out _ hb) _⟩
        · have Hn : Hid (¬ (ins = ins')) := Lib.hid (fun h => he (by simp [h]))
          clear he
          go_wp2_with fail
          go_quiet (fail)
          go_wp2
          go_ret
          exact ⟨false, by rw [HE.out]; simp [Hn.out], rfl, by rw [Hx0.out]; exact bdrewB' (HB.out _ hb) _⟩
        · have Hn : Hid (¬ (ins = ins')) := Lib.hid (fun h => he (by simp [h]))
          clear he
          go_wp2_with fail
          go_quiet (fail)
          go_wp2
          go_ret
          exact ⟨false, by rw [HE.out]; simp [Hn.out], rfl, by rw [Hx0.out]; exact bdrewB' (HB.out _ hb) _⟩
        · have Hn : Hid (¬ (ins = ins')) := Lib.hid (fun h => he (by simp [h]))
          clear he
          go_wp2_with fail
          go_quiet (fail)
          go_wp2
          go_ret
          exact ⟨false, by rw [HE.out]; simp [Hn.out], rfl, by rw [Hx0.out]; exact bdrewB' (HB.out _ hb) _⟩
      · have hyes : ins = ins' := by
          have h1 := HH.out
          have h2 := HLE.out
          rw [List.take_of_length_le (by omega), List.take_of_length_le (by omega)] at h1
          exact h1
        have Hy := Lib.hid hyes; clear hyes
        go_wp2
        go_ret
        exact ⟨true, by rw [HE.out]; simp [Hy.out], rfl, by rw [Hx0.out]; exact HB.out _ hb⟩
  · clear H K
    have n0 : (s.id != t.id) = true := by simp [bne, g0]
    have Hn := Lib.hid hn; clear hn
    go_enter Try.func11, Try.ntmps11
    go_wp2
    go_ret
    exact ⟨false, by simp [Hn.out], rfl, BW.out _ _⟩
  · clear H K
    have n0 : (s.id != t.id) = false := by simp [bne, g0]
    have n1 : (s.ph != t.ph) = true := by simp [bne, g1]
    have Hn := Lib.hid hn; clear hn
    go_enter Try.func11, Try.ntmps11
    go_wp2
    go_ret
    exact ⟨false, by simp [Hn.out], rfl, BW.out _ _⟩
  · clear H K
    have n0 : (s.id != t.id) = false := by simp [bne, g0]
    have n1 : (s.ph != t.ph) = false := by simp [bne, g1]
    have n2 : (s.tk != t.tk) = true := by simp [bne, g2]
    have Hn := Lib.hid hn; clear hn
    go_enter Try.func11, Try.ntmps11
    go_wp2
    go_ret
    exact ⟨false, by simp [Hn.out], rfl, BW.out _ _⟩
  · clear H K
    have n0 : (s.id != t.id) = false := by simp [bne, g0]
    have n1 : (s.ph != t.ph) = false := by simp [bne, g1]
    have n2 : (s.tk != t.tk) = false := by simp [bne, g2]
    have k3 := eqRecV s.job t.job _ g3
    clear g3
    have Hn := Lib.hid hn; clear hn
    go_enter Try.func11, Try.ntmps11
    go_wp2
    go_ret
    exact ⟨false, by simp [Hn.out], rfl, BW.out _ _⟩
  · clear H K
    have n0 : (s.id != t.id) = false := by simp [bne, g0]
    have n1 : (s.ph != t.ph) = false := by simp [bne, g1]
    have n2 : (s.tk != t.tk) = false := by simp [bne, g2]
    have k3 := eqRecV s.job t.job _ g3
    have k4 := eqAggV s.got t.got _ g4
    clear g3 g4
    have Hn := Lib.hid hn; clear hn
    go_enter Try.func11, Try.ntmps11
    go_wp2
    go_ret
    exact ⟨false, by simp [Hn.out], rfl, BW.out _ _⟩

end Go.Proofs.Ytpackpocnonpiaa
