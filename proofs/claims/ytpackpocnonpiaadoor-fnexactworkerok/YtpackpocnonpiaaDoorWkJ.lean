/-
  Contracts of the program's jobRight, right and WorkerOK. Conditions: sizes of keys, lengths, the table of paths.
-/
import Derived.Test.YtpackpocnonpiaaDoorWkI
namespace Go.Proofs.YtpackpocnonpiaaDoor
open Go.ChangeShapes Go.WideShapes Go.ChangeAt Go.RowKit Go.Deep Go.Joins
set_option linter.unusedVariables false
set_option linter.unusedSimpArgs false

set_option maxRecDepth 100000 in
set_option maxHeartbeats 4000000 in
theorem jobRight_any (A : Option Addr) (c : Nat) (s : GWrk) (w : World) (hk : s.job.key.size ≤ 1048576) (hp : Paths w) (hz : 1 < w.heap.size) : Calls Tryd.prog 31 #[.agg #[.int .i64 s.id, .int .i64 s.ph, .int .i64 s.tk, .int .i64 s.job.kind, .int .i64 s.job.tok, .int .i64 s.job.tier, .int .i64 s.job.beg, .int .i64 s.job.fin, .string s.job.key, .slice A s.ins.length c, .int .i64 s.got.cnt, .int .i64 s.got.sum, .int .i64 s.got.mn, .int .i64 s.got.mx, .int .i64 s.got.fst, .int .i64 s.got.lst]] w (IsBB (JobP s) w) := by
  have HP : Hid (∀ w', Below w.heap.size w w' → Paths w' ∧ 1 < w'.heap.size) := Lib.hid (fun w' h => ⟨hp.below h hz, Nat.lt_of_lt_of_le hz h.size⟩)
  clear hp
  have BW : Hid (∀ o, Below w.heap.size w (w.alloc o)) := Lib.hid (fun o => bal (Below.refl _ _) _)
  cases d : inB s.ph 4 6
  · have HT : Hid (JobP s) := Lib.hid (fun h => by rw [d] at h; cases h)
    have HD := Lib.hid d; clear d
    go_enter Tryd.func31, Tryd.ntmps31
    go_wp2_with fail
    refine (within_any _ _ _ _).mono ?_
    rintro e w1 ⟨rfl, rfl⟩
    rw [HD.out]
    go_wp2
    go_ret
    exact ⟨true, ⟨fun _ => HT.out, fun _ => rfl⟩, rfl, BW.out _⟩
  by_cases h3 : s.job.kind = 3
  · have h4 : ¬ s.job.kind = 4 := by omega
    by_cases ht : s.job.tok = s.tk
    · have e3 : (s.job.kind == 3) = true := by simpa using h3
      have e4 : (s.job.kind == 4) = false := by simpa using h4
      have et : (s.job.tok == s.tk) = true := by simpa using ht
      have HT : Hid (JobP s ↔ RecP s.job) := Lib.hid ⟨fun h => (h d).2.2, fun h _ => ⟨(by first | exact .inl h3 | exact .inr ⟨h4, h6⟩), ht, h⟩⟩
      have HD := Lib.hid d; clear d
      clear ht
      try clear h6
      clear h3 h4
      go_enter Tryd.func31, Tryd.ntmps31
      go_wp2_with fail
      refine (within_any _ _ _ _).mono ?_
      rintro e w1 ⟨rfl, rfl⟩
      rw [HD.out]
      go_wp2_with fail
      refine (recordOK_any s.job _ (by omega) (HP.out _ (BW.out _)).1 (HP.out _ (BW.out _)).2).mono ?_
      rintro e w2 ⟨b, hb, rfl, hb2⟩
      have Hb : Hid (b = true ↔ JobP s) := Lib.hid (hb.trans HT.out.symm)
      have b2 : Below w.heap.size w w2 := (BW.out _).trans (hb2.mono (by simp))
      clear hb hb2 HT
      go_wp2
      go_ret
      exact ⟨b, Hb.out, rfl, b2⟩
    · have e3 : (s.job.kind == 3) = true := by simpa using h3
      have e4 : (s.job.kind == 4) = false := by simpa using h4
      have et : (s.job.tok == s.tk) = false := by simpa using ht
      have HT : Hid (¬ JobP s) := Lib.hid (fun h => by obtain ⟨h1, h2, _⟩ := h d; clear HP BW h; first | exact ht h2 | (rcases h1 with h1 | ⟨h1, h7⟩ <;> omega))
      have HD := Lib.hid d; clear d
      try clear ht
      try clear h6
      clear h3 h4
      go_enter Tryd.func31, Tryd.ntmps31
      go_wp2_with fail
      refine (within_any _ _ _ _).mono ?_
      rintro e w1 ⟨rfl, rfl⟩
      rw [HD.out]
      go_wp2
      go_ret
      exact ⟨false, ⟨fun h => (by cases h), fun h => absurd h HT.out⟩, rfl, BW.out _⟩
  by_cases h4 : s.job.kind = 4
  · by_cases h6 : s.ph = 6
    · by_cases ht : s.job.tok = s.tk
      · have e3 : (s.job.kind == 3) = false := by simpa using h3
        have e4 : (s.job.kind == 4) = true := by simpa using h4
        have e6 : (s.ph == 6) = true := by simpa using h6
        have et : (s.job.tok == s.tk) = true := by simpa using ht
        have HT : Hid (JobP s ↔ RecP s.job) := Lib.hid ⟨fun h => (h d).2.2, fun h _ => ⟨(by first | exact .inl h3 | exact .inr ⟨h4, h6⟩), ht, h⟩⟩
        have HD := Lib.hid d; clear d
        clear ht
        try clear h6
        clear h3 h4
        go_enter Tryd.func31, Tryd.ntmps31
        go_wp2_with fail
        refine (within_any _ _ _ _).mono ?_
        rintro e w1 ⟨rfl, rfl⟩
        rw [HD.out]
        go_wp2_with fail
        refine (recordOK_any s.job _ (by omega) (HP.out _ (BW.out _)).1 (HP.out _ (BW.out _)).2).mono ?_
        rintro e w2 ⟨b, hb, rfl, hb2⟩
        have Hb : Hid (b = true ↔ JobP s) := Lib.hid (hb.trans HT.out.symm)
        have b2 : Below w.heap.size w w2 := (BW.out _).trans (hb2.mono (by simp))
        clear hb hb2 HT
        go_wp2
        go_ret
        exact ⟨b, Hb.out, rfl, b2⟩
      · have e3 : (s.job.kind == 3) = false := by simpa using h3
        have e4 : (s.job.kind == 4) = true := by simpa using h4
        have e6 : (s.ph == 6) = true := by simpa using h6
        have et : (s.job.tok == s.tk) = false := by simpa using ht
        have HT : Hid (¬ JobP s) := Lib.hid (fun h => by obtain ⟨h1, h2, _⟩ := h d; clear HP BW h; first | exact ht h2 | (rcases h1 with h1 | ⟨h1, h7⟩ <;> omega))
        have HD := Lib.hid d; clear d
        try clear ht
        try clear h6
        clear h3 h4
        go_enter Tryd.func31, Tryd.ntmps31
        go_wp2_with fail
        refine (within_any _ _ _ _).mono ?_
        rintro e w1 ⟨rfl, rfl⟩
        rw [HD.out]
        go_wp2
        go_ret
        exact ⟨false, ⟨fun h => (by cases h), fun h => absurd h HT.out⟩, rfl, BW.out _⟩
    · have e3 : (s.job.kind == 3) = false := by simpa using h3
      have e4 : (s.job.kind == 4) = true := by simpa using h4
      have e6 : (s.ph == 6) = false := by simpa using h6
      have HT : Hid (¬ JobP s) := Lib.hid (fun h => by obtain ⟨h1, h2, _⟩ := h d; clear HP BW h; first | exact ht h2 | (rcases h1 with h1 | ⟨h1, h7⟩ <;> omega))
      have HD := Lib.hid d; clear d
      try clear ht
      try clear h6
      clear h3 h4
      go_enter Tryd.func31, Tryd.ntmps31
      go_wp2_with fail
      refine (within_any _ _ _ _).mono ?_
      rintro e w1 ⟨rfl, rfl⟩
      rw [HD.out]
      go_wp2
      go_ret
      exact ⟨false, ⟨fun h => (by cases h), fun h => absurd h HT.out⟩, rfl, BW.out _⟩
  · have e3 : (s.job.kind == 3) = false := by simpa using h3
    have e4 : (s.job.kind == 4) = false := by simpa using h4
    have HT : Hid (¬ JobP s) := Lib.hid (fun h => by obtain ⟨h1, h2, _⟩ := h d; clear HP BW h; first | exact ht h2 | (rcases h1 with h1 | ⟨h1, h7⟩ <;> omega))
    have HD := Lib.hid d; clear d
    try clear ht
    try clear h6
    clear h3 h4
    go_enter Tryd.func31, Tryd.ntmps31
    go_wp2_with fail
    refine (within_any _ _ _ _).mono ?_
    rintro e w1 ⟨rfl, rfl⟩
    rw [HD.out]
    go_wp2
    go_ret
    exact ⟨false, ⟨fun h => (by cases h), fun h => absurd h HT.out⟩, rfl, BW.out _⟩

set_option maxRecDepth 100000 in
set_option maxHeartbeats 1000000 in
theorem wrkRight_any (A : Option Addr) (c : Nat) (s : GWrk) (B : Nat) (w : World) (h : EntsAt w B A s.ins) (hB : B ≤ w.heap.size) (hl : s.ins.length ≤ 1048576) (hi : ∀ e ∈ s.ins, e.key.size ≤ 1048576) (hk : s.job.key.size ≤ 1048576) (hp : Paths w) (hz : 1 < w.heap.size) :
    Calls Tryd.prog 19 #[.agg #[.int .i64 s.id, .int .i64 s.ph, .int .i64 s.tk, .int .i64 s.job.kind, .int .i64 s.job.tok, .int .i64 s.job.tier, .int .i64 s.job.beg, .int .i64 s.job.fin, .string s.job.key, .slice A s.ins.length c, .int .i64 s.got.cnt, .int .i64 s.got.sum, .int .i64 s.got.mn, .int .i64 s.got.mx, .int .i64 s.got.fst, .int .i64 s.got.lst]] w (IsBB (WrkP s) w) := by
  have H := Lib.hid h; clear h
  have HI := Lib.hid hi; clear hi
  have HP : Hid (∀ w', Below w.heap.size w w' → Paths w' ∧ 1 < w'.heap.size) := Lib.hid (fun w' h => ⟨hp.below h hz, Nat.lt_of_lt_of_le hz h.size⟩)
  clear hp
  have HW : Hid (WrkP s ↔ (inB s.id 0 9 = true ∧ inB s.ph 0 7 = true ∧ TokP s ∧ JobP s ∧ InsP s ∧ AggP s.got ∧ s.got.cnt ≤ 1000)) := Lib.hid Iff.rfl
  cases d0 : inB s.id 0 9
  · have HT : Hid (¬ WrkP s) := Lib.hid (fun h => by have := h.1; rw [d0] at this; cases this)
    have HD := Lib.hid d0; clear d0
    go_enter Tryd.func19, Tryd.ntmps19
    go_wp2_with fail
    refine (isIdK_any _ _).mono ?_
    rintro e w1 ⟨rfl, rfl⟩
    rw [HD.out]
    go_wp2
    go_ret
    exact ⟨false, ⟨fun h => (by cases h), fun h => absurd h HT.out⟩, rfl, bal (Below.refl _ _) _⟩
  cases d1 : inB s.ph 0 7
  · have HT : Hid (¬ WrkP s) := Lib.hid (fun h => by have := h.2.1; rw [d1] at this; cases this)
    have HD := Lib.hid d0; clear d0
    have HE := Lib.hid d1; clear d1
    go_enter Tryd.func19, Tryd.ntmps19
    go_wp2_with fail
    refine (isIdK_any _ _).mono ?_
    rintro e w1 ⟨rfl, rfl⟩
    rw [HD.out]
    go_wp2_with fail
    refine (within_any _ _ _ _).mono ?_
    rintro e w1 ⟨rfl, rfl⟩
    rw [HE.out]
    go_wp2
    go_ret
    exact ⟨false, ⟨fun h => (by cases h), fun h => absurd h HT.out⟩, rfl, bal (Below.refl _ _) _⟩
  have HD := Lib.hid d0
  have HE := Lib.hid d1
  go_enter Tryd.func19, Tryd.ntmps19
  go_wp2_with fail
  obtain ⟨W, hW⟩ : ∃ W, W = w.alloc (.cells #[.int .i64 s.id, .int .i64 s.ph, .int .i64 s.tk, .int .i64 s.job.kind, .int .i64 s.job.tok, .int .i64 s.job.tier, .int .i64 s.job.beg, .int .i64 s.job.fin, .string s.job.key, .slice A s.ins.length c, .int .i64 s.got.cnt, .int .i64 s.got.sum, .int .i64 s.got.mn, .int .i64 s.got.mx, .int .i64 s.got.fst, .int .i64 s.got.lst] 35) := ⟨_, rfl⟩
  obtain ⟨LA, hLA⟩ : ∃ L : List Value, L = [.int .i64 s.id, .int .i64 s.ph, .int .i64 s.tk, .int .i64 s.job.kind, .int .i64 s.job.tok, .int .i64 s.job.tier, .int .i64 s.job.beg, .int .i64 s.job.fin, .string s.job.key, .slice A s.ins.length c, .int .i64 s.got.cnt, .int .i64 s.got.sum, .int .i64 s.got.mn, .int .i64 s.got.mx, .int .i64 s.got.fst, .int .i64 s.got.lst] := ⟨_, rfl⟩
  have t0 : Cells W w.heap.size 0 LA := by rw [hW, hLA]; exact Cells.new _ _ _
  have hc := cellsWrk (show Cells W w.heap.size 0 [.int .i64 s.id, .int .i64 s.ph, .int .i64 s.tk, .int .i64 s.job.kind, .int .i64 s.job.tok, .int .i64 s.job.tier, .int .i64 s.job.beg, .int .i64 s.job.fin, .string s.job.key, .slice A s.ins.length c, .int .i64 s.got.cnt, .int .i64 s.got.sum, .int .i64 s.got.mn, .int .i64 s.got.mx, .int .i64 s.got.fst, .int .i64 s.got.lst] by rw [← hLA]; exact t0)
  have HNA : Hid (LA.length = 16) := Lib.hid (by rw [hLA]; rfl)
  have EA : Hid (Value.agg LA.toArray = .agg #[.int .i64 s.id, .int .i64 s.ph, .int .i64 s.tk, .int .i64 s.job.kind, .int .i64 s.job.tok, .int .i64 s.job.tier, .int .i64 s.job.beg, .int .i64 s.job.fin, .string s.job.key, .slice A s.ins.length c, .int .i64 s.got.cnt, .int .i64 s.got.sum, .int .i64 s.got.mn, .int .i64 s.got.mx, .int .i64 s.got.fst, .int .i64 s.got.lst]) := Lib.hid (by rw [hLA])
  have b0 : Below w.heap.size w W := by rw [hW]; exact bal (Below.refl _ _) _
  have s0 : w.heap.size < W.heap.size := by rw [hW]; simp
  rw [← hW]
  clear hW
  have HLA := Lib.hid hLA; clear hLA
  generalize (Value.agg #[.int .i64 s.id, .int .i64 s.ph, .int .i64 s.tk, .int .i64 s.job.kind, .int .i64 s.job.tok, .int .i64 s.job.tier, .int .i64 s.job.beg, .int .i64 s.job.fin, .string s.job.key, .slice A s.ins.length c, .int .i64 s.got.cnt, .int .i64 s.got.sum, .int .i64 s.got.mn, .int .i64 s.got.mx, .int .i64 s.got.fst, .int .i64 s.got.lst]) = va
  have T0 := Lib.hid t0; clear t0
  obtain ⟨c0, c1, c2, c3, c4, c5, c6, c7, c8, c9, c10, c11, c12, c13, c14, c15⟩ := hc
  clear c0 c2 c3 c4 c5 c6 c7 c8 c9 c10 c11 c12 c13 c14 c15
  generalize hx0 : w.heap.size = x0 at *
  have Hx0 := Lib.hid hx0; clear hx0
  refine (isIdK_any _ _).mono ?_
  rintro e w1 ⟨rfl, rfl⟩
  rw [HD.out]
  go_wp2_with fail
  refine (within_any _ _ _ _).mono ?_
  rintro e w1 ⟨rfl, rfl⟩
  rw [HE.out]
  clear c1
  dsimp only
  iterate 7 go_step
  refine wpList_load_midG (by rfl) 35 (.tmp 1) rfl x0 0 rfl LA _ (fun j v hv => T0.out j v hv) Tryd.underlying35 rfl (infoWK.trans (by rw [HNA.out])) ?_
  try simp only [Act.put, List.setIfInBounds_toArray, List.set_cons_zero, List.set_cons_succ]
  have hq : Calls Tryd.prog 30 #[.agg LA.toArray] W (IsBB (TokP s) W) := by rw [EA.out]; exact tokenRight_any A c s W
  have Hq := Lib.hid hq; clear hq
  go_wp2_with fail
  refine Hq.out.mono ?_
  rintro e w2 ⟨b2, hb2, rfl, hw2⟩
  clear Hq
  have bb2 : Below x0 w w2 := b0.trans (hw2.mono (by omega))
  have T2 := Lib.hid (T0.out.below hw2 s0)
  have s2 : x0 < w2.heap.size := by have := hw2.size; omega
  clear T0 b0 s0 hw2
  cases b2
  · have HT : Hid (¬ WrkP s) := Lib.hid (fun h => by have := hb2.2 h.2.2.1; cases this)
    clear hb2
    go_wp2
    go_ret
    exact ⟨false, ⟨fun h => (by cases h), fun h => absurd h HT.out⟩, rfl, by rw [Hx0.out]; exact bb2⟩
  have G2 := Lib.hid (hb2.1 rfl); clear hb2
  dsimp only
  iterate 7 go_step
  refine wpList_load_midG (by rfl) 35 (.tmp 1) rfl x0 0 rfl LA _ (fun j v hv => T2.out j v hv) Tryd.underlying35 rfl (infoWK.trans (by rw [HNA.out])) ?_
  try simp only [Act.put, List.setIfInBounds_toArray, List.set_cons_zero, List.set_cons_succ]
  have hq : Calls Tryd.prog 31 #[.agg LA.toArray] w2 (IsBB (JobP s) w2) := by rw [EA.out]; exact jobRight_any A c s w2 hk (HP.out _ bb2).1 (HP.out _ bb2).2
  have Hq := Lib.hid hq; clear hq
  go_wp2_with fail
  refine Hq.out.mono ?_
  rintro e w3 ⟨b3, hb3, rfl, hw3⟩
  clear Hq
  have bb3 : Below x0 w w3 := bb2.trans (hw3.mono (by omega))
  have T3 := Lib.hid (T2.out.below hw3 s2)
  have s3 : x0 < w3.heap.size := by have := hw3.size; omega
  clear T2 bb2 s2 hw3
  cases b3
  · have HT : Hid (¬ WrkP s) := Lib.hid (fun h => by have := hb3.2 h.2.2.2.1; cases this)
    clear hb3
    go_wp2
    go_ret
    exact ⟨false, ⟨fun h => (by cases h), fun h => absurd h HT.out⟩, rfl, by rw [Hx0.out]; exact bb3⟩
  have G3 := Lib.hid (hb3.1 rfl); clear hb3
  have c9 : w3.cell? ⟨x0, 9, none⟩ = some (.slice A s.ins.length c) := by have := T3.out 9 (.slice A s.ins.length c) (by rw [HLA.out]; rfl); simpa using this
  go_wp2_with fail
  have Hw3 : Hid (Below w.heap.size w w3) := Lib.hid (by rw [Hx0.out]; exact bb3)
  refine (entriesRight_any A c s.ins B w3 (Sl.below H.out Hw3.out (by rw [Hx0.out]; exact hB)) (by have := Hw3.out.size; have := Hx0.out; omega) hl HI.out (HP.out _ bb3).1 (HP.out _ bb3).2).mono ?_
  rintro e w4 ⟨b4, hb4, rfl, hw4⟩
  have bb4 : Below x0 w w4 := bb3.trans (hw4.mono (by omega))
  have T4 := Lib.hid (T3.out.below hw4 s3)
  have s4 : x0 < w4.heap.size := by have := hw4.size; omega
  clear T3 bb3 s3 hw4 c9 Hw3
  cases b4
  · have HT : Hid (¬ WrkP s) := Lib.hid (fun h => by have := hb4.2 h.2.2.2.2.1; cases this)
    clear hb4
    go_wp2
    go_ret
    exact ⟨false, ⟨fun h => (by cases h), fun h => absurd h HT.out⟩, rfl, by rw [Hx0.out]; exact bb4⟩
  have G4 := Lib.hid (hb4.1 rfl); clear hb4
  have hg := cellsWrk (show Cells w4 x0 0 [.int .i64 s.id, .int .i64 s.ph, .int .i64 s.tk, .int .i64 s.job.kind, .int .i64 s.job.tok, .int .i64 s.job.tier, .int .i64 s.job.beg, .int .i64 s.job.fin, .string s.job.key, .slice A s.ins.length c, .int .i64 s.got.cnt, .int .i64 s.got.sum, .int .i64 s.got.mn, .int .i64 s.got.mx, .int .i64 s.got.fst, .int .i64 s.got.lst] by rw [← HLA.out]; exact T4.out)
  obtain ⟨_, _, _, _, _, _, _, _, _, _, c10, c11, c12, c13, c14, c15⟩ := hg
  go_wp2_with fail
  refine (aggOK_any s.got w4).mono ?_
  rintro e w5 ⟨b5, hb5, rfl, hw5⟩
  have bb5 : Below x0 w w5 := bb4.trans (hw5.mono (by omega))
  have c10' : w5.cell? ⟨x0, 10, none⟩ = some (.int .i64 s.got.cnt) := (hw5.cell (p := ⟨x0, 10, none⟩) s4).trans c10
  clear T4 bb4 s4 hw5 c10 c11 c12 c13 c14 c15
  cases b5
  · have HT : Hid (¬ WrkP s) := Lib.hid (fun h => by have := hb5.2 h.2.2.2.2.2.1; cases this)
    clear hb5
    go_wp2
    go_ret
    exact ⟨false, ⟨fun h => (by cases h), fun h => absurd h HT.out⟩, rfl, by rw [Hx0.out]; exact bb5⟩
  have G5 := Lib.hid (hb5.1 rfl); clear hb5
  have HT : Hid (decide (s.got.cnt ≤ 1000) = true ↔ WrkP s) := Lib.hid ⟨fun h => ⟨HD.out, HE.out, G2.out, G3.out, G4.out, G5.out, of_decide_eq_true h⟩, fun h => decide_eq_true h.2.2.2.2.2.2⟩
  clear HW
  go_wp2
  go_ret
  exact ⟨_, HT.out, rfl, by rw [Hx0.out]; exact bb5⟩

set_option maxRecDepth 100000 in
theorem workerOK_any (A : Option Addr) (c : Nat) (s : GWrk) (B : Nat) (w : World) (h : EntsAt w B A s.ins) (hB : B ≤ w.heap.size) (hl : s.ins.length ≤ 1048576) (hi : ∀ e ∈ s.ins, e.key.size ≤ 1048576) (hk : s.job.key.size ≤ 1048576) (hp : Paths w) (hz : 1 < w.heap.size) :
    Calls Tryd.prog 7 #[.agg #[.int .i64 s.id, .int .i64 s.ph, .int .i64 s.tk, .int .i64 s.job.kind, .int .i64 s.job.tok, .int .i64 s.job.tier, .int .i64 s.job.beg, .int .i64 s.job.fin, .string s.job.key, .slice A s.ins.length c, .int .i64 s.got.cnt, .int .i64 s.got.sum, .int .i64 s.got.mn, .int .i64 s.got.mx, .int .i64 s.got.fst, .int .i64 s.got.lst]] w (IsBB (WrkP s) w) := by
  have H := Lib.hid h; clear h
  have HI := Lib.hid hi; clear hi
  have HP : Hid (∀ w', Below w.heap.size w w' → Paths w' ∧ 1 < w'.heap.size) := Lib.hid (fun w' h => ⟨hp.below h hz, Nat.lt_of_lt_of_le hz h.size⟩)
  clear hp
  go_enter Tryd.func7, Tryd.ntmps7
  go_upto_region 1 with fail
  obtain ⟨W, hW⟩ : ∃ W, W = w.alloc (.cells #[.int .i64 s.id, .int .i64 s.ph, .int .i64 s.tk, .int .i64 s.job.kind, .int .i64 s.job.tok, .int .i64 s.job.tier, .int .i64 s.job.beg, .int .i64 s.job.fin, .string s.job.key, .slice A s.ins.length c, .int .i64 s.got.cnt, .int .i64 s.got.sum, .int .i64 s.got.mn, .int .i64 s.got.mx, .int .i64 s.got.fst, .int .i64 s.got.lst] 35) := ⟨_, rfl⟩
  obtain ⟨LA, hLA⟩ : ∃ L : List Value, L = [.int .i64 s.id, .int .i64 s.ph, .int .i64 s.tk, .int .i64 s.job.kind, .int .i64 s.job.tok, .int .i64 s.job.tier, .int .i64 s.job.beg, .int .i64 s.job.fin, .string s.job.key, .slice A s.ins.length c, .int .i64 s.got.cnt, .int .i64 s.got.sum, .int .i64 s.got.mn, .int .i64 s.got.mx, .int .i64 s.got.fst, .int .i64 s.got.lst] := ⟨_, rfl⟩
  have t0 : Cells W w.heap.size 0 LA := by rw [hW, hLA]; exact Cells.new _ _ _
  have HNA : Hid (LA.length = 16) := Lib.hid (by rw [hLA]; rfl)
  have EA : Hid (Value.agg LA.toArray = .agg #[.int .i64 s.id, .int .i64 s.ph, .int .i64 s.tk, .int .i64 s.job.kind, .int .i64 s.job.tok, .int .i64 s.job.tier, .int .i64 s.job.beg, .int .i64 s.job.fin, .string s.job.key, .slice A s.ins.length c, .int .i64 s.got.cnt, .int .i64 s.got.sum, .int .i64 s.got.mn, .int .i64 s.got.mx, .int .i64 s.got.fst, .int .i64 s.got.lst]) := Lib.hid (by rw [hLA])
  have b0 : Below w.heap.size w W := by rw [hW]; exact bal (Below.refl _ _) _
  rw [← hW]
  clear hW hLA
  have T0 := Lib.hid t0; clear t0
  apply wp_region_lit
  refine wpList_load_mid rfl 35 (.tmp 1) rfl w.heap.size 0 rfl LA _ (fun j v hv => T0.out j v hv) Tryd.underlying35 rfl (infoWK.trans (by rw [HNA.out])) ?_
  try simp only [Act.put, List.setIfInBounds_toArray, List.set_cons_zero, List.set_cons_succ]
  have hq : Calls Tryd.prog 19 #[.agg LA.toArray] W (IsBB (WrkP s) W) := by rw [EA.out]; exact wrkRight_any A c s B W (Sl.below H.out b0 hB) (by have := b0.size; omega) hl HI.out hk (HP.out _ b0).1 (HP.out _ b0).2
  have Hq := Lib.hid hq; clear hq
  go_wp2_with fail
  refine Hq.out.mono ?_
  rintro e w2 ⟨b2, hb2, rfl, hw2⟩
  have Hb := Lib.hid hb2; clear hb2 Hq
  have bb2 : Below w.heap.size w w2 := bnext b0 hw2
  clear hw2 b0
  go_wp2
  go_ret
  exact ⟨b2, Hb.out, rfl, bb2⟩

end Go.Proofs.YtpackpocnonpiaaDoor
