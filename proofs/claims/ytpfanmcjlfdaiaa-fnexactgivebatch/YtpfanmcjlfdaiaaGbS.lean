/-
  Contracts of the model's l09Own and GiveBatch. Conditions: lengths.
-/
import Derived.Test.YtpfanmcjlfdaiaaGbI
import Derived.Test.YtpfanmcjlfdaiaaIngS
namespace Go.Proofs.Ytpfanmcjlfdaiaa
open Go.ChangeShapes Go.WideShapes Go.ChangeAt Go.RowKit Go.Deep Go.Joins
set_option linter.unusedVariables false
set_option linter.unusedSimpArgs false

set_option maxRecDepth 100000 in
set_option maxHeartbeats 1000000 in
theorem specOwnI_any (A : Option Addr) (c : Nat) (s : GIng) (B : Nat) (w : World) (h : SamsAt w B A s.bat) (hB : B ≤ w.heap.size) (hl : s.bat.length ≤ 1048576) :
    Calls Try.prog 29 #[.agg #[.int .i64 s.id, .int .i64 s.sq, .int .i64 s.beg, .int .i64 s.fin, .slice A s.bat.length c, .bool s.put]] w (OwnI s w) := by
  have H := Lib.hid h; clear h
  obtain ⟨W, hW⟩ : ∃ W, W = ((w.alloc (.cells #[.int .i64 s.id, .int .i64 s.sq, .int .i64 s.beg, .int .i64 s.fin, .slice A s.bat.length c, .bool s.put] 24)).alloc (.cells #[.int .i64 0, .int .i64 0, .int .i64 0, .int .i64 0, .slice none 0 0, .bool false] 24)).alloc (.cells #[] 47) := ⟨_, rfl⟩
  have ca : Cells W w.heap.size 0 [.int .i64 s.id, .int .i64 s.sq, .int .i64 s.beg, .int .i64 s.fin, .slice A s.bat.length c, .bool s.put] := by rw [hW]; exact ((Cells.new w _ _).below (bal (Below.refl _ _) (.cells #[.int .i64 0, .int .i64 0, .int .i64 0, .int .i64 0, .slice none 0 0, .bool false] 24)) (by simp)).below (bal (Below.refl _ _) (.cells #[] 47)) (by simp; omega)
  have cz : Cells W (w.heap.size + 1) 0 [.int .i64 0, .int .i64 0, .int .i64 0, .int .i64 0, .slice none 0 0, .bool false] := by
    rw [hW]; have := (Cells.new (w.alloc (.cells #[.int .i64 s.id, .int .i64 s.sq, .int .i64 s.beg, .int .i64 s.fin, .slice A s.bat.length c, .bool s.put] 24)) [.int .i64 0, .int .i64 0, .int .i64 0, .int .i64 0, .slice none 0 0, .bool false] 24).below (bal (Below.refl _ _) (.cells #[] 47)) (by simp); simpa using this
  have fa : ∀ i, W.frozen? ⟨w.heap.size, i, none⟩ = false := fun i => by
    rw [hW]; exact ((Free.below (free_alloc w #[.int .i64 s.id, .int .i64 s.sq, .int .i64 s.beg, .int .i64 s.fin, .slice A s.bat.length c, .bool s.put] 24 0) (bal (Below.refl _ _) (.cells #[.int .i64 0, .int .i64 0, .int .i64 0, .int .i64 0, .slice none 0 0, .bool false] 24)) (fun b e => by simp [blk] at e; subst e; simp)).below (bal (Below.refl _ _) (.cells #[] 47)) (fun b e => by simp [blk] at e; subst e; simp; omega)) _ rfl i
  have fz : ∀ i, W.frozen? ⟨w.heap.size + 1, i, none⟩ = false := fun i => by
    rw [hW]
    have k := Free.below (free_alloc (w.alloc (.cells #[.int .i64 s.id, .int .i64 s.sq, .int .i64 s.beg, .int .i64 s.fin, .slice A s.bat.length c, .bool s.put] 24)) #[.int .i64 0, .int .i64 0, .int .i64 0, .int .i64 0, .slice none 0 0, .bool false] 24 0) (bal (Below.refl _ _) (.cells #[] 47)) (fun b e => by simp [blk] at e; subst e; simp)
    have k2 := k (w.heap.size + 1) (by simp [blk]) i
    exact k2
  have b0 : Below w.heap.size w W := by rw [hW]; exact bal (bal (bal (Below.refl _ _) _) _) _
  have s0 : W.heap.size = w.heap.size + 3 := by rw [hW]; simp
  have o0 : OwnSl GSam.vals 2 47 (w.heap.size + 2) W (.slice (some ⟨w.heap.size + 1 + 1, 0, none⟩) 0 0) [] := by
    rw [hW]
    have k := own_empty GSam.vals 2 47 ((w.alloc (.cells #[.int .i64 s.id, .int .i64 s.sq, .int .i64 s.beg, .int .i64 s.fin, .slice A s.bat.length c, .bool s.put] 24)).alloc (.cells #[.int .i64 0, .int .i64 0, .int .i64 0, .int .i64 0, .slice none 0 0, .bool false] 24))
    simpa using k
  have O0 := Lib.hid o0; clear o0
  have HW := Lib.hid hW; clear hW
  have CA := Lib.hid ca; have CZ := Lib.hid cz; have FA := Lib.hid fa; have FZ := Lib.hid fz
  clear ca cz fa fz
  go_enter Try.func29, Try.ntmps29
  go_wp2_with (at_builtin; rw [← HW.out]; refine wpList_append_sl GSam.vals 2 16 (fun _ => rfl) sam_oneC 22 47 _ infoSam rfl (by omega) Try.underlying22 rfl _ _ rfl (w.heap.size + 2) [] s.bat (.slice (some ⟨w.heap.size + 1 + 1, 0, none⟩) 0 0) rfl O0.out A c B rfl (Sl.below H.out b0 hB) (by simp [maxLen]; omega) (by simp; omega) (by omega) ?_; intro v' w1 hO hg _; rw [List.nil_append] at hO; obtain ⟨A1, c1, rfl⟩ := hO.form; have hb1 : Below (w.heap.size + 2) W w1 := below_of_grown hg (by omega) (fun g e => (World.ownsRow.lt O0.out g e).1); have FIN := Lib.hid (own_finI (w := w) hO (by omega) (b0.trans (hb1.mono (by omega)))); have ca1 := CA.out.below hb1 (by omega); have cz1 := CZ.out.below hb1 (by omega); have f4 := (hb1.frozen (p := ⟨w.heap.size, 4, none⟩) (by show w.heap.size < _; omega)).trans (FA.out 4); have x0 := ca1 0 _ rfl; have z0 := cz1 0 _ rfl; have y0 := (hb1.frozen (p := ⟨w.heap.size + 1, 0, none⟩) (by show w.heap.size + 1 < _; omega)).trans (FZ.out 0); have x1 := ca1 1 _ rfl; have z1 := cz1 1 _ rfl; have y1 := (hb1.frozen (p := ⟨w.heap.size + 1, 1, none⟩) (by show w.heap.size + 1 < _; omega)).trans (FZ.out 1); have x2 := ca1 2 _ rfl; have z2 := cz1 2 _ rfl; have y2 := (hb1.frozen (p := ⟨w.heap.size + 1, 2, none⟩) (by show w.heap.size + 1 < _; omega)).trans (FZ.out 2); have x3 := ca1 3 _ rfl; have z3 := cz1 3 _ rfl; have y3 := (hb1.frozen (p := ⟨w.heap.size + 1, 3, none⟩) (by show w.heap.size + 1 < _; omega)).trans (FZ.out 3); have x4 := ca1 4 _ rfl; have z4 := cz1 4 _ rfl; have y4 := (hb1.frozen (p := ⟨w.heap.size + 1, 4, none⟩) (by show w.heap.size + 1 < _; omega)).trans (FZ.out 4); have x5 := ca1 5 _ rfl; have z5 := cz1 5 _ rfl; have y5 := (hb1.frozen (p := ⟨w.heap.size + 1, 5, none⟩) (by show w.heap.size + 1 < _; omega)).trans (FZ.out 5); simp only [Nat.zero_add] at x0 z0 x1 z1 x2 z2 x3 z3 x4 z4 x5 z5; clear hO hg hb1 ca1 cz1)
  refine bodyPost_ret (v := .agg #[.int .i64 s.id, .int .i64 s.sq, .int .i64 s.beg, .int .i64 s.fin, .slice A1 s.bat.length c1, .bool s.put]) (by simp [results, Try.results29, go_sem, *]) rfl FIN.out

set_option maxRecDepth 100000 in
set_option maxHeartbeats 4000000 in
theorem specGiveBatch_any (A : Option Addr) (c : Nat) (s : GIng) (Ak : Option Addr) (ck : Nat) (ks : List GSam) (B : Nat) (w : World) (h : SamsAt w B A s.bat) (hk : SamsAt w B Ak ks) (hB : B ≤ w.heap.size) (hl : s.bat.length ≤ 1048576) (hkl : ks.length ≤ 1048576) :
    Calls Try.prog 17 #[.agg #[.int .i64 s.id, .int .i64 s.sq, .int .i64 s.beg, .int .i64 s.fin, .slice A s.bat.length c, .bool s.put], .slice Ak ks.length ck] w (GbEnd s ks w) := by
  have H := Lib.hid h; clear h
  have HK := Lib.hid hk; clear hk
  by_cases h4 : 4096 < ks.length
  · have u1 : decide ((ks.length : Int) > 4096) = true := decide_eq_true (by omega)
    have u2 : decide (4096 < (ks.length : Int)) = true := decide_eq_true (by omega)
    have BK : Hid (Below w.heap.size w w) := Lib.hid (Below.refl _ _)
    clear H HK
    go_enter Try.func17, Try.ntmps17
    go_wp2
    refine bodyPost_ret (v := .tuple #[.agg #[.int .i64 0, .int .i64 0, .int .i64 0, .int .i64 0, .slice none 0 0, .bool false], .int .i64 2]) (by simp [results, Try.results17, go_sem, *]) rfl ⟨zIng, 2, none, 0, .inl ⟨by omega, rfl, rfl⟩, rfl, ⟨rfl, .inl ⟨rfl, rfl⟩⟩, ?_⟩
    repeat' first | with_reducible exact BK.out | (with_reducible exact Below.refl _ _) | (with_reducible refine bal ?_ _) | (with_reducible refine bset ?_ (by first | exact Nat.le_refl _ | exact Nat.le_succ _ | simp) _)
  have u1 : decide ((ks.length : Int) > 4096) = false := decide_eq_false (by omega)
  have u2 : decide (4096 < (ks.length : Int)) = false := decide_eq_false (by omega)
  have h4' : ks.length ≤ 4096 := by omega
  clear h4
  obtain ⟨W, hW⟩ : ∃ W, W = (w.alloc (.cells #[.int .i64 s.id, .int .i64 s.sq, .int .i64 s.beg, .int .i64 s.fin, .slice A s.bat.length c, .bool s.put] 24)).alloc (.cells #[.int .i64 0, .int .i64 0, .int .i64 0, .int .i64 0, .slice none 0 0, .bool false] 24) := ⟨_, rfl⟩
  have ca : Cells W w.heap.size 0 [.int .i64 s.id, .int .i64 s.sq, .int .i64 s.beg, .int .i64 s.fin, .slice A s.bat.length c, .bool s.put] := by rw [hW]; exact (Cells.new w _ _).below (bal (Below.refl _ _) _) (by simp)
  have cz : Cells W (w.heap.size + 1) 0 [.int .i64 0, .int .i64 0, .int .i64 0, .int .i64 0, .slice none 0 0, .bool false] := by
    rw [hW]; have := Cells.new (w.alloc (.cells #[.int .i64 s.id, .int .i64 s.sq, .int .i64 s.beg, .int .i64 s.fin, .slice A s.bat.length c, .bool s.put] 24)) [.int .i64 0, .int .i64 0, .int .i64 0, .int .i64 0, .slice none 0 0, .bool false] 24; simpa using this
  have fa : ∀ i, W.frozen? ⟨w.heap.size, i, none⟩ = false := fun i => by
    rw [hW]; exact (Free.below (free_alloc w #[.int .i64 s.id, .int .i64 s.sq, .int .i64 s.beg, .int .i64 s.fin, .slice A s.bat.length c, .bool s.put] 24 0) (bal (Below.refl _ _) _) (fun b e => by simp [blk] at e; subst e; simp)) _ rfl i
  have fz : ∀ i, W.frozen? ⟨w.heap.size + 1, i, none⟩ = false := fun i => by rw [hW]; simp [go_sem]
  have b0 : Below w.heap.size w W := by rw [hW]; exact bal (bal (Below.refl _ _) _) _
  have s0 : W.heap.size = w.heap.size + 2 := by rw [hW]; simp
  have HW := Lib.hid hW; clear hW
  have CA : Hid (∀ w', Below W.heap.size W w' → Cells w' w.heap.size 0 [.int .i64 s.id, .int .i64 s.sq, .int .i64 s.beg, .int .i64 s.fin, .slice A s.bat.length c, .bool s.put]) := Lib.hid (fun w' hb => ca.below hb (by omega))
  have CZ : Hid (∀ w', Below W.heap.size W w' → Cells w' (w.heap.size + 1) 0 [.int .i64 0, .int .i64 0, .int .i64 0, .int .i64 0, .slice none 0 0, .bool false]) := Lib.hid (fun w' hb => cz.below hb (by omega))
  have FA : Hid (∀ w', Below W.heap.size W w' → ∀ i, w'.frozen? ⟨w.heap.size, i, none⟩ = false) := Lib.hid (fun w' hb i => (hb.frozen (p := ⟨w.heap.size, i, none⟩) (by show w.heap.size < _; omega)).trans (fa i))
  have FZ : Hid (∀ w', Below W.heap.size W w' → ∀ i, w'.frozen? ⟨w.heap.size + 1, i, none⟩ = false) := Lib.hid (fun w' hb i => (hb.frozen (p := ⟨w.heap.size + 1, i, none⟩) (by show w.heap.size + 1 < _; omega)).trans (fz i))
  clear ca cz fa fz
  go_enter Try.func17, Try.ntmps17
  go_wp2_with fail
  rw [← HW.out]
  refine (specIngesterOK_any A c s B W (Sl.below H.out b0 hB) (by omega) hl).mono ?_
  rintro e w1 ⟨r1, hr1, rfl, hb1⟩
  have HR := Lib.hid hr1; clear hr1
  have b1 : Below w.heap.size w w1 := b0.trans (hb1.mono (by omega))
  cases r1
  · have cz1 := CZ.out _ hb1
    have z0 := cz1 0 _ rfl
    have y0 := FZ.out _ hb1 0
    have z1 := cz1 1 _ rfl
    have y1 := FZ.out _ hb1 1
    have z2 := cz1 2 _ rfl
    have y2 := FZ.out _ hb1 2
    have z3 := cz1 3 _ rfl
    have y3 := FZ.out _ hb1 3
    have z4 := cz1 4 _ rfl
    have y4 := FZ.out _ hb1 4
    have z5 := cz1 5 _ rfl
    have y5 := FZ.out _ hb1 5
    simp only [Nat.zero_add] at z0 z1 z2 z3 z4 z5
    have BK : Hid (Below w.heap.size w w1) := Lib.hid b1
    have HN : Hid (¬ (IngP s ∧ SamP ks)) := Lib.hid (fun h => by have := HR.out.2 h.1; cases this)
    clear cz1 hb1 b1 b0 s0
    go_wp2
    refine bodyPost_ret (v := .tuple #[.agg #[.int .i64 0, .int .i64 0, .int .i64 0, .int .i64 0, .slice none 0 0, .bool false], .int .i64 1]) (by simp [results, Try.results17, go_sem, *]) rfl ⟨zIng, 1, none, 0, .inr (.inl ⟨h4', HN.out, rfl, rfl⟩), rfl, ⟨rfl, .inl ⟨rfl, rfl⟩⟩, ?_⟩
    repeat' first | with_reducible exact BK.out | (with_reducible exact Below.refl _ _) | (with_reducible refine bal ?_ _) | (with_reducible refine bset ?_ (by first | exact Nat.le_refl _ | exact Nat.le_succ _ | simp) _)
  have HI : Hid (IngP s) := Lib.hid (HR.out.1 rfl)
  clear HR
  go_wp2_with fail
  refine (specSamplesOK_any Ak ck ks B w1 (Sl.below HK.out b1 hB) (Nat.le_trans hB b1.size) hkl).mono ?_
  rintro e w2 ⟨r2, hr2, rfl, hb2'⟩
  have HR := Lib.hid hr2; clear hr2
  have hb2 : Below W.heap.size W w2 := hb1.trans (hb2'.mono hb1.size)
  have b2 : Below w.heap.size w w2 := b0.trans (hb2.mono (by omega))
  clear hb1 hb2' b1
  cases r2
  · have cz1 := CZ.out _ hb2
    have z0 := cz1 0 _ rfl
    have y0 := FZ.out _ hb2 0
    have z1 := cz1 1 _ rfl
    have y1 := FZ.out _ hb2 1
    have z2 := cz1 2 _ rfl
    have y2 := FZ.out _ hb2 2
    have z3 := cz1 3 _ rfl
    have y3 := FZ.out _ hb2 3
    have z4 := cz1 4 _ rfl
    have y4 := FZ.out _ hb2 4
    have z5 := cz1 5 _ rfl
    have y5 := FZ.out _ hb2 5
    simp only [Nat.zero_add] at z0 z1 z2 z3 z4 z5
    have BK : Hid (Below w.heap.size w w2) := Lib.hid b2
    have HN : Hid (¬ (IngP s ∧ SamP ks)) := Lib.hid (fun h => by have := HR.out.2 h.2; cases this)
    clear cz1 hb2 b2 b0 s0
    go_wp2
    refine bodyPost_ret (v := .tuple #[.agg #[.int .i64 0, .int .i64 0, .int .i64 0, .int .i64 0, .slice none 0 0, .bool false], .int .i64 1]) (by simp [results, Try.results17, go_sem, *]) rfl ⟨zIng, 1, none, 0, .inr (.inl ⟨h4', HN.out, rfl, rfl⟩), rfl, ⟨rfl, .inl ⟨rfl, rfl⟩⟩, ?_⟩
    repeat' first | with_reducible exact BK.out | (with_reducible exact Below.refl _ _) | (with_reducible refine bal ?_ _) | (with_reducible refine bset ?_ (by first | exact Nat.le_refl _ | exact Nat.le_succ _ | simp) _)
  have HS : Hid (SamP ks) := Lib.hid (HR.out.1 rfl)
  clear HR
  have cz1 := CZ.out _ hb2
  have z0 := cz1 0 _ rfl
  have y0 := FZ.out _ hb2 0
  have z1 := cz1 1 _ rfl
  have y1 := FZ.out _ hb2 1
  have z2 := cz1 2 _ rfl
  have y2 := FZ.out _ hb2 2
  have z3 := cz1 3 _ rfl
  have y3 := FZ.out _ hb2 3
  have z4 := cz1 4 _ rfl
  have y4 := FZ.out _ hb2 4
  have z5 := cz1 5 _ rfl
  have y5 := FZ.out _ hb2 5
  simp only [Nat.zero_add] at z0 z1 z2 z3 z4 z5
  clear cz1
  go_wp2_with fail
  refine (inL_any _ _ _ _).mono ?_
  rintro e w3 ⟨rfl, rfl⟩
  cases d : inB (ks.length : Int) 1 8
  · have BK : Hid (Below w.heap.size w w2) := Lib.hid b2
    have HN : Hid (¬ (1 ≤ ks.length ∧ ks.length ≤ 8)) := Lib.hid (fun h => by have := inB_iff.2 (show (1 : Int) ≤ ks.length ∧ (ks.length : Int) ≤ 8 by omega); rw [d] at this; cases this)
    clear d hb2 b2 b0 s0
    go_wp2
    refine bodyPost_ret (v := .tuple #[.agg #[.int .i64 0, .int .i64 0, .int .i64 0, .int .i64 0, .slice none 0 0, .bool false], .int .i64 8]) (by simp [results, Try.results17, go_sem, *]) rfl ⟨zIng, 8, none, 0, .inr (.inr (.inl ⟨⟨HI.out, HS.out⟩, HN.out, rfl, rfl⟩)), rfl, ⟨rfl, .inl ⟨rfl, rfl⟩⟩, ?_⟩
    repeat' first | with_reducible exact BK.out | (with_reducible exact Below.refl _ _) | (with_reducible refine bal ?_ _) | (with_reducible refine bset ?_ (by first | exact Nat.le_refl _ | exact Nat.le_succ _ | simp) _)
  have h18 : 1 ≤ ks.length ∧ ks.length ≤ 8 := by have := inB_iff.1 d; omega
  clear d
  have ca2 := CA.out _ hb2
  have x0 := ca2 0 _ rfl
  have x1 := ca2 1 _ rfl
  have x2 := ca2 2 _ rfl
  have x3 := ca2 3 _ rfl
  have x4 := ca2 4 _ rfl
  have x5 := ca2 5 _ rfl
  simp only [Nat.zero_add] at x0 x1 x2 x3 x4 x5
  clear ca2
  by_cases h0 : 0 < s.bat.length
  · have v1 : decide ((s.bat.length : Int) > 0) = true := decide_eq_true (by omega)
    have v2 : decide (0 < (s.bat.length : Int)) = true := decide_eq_true (by omega)
    go_wp2_with fail
    refine (specOwnI_any A c s B w2 (Sl.below H.out b2 hB) (Nat.le_trans hB b2.size) hl).mono ?_
    rintro e w3 ⟨A1, c1, rfl, ho, hb3'⟩
    have hb3 : Below W.heap.size W w3 := hb2.trans (hb3'.mono hb2.size)
    have b3 : Below w.heap.size w w3 := b0.trans (hb3.mono (by omega))
    have s2 : W.heap.size ≤ w2.heap.size := hb2.size
    have cz3 := CZ.out _ hb3
    clear z0 z1 z2 z3 z4 z5 y0 y1 y2 y3 y4 y5 x0 x1 x2 x3 x4 x5
    have z0 := cz3 0 _ rfl
    have y0 := FZ.out _ hb3 0
    have z1 := cz3 1 _ rfl
    have y1 := FZ.out _ hb3 1
    have z2 := cz3 2 _ rfl
    have y2 := FZ.out _ hb3 2
    have z3 := cz3 3 _ rfl
    have y3 := FZ.out _ hb3 3
    have z4 := cz3 4 _ rfl
    have y4 := FZ.out _ hb3 4
    have z5 := cz3 5 _ rfl
    have y5 := FZ.out _ hb3 5
    simp only [Nat.zero_add] at z0 z1 z2 z3 z4 z5
    have BK : Hid (Below w.heap.size w w3) := Lib.hid b3
    have HO := Lib.hid ho
    clear cz3 ho hb3' hb3 hb2 b3 b2
    go_wp2
    refine bodyPost_ret (v := .tuple #[.agg #[.int .i64 s.id, .int .i64 s.sq, .int .i64 s.beg, .int .i64 s.fin, .slice A1 s.bat.length c1, .bool s.put], .int .i64 9]) (by simp [results, Try.results17, go_sem, *]) rfl ⟨s, 9, A1, c1, .inr (.inr (.inr (.inl ⟨⟨HI.out, HS.out⟩, h18, h0, rfl, rfl⟩))), rfl, own_monoI (base := w2.heap.size) ?_ (by omega), ?_⟩
    · repeat' first | with_reducible exact HO.out | (with_reducible refine own_farI ?_ (by dsimp only; omega) _)
    · repeat' first | with_reducible exact BK.out | (with_reducible exact Below.refl _ _) | (with_reducible refine bal ?_ _) | (with_reducible refine bset ?_ (by first | exact Nat.le_refl _ | exact Nat.le_succ _ | simp) _)
  have v1 : decide ((s.bat.length : Int) > 0) = false := decide_eq_false (by omega)
  have v2 : decide (0 < (s.bat.length : Int)) = false := decide_eq_false (by omega)
  have he : s.bat = [] := List.length_eq_zero_iff.1 (by omega)
  have HE := Lib.hid he; clear he
  have s2 : W.heap.size ≤ w2.heap.size := hb2.size
  have hz : s.put = false ∧ s.sq = 0 ∧ s.beg = 0 ∧ s.fin = 0 := by
    rcases HI.out.2.2.2 with h | ⟨_, h, _⟩
    · exact h
    · omega
  have hx : (⟨s.id, s.sq, s.beg, s.fin, ks, s.put⟩ : GIng) = ⟨s.id, 0, 0, 0, ks, false⟩ := by rw [hz.1, hz.2.1, hz.2.2.1, hz.2.2.2]
  have HX := Lib.hid hx; clear hx hz
  have fa4 := FA.out _ hb2 4
  have BK2 := Lib.hid (b2.setCell (p := ⟨w.heap.size, 4, none⟩) (Nat.le_refl _) (.slice Ak ks.length ck))
  have cz2 := Lib.hid ((CZ.out _ hb2).far (p := ⟨w.heap.size, 4, none⟩) (by show w.heap.size + 1 ≠ w.heap.size; omega) (.slice Ak ks.length ck))
  have fz2 : Hid (∀ i, (w2.setCell ⟨w.heap.size, 4, none⟩ (.slice Ak ks.length ck)).frozen? ⟨w.heap.size + 1, i, none⟩ = false) := Lib.hid (fun i => (frozen_setCell _ _ _ _).trans (FZ.out _ hb2 i))
  have sz2 : (w2.setCell ⟨w.heap.size, 4, none⟩ (.slice Ak ks.length ck)).heap.size = w2.heap.size := size_setCell _ _ _
  have b2s := b2.size
  clear hb2 b2 z0 z1 z2 z3 z4 z5 y0 y1 y2 y3 y4 y5
  go_wp2_with fail
  refine (specOwnI_any Ak ck ⟨s.id, s.sq, s.beg, s.fin, ks, s.put⟩ B _ (Sl.below HK.out BK2.out hB) (by rw [sz2]; omega) hkl).mono ?_
  rintro e w3 ⟨A1, c1, rfl, ho, hb3⟩
  have cz3 := cz2.out.below hb3 (by omega)
  have z0 := cz3 0 _ rfl
  have y0 := (hb3.frozen (p := ⟨w.heap.size + 1, 0, none⟩) (by show w.heap.size + 1 < _; omega)).trans (fz2.out 0)
  have z1 := cz3 1 _ rfl
  have y1 := (hb3.frozen (p := ⟨w.heap.size + 1, 1, none⟩) (by show w.heap.size + 1 < _; omega)).trans (fz2.out 1)
  have z2 := cz3 2 _ rfl
  have y2 := (hb3.frozen (p := ⟨w.heap.size + 1, 2, none⟩) (by show w.heap.size + 1 < _; omega)).trans (fz2.out 2)
  have z3 := cz3 3 _ rfl
  have y3 := (hb3.frozen (p := ⟨w.heap.size + 1, 3, none⟩) (by show w.heap.size + 1 < _; omega)).trans (fz2.out 3)
  have z4 := cz3 4 _ rfl
  have y4 := (hb3.frozen (p := ⟨w.heap.size + 1, 4, none⟩) (by show w.heap.size + 1 < _; omega)).trans (fz2.out 4)
  have z5 := cz3 5 _ rfl
  have y5 := (hb3.frozen (p := ⟨w.heap.size + 1, 5, none⟩) (by show w.heap.size + 1 < _; omega)).trans (fz2.out 5)
  simp only [Nat.zero_add] at z0 z1 z2 z3 z4 z5
  have BK : Hid (Below w.heap.size w w3) := Lib.hid (BK2.out.trans (hb3.mono (by omega)))
  have HO := Lib.hid ho
  clear cz3 ho hb3 x0 x1 x2 x3 x4 x5
  go_wp2
  refine bodyPost_ret (v := .tuple #[.agg #[.int .i64 s.id, .int .i64 s.sq, .int .i64 s.beg, .int .i64 s.fin, .slice A1 ks.length c1, .bool s.put], .int .i64 0]) (by simp [results, Try.results17, go_sem, *]) rfl ⟨⟨s.id, s.sq, s.beg, s.fin, ks, s.put⟩, 0, A1, c1, .inr (.inr (.inr (.inr ⟨⟨HI.out, HS.out⟩, h18, HE.out, HX.out, rfl⟩))), rfl, own_monoI (base := (w2.setCell ⟨w.heap.size, 4, none⟩ (.slice Ak ks.length ck)).heap.size) ?_ (by omega), ?_⟩
  · repeat' first | with_reducible exact HO.out | (with_reducible refine own_farI ?_ (by dsimp only; omega) _)
  · repeat' first | with_reducible exact BK.out | (with_reducible exact Below.refl _ _) | (with_reducible refine bal ?_ _) | (with_reducible refine bset ?_ (by first | exact Nat.le_refl _ | exact Nat.le_succ _ | simp) _)

end Go.Proofs.Ytpfanmcjlfdaiaa
