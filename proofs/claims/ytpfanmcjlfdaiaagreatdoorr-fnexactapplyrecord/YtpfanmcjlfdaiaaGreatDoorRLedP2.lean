/-
  Contract of the program's takesPublish, for records of tier 2. Conditions: the key is one of a datum, the range is a range, the program's tables.
-/
import Derived.Test.YtpfanmcjlfdaiaaGreatDoorRTk
import Derived.Test.YtpfanmcjlfdaiaaGreatDoorRN10
import Derived.Deep.RegionHeld3
namespace Go.Proofs.YtpfanmcjlfdaiaaGreatDoorR
open Go.ChangeShapes Go.WideShapes Go.ChangeAt Go.RowKit Go.Deep Go.Joins Go.Maps
set_option linter.unusedVariables false
set_option linter.unusedSimpArgs false

set_option maxRecDepth 100000 in
set_option maxHeartbeats 40000000 in
theorem takesPublish_2 (base g : Nat) (s : GSt) (A : Option Addr) (c : Nat) (A2 : Option Addr) (c2 m n : Nat) (w : World) (hL : Led base g w s A c A2 c2 m n) (kd tk bg fi : Int) (ky : ByteArray) (hk : AnyKey ky) (hb : 0 ≤ bg ∧ bg ≤ 100000) (hf : 0 ≤ fi ∧ fi ≤ 100000) (hp : Paths w) (hz : 1 < w.heap.size) (hw : Tab3 0 wid w) (hz2 : 0 < w.heap.size) :
    Calls Tryz.prog 100 #[.pointer (some ⟨g, 0, none⟩), .agg #[.int .i64 kd, .int .i64 tk, .int .i64 2, .int .i64 bg, .int .i64 fi, .string ky]] w (IsBB (TakeB s ⟨kd, tk, 2, bg, fi, ky⟩) w) := by
  have HL := Lib.hid hL; clear hL
  have HK := Lib.hid hk; clear hk
  have hks : ky.size ≤ 17 := by obtain ⟨t, n, m, h⟩ := HK.out; exact isKey_size h
  have Hp := Lib.hid hp; clear hp
  have Hw := Lib.hid hw; clear hw
  go_enter Tryz.func100, Tryz.ntmps100
  go_wp2_with fail
  obtain ⟨W, hW⟩ : ∃ W, W = w.alloc (.cells #[.int .i64 kd, .int .i64 tk, .int .i64 2, .int .i64 bg, .int .i64 fi, .string ky] 38) := ⟨_, rfl⟩
  have cr : Cells W w.heap.size 0 [.int .i64 kd, .int .i64 tk, .int .i64 2, .int .i64 bg, .int .i64 fi, .string ky] := by rw [hW]; exact Cells.new w _ _
  have b0 : Below w.heap.size w W := by rw [hW]; exact bal (Below.refl _ _) _
  have s0 : w.heap.size < W.heap.size := by rw [hW]; simp
  rw [← hW]
  clear hW
  have CR := Lib.hid cr; clear cr
  refine (readKey_any ky W (by omega) (Hp.out.below b0 hz) (Nat.lt_of_lt_of_le hz b0.size)).mono ?_
  rintro e w2 ⟨t, nn, mm, cd, rfl, hkc, hb2⟩
  have HI := Lib.hid (key_of hkc HK.out); clear hkc
  have b2 : Below w.heap.size w w2 := bnext b0 hb2
  have hgl := HL.out.gl
  obtain ⟨k0, k1, k2, k3, k4, k5, k6, k7, k8, k9, k10⟩ := cells11 (HL.out.kept b2).cs
  have cr := CR.out.below hb2 s0
  have r1 := cr 1 _ rfl
  have r2 := cr 2 _ rfl
  have r3 := cr 3 _ rfl
  have r4 := cr 4 _ rfl
  have r5 := cr 5 _ rfl
  simp only [Nat.zero_add] at r1 r2 r3 r4 r5
  have gw : w2.cell? ⟨0, 2, none⟩ = some (.int .i64 20) := (b2.cell (p := ⟨0, 2, none⟩) hz2).trans (Hw.out 2 (by omega))
  have hm : TxtFn w2 m n (fun k => memB k (keysAll s)) := (HL.out.kept b2).mp
  obtain ⟨bm, hbm⟩ : ∃ b, b = memB ky (keysAll s) := ⟨_, rfl⟩
  have hlk : ∀ j, (Instr.lookup 71 (.map (some m)) (.string ky) false).run Tryz.prog (w2.drewN j) = .ok (.bool bm) (w2.drewN j) := fun j => by rw [hbm]; exact TxtFn.look (show TxtFn (w2.drewN j) m n (fun k => memB k (keysAll s)) from hm) (by omega)
  have w1 : wrap64 (fi - bg) = fi - bg := by unfold wrap64; omega
  have HW0 := Lib.hid (show IntKind.i64.wrap (fi - bg) = fi - bg from by rw [IntKind.wrap_i64]; omega)
  have w3 : wrap64 ((2 : Int) - 1) = 1 := by unfold wrap64; omega
  have HT : Hid (TakeB s ⟨kd, tk, 2, bg, fi, ky⟩ ↔ bm = false ∧ tk = s.fe ∧ bg = s.hi.c ∧ nn = bg ∧ mm = tk ∧ fi - bg = 20 ∧ fi ≤ s.hi.b ∧ s.lo.b ≤ bg) := Lib.hid (by
    have hm : bm = false ↔ ky ∉ keysAll s := by rw [hbm, ← Bool.not_eq_true, memB_iff]
    have hI := HI.out
    simp only [TakeB, GTri.at, wid]
    simp
    rw [← hm]
    constructor
    · rintro ⟨⟨t', h⟩, h1, h2, h3, h4, h5, h6⟩
      obtain ⟨_, e1, e2⟩ := isKey_one hI h
      exact ⟨h6, h1, h2, e1, e2, by omega, h4, h5⟩
    · rintro ⟨h6, h1, h2, e1, e2, h3, h4, h5⟩
      exact ⟨⟨t, by rw [e1, e2] at hI; exact hI⟩, h1, h2, by omega, h4, h5, h6⟩)
  clear hbm hm cr k2 k3 k4 k6 k7 hb2 b0 s0 HL Hp Hw HK HI hks k0
  go_upto_region 3 with fail
  refine wp_region_noPanic ?_
  refine wp_region_held_drew (S := fun w' => w'.cell? ⟨g, 1, none⟩ = some (.int .i64 s.fe) ∧ w'.cell? ⟨g, 5, none⟩ = some (.int .i64 s.lo.b) ∧ w'.cell? ⟨g, 9, none⟩ = some (.int .i64 s.hi.c) ∧ w'.cell? ⟨g, 8, none⟩ = some (.int .i64 s.hi.b) ∧ w'.cell? ⟨g, 10, none⟩ = some (.map (some m)) ∧ w'.cell? ⟨w.heap.size, 1, none⟩ = some (.int .i64 tk) ∧ w'.cell? ⟨w.heap.size, 2, none⟩ = some (.int .i64 2) ∧ w'.cell? ⟨w.heap.size, 3, none⟩ = some (.int .i64 bg) ∧ w'.cell? ⟨w.heap.size, 4, none⟩ = some (.int .i64 fi) ∧ w'.cell? ⟨w.heap.size, 5, none⟩ = some (.string ky) ∧ w'.cell? ⟨0, 2, none⟩ = some (.int .i64 20) ∧ (Instr.lookup 71 (.map (some m)) (.string ky) false).run Tryz.prog w' = .ok (.bool bm) w') (by kernel_rfl) (by exact ⟨k1, k5, k9, k8, k10, r1, r2, r3, r4, r5, gw, hlk 1⟩) (fun hHeld => ?_)
  refine kT 0 ?_
  go_frame
  refine kT 1 ?_
  go_frame
  refine kT 2 ?_
  go_frame
  refine kT 3 ?_
  go_frame
  refine kT 4 ?_
  go_frame
  refine kT 5 ?_
  go_frame
  cases bm
  rotate_left
  · have Hn : Hid (¬ TakeB s ⟨kd, tk, 2, bg, fi, ky⟩) := Lib.hid (fun h => by have := (HT.out.1 h).1; cases this)
    refine kT 6 ?_
    go_frame
    refine kT 7 ?_
    go_frame
    refine kT 8 ?_
    go_frame
    refine kS 9 ?_
    go_frame
    refine kS 10 ?_
    go_frame
    refine kS 11 ?_
    go_frame
    refine kS 12 ?_
    go_frame
    refine kS 13 ?_
    go_frame
    refine kS 14 ?_
    go_frame
    refine kS 15 ?_
    go_frame
    refine kS 16 ?_
    go_frame
    refine kT 17 ?_
    go_frame
    refine kT 18 ?_
    go_frame
    refine kS 19 ?_
    go_frame
    refine kS 20 ?_
    go_frame
    refine kS 21 ?_
    go_frame
    refine kS 22 ?_
    go_frame
    refine kS 23 ?_
    go_frame
    refine kS 24 ?_
    go_frame
    refine kS 25 ?_
    go_frame
    refine kS 26 ?_
    go_frame
    refine kS 27 ?_
    go_frame
    refine kS 28 ?_
    go_frame
    refine kS 29 ?_
    go_frame
    refine kT 30 ?_
    go_frame
    refine kT 31 ?_
    go_frame
    refine kS 32 ?_
    go_frame
    refine kS 33 ?_
    go_frame
    refine kS 34 ?_
    go_frame
    refine kS 35 ?_
    go_frame
    refine kT 36 ?_
    go_frame
    refine kT 37 ?_
    go_frame
    refine kS 38 ?_
    go_frame
    refine kS 39 ?_
    go_frame
    refine kS 40 ?_
    go_frame
    refine kS 41 ?_
    go_frame
    refine kT 42 ?_
    go_frame
    refine kT 43 ?_
    go_frame
    refine kS 44 ?_
    go_frame
    refine kS 45 ?_
    go_frame
    refine kS 46 ?_
    go_frame
    refine kS 47 ?_
    go_frame
    refine kS 48 ?_
    go_frame
    refine kS 49 ?_
    go_frame
    refine kS 50 ?_
    go_frame
    refine kS 51 ?_
    go_frame
    refine kS 52 ?_
    go_frame
    refine kS 53 ?_
    go_frame
    refine kT 54 ?_
    go_frame
    refine kT 55 ?_
    go_frame
    refine kS 56 ?_
    go_frame
    refine kS 57 ?_
    go_frame
    refine kS 58 ?_
    go_frame
    refine kS 59 ?_
    go_frame
    refine kS 60 ?_
    go_frame
    refine kS 61 ?_
    go_frame
    refine kS 62 ?_
    go_frame
    refine kS 63 ?_
    go_frame
    refine kS 64 ?_
    go_frame
    refine kS 65 ?_
    go_frame
    refine kT 66 ?_
    go_frame
    refine kT 67 ?_
    go_frame
    refine kS 68 ?_
    go_frame
    refine kS 69 ?_
    go_frame
    refine kS 70 ?_
    go_frame
    refine kS 71 ?_
    go_frame
    refine kS 72 ?_
    go_frame
    refine kS 73 ?_
    go_frame
    refine kS 74 ?_
    go_frame
    refine kS 75 ?_
    go_frame
    refine kS 76 ?_
    go_frame
    refine kS 77 ?_
    go_frame
    refine kT 78 ?_
    go_frame
    refine kT 79 ?_
    go_frame
    refine wpAnyH_done (by kernel_rfl) ?_ _
    refine NoPanic.normal ?_
    clear hHeld
    go_wp2
    go_ret
    exact ⟨false, by simp [Hn.out], rfl, b2.drew⟩
  refine kT 6 ?_
  go_frame
  refine kT 7 ?_
  go_frame
  refine kT 8 ?_
  go_frame
  refine kT 9 ?_
  go_frame
  refine kT 10 ?_
  go_frame
  refine kT 11 ?_
  go_frame
  refine kT 12 ?_
  go_frame
  refine kT 13 ?_
  go_frame
  refine kT 14 ?_
  go_frame
  refine kT 15 ?_
  go_frame
  by_cases h1 : tk = s.fe
  rotate_left
  · have u1 : (tk == s.fe) = false := beq_false_of_ne h1
    have Hn : Hid (¬ TakeB s ⟨kd, tk, 2, bg, fi, ky⟩) := Lib.hid (fun h => h1 (HT.out.1 h).2.1)
    clear h1
    refine kT 16 ?_
    go_frame
    refine kT 17 ?_
    go_frame
    refine kT 18 ?_
    go_frame
    refine kS 19 ?_
    go_frame
    refine kS 20 ?_
    go_frame
    refine kS 21 ?_
    go_frame
    refine kS 22 ?_
    go_frame
    refine kS 23 ?_
    go_frame
    refine kS 24 ?_
    go_frame
    refine kS 25 ?_
    go_frame
    refine kS 26 ?_
    go_frame
    refine kS 27 ?_
    go_frame
    refine kS 28 ?_
    go_frame
    refine kS 29 ?_
    go_frame
    refine kT 30 ?_
    go_frame
    refine kT 31 ?_
    go_frame
    refine kS 32 ?_
    go_frame
    refine kS 33 ?_
    go_frame
    refine kS 34 ?_
    go_frame
    refine kS 35 ?_
    go_frame
    refine kT 36 ?_
    go_frame
    refine kT 37 ?_
    go_frame
    refine kS 38 ?_
    go_frame
    refine kS 39 ?_
    go_frame
    refine kS 40 ?_
    go_frame
    refine kS 41 ?_
    go_frame
    refine kT 42 ?_
    go_frame
    refine kT 43 ?_
    go_frame
    refine kS 44 ?_
    go_frame
    refine kS 45 ?_
    go_frame
    refine kS 46 ?_
    go_frame
    refine kS 47 ?_
    go_frame
    refine kS 48 ?_
    go_frame
    refine kS 49 ?_
    go_frame
    refine kS 50 ?_
    go_frame
    refine kS 51 ?_
    go_frame
    refine kS 52 ?_
    go_frame
    refine kS 53 ?_
    go_frame
    refine kT 54 ?_
    go_frame
    refine kT 55 ?_
    go_frame
    refine kS 56 ?_
    go_frame
    refine kS 57 ?_
    go_frame
    refine kS 58 ?_
    go_frame
    refine kS 59 ?_
    go_frame
    refine kS 60 ?_
    go_frame
    refine kS 61 ?_
    go_frame
    refine kS 62 ?_
    go_frame
    refine kS 63 ?_
    go_frame
    refine kS 64 ?_
    go_frame
    refine kS 65 ?_
    go_frame
    refine kT 66 ?_
    go_frame
    refine kT 67 ?_
    go_frame
    refine kS 68 ?_
    go_frame
    refine kS 69 ?_
    go_frame
    refine kS 70 ?_
    go_frame
    refine kS 71 ?_
    go_frame
    refine kS 72 ?_
    go_frame
    refine kS 73 ?_
    go_frame
    refine kS 74 ?_
    go_frame
    refine kS 75 ?_
    go_frame
    refine kS 76 ?_
    go_frame
    refine kS 77 ?_
    go_frame
    refine kT 78 ?_
    go_frame
    refine kT 79 ?_
    go_frame
    refine wpAnyH_done (by kernel_rfl) ?_ _
    refine NoPanic.normal ?_
    clear hHeld
    go_wp2
    go_ret
    exact ⟨false, by simp [Hn.out], rfl, b2.drew⟩
  have u1 : (tk == s.fe) = true := by simpa using h1
  have Hh1 := Lib.hid h1; clear h1
  refine kT 16 ?_
  go_frame
  refine kT 17 ?_
  go_frame
  refine kT 18 ?_
  go_frame
  refine kT 19 ?_
  go_frame
  refine kT 20 ?_
  go_frame
  refine kT 21 ?_
  go_frame
  refine kT 22 ?_
  go_frame
  refine kT 23 ?_
  go_frame
  refine kT 24 ?_
  go_frame
  refine kT 25 ?_
  go_frame
  refine kT 26 ?_
  go_frame
  refine kT 27 ?_
  go_frame
  refine kT 28 ?_
  go_frame
  by_cases h2 : bg = s.hi.c
  rotate_left
  · have u2 : (bg == s.hi.c) = false := beq_false_of_ne h2
    have Hn : Hid (¬ TakeB s ⟨kd, tk, 2, bg, fi, ky⟩) := Lib.hid (fun h => h2 (HT.out.1 h).2.2.1)
    clear h2
    refine kT 29 ?_
    go_frame
    refine kT 30 ?_
    go_frame
    refine kT 31 ?_
    go_frame
    refine kS 32 ?_
    go_frame
    refine kS 33 ?_
    go_frame
    refine kS 34 ?_
    go_frame
    refine kS 35 ?_
    go_frame
    refine kT 36 ?_
    go_frame
    refine kT 37 ?_
    go_frame
    refine kS 38 ?_
    go_frame
    refine kS 39 ?_
    go_frame
    refine kS 40 ?_
    go_frame
    refine kS 41 ?_
    go_frame
    refine kT 42 ?_
    go_frame
    refine kT 43 ?_
    go_frame
    refine kS 44 ?_
    go_frame
    refine kS 45 ?_
    go_frame
    refine kS 46 ?_
    go_frame
    refine kS 47 ?_
    go_frame
    refine kS 48 ?_
    go_frame
    refine kS 49 ?_
    go_frame
    refine kS 50 ?_
    go_frame
    refine kS 51 ?_
    go_frame
    refine kS 52 ?_
    go_frame
    refine kS 53 ?_
    go_frame
    refine kT 54 ?_
    go_frame
    refine kT 55 ?_
    go_frame
    refine kS 56 ?_
    go_frame
    refine kS 57 ?_
    go_frame
    refine kS 58 ?_
    go_frame
    refine kS 59 ?_
    go_frame
    refine kS 60 ?_
    go_frame
    refine kS 61 ?_
    go_frame
    refine kS 62 ?_
    go_frame
    refine kS 63 ?_
    go_frame
    refine kS 64 ?_
    go_frame
    refine kS 65 ?_
    go_frame
    refine kT 66 ?_
    go_frame
    refine kT 67 ?_
    go_frame
    refine kS 68 ?_
    go_frame
    refine kS 69 ?_
    go_frame
    refine kS 70 ?_
    go_frame
    refine kS 71 ?_
    go_frame
    refine kS 72 ?_
    go_frame
    refine kS 73 ?_
    go_frame
    refine kS 74 ?_
    go_frame
    refine kS 75 ?_
    go_frame
    refine kS 76 ?_
    go_frame
    refine kS 77 ?_
    go_frame
    refine kT 78 ?_
    go_frame
    refine kT 79 ?_
    go_frame
    refine wpAnyH_done (by kernel_rfl) ?_ _
    refine NoPanic.normal ?_
    clear hHeld
    go_wp2
    go_ret
    exact ⟨false, by simp [Hn.out], rfl, b2.drew⟩
  have u2 : (bg == s.hi.c) = true := by simpa using h2
  have Hh2 := Lib.hid h2; clear h2
  refine kT 29 ?_
  go_frame
  refine kT 30 ?_
  go_frame
  refine kT 31 ?_
  go_frame
  refine kT 32 ?_
  go_frame
  refine kT 33 ?_
  go_frame
  refine kT 34 ?_
  go_frame
  by_cases h3 : nn = bg
  rotate_left
  · have u3 : (nn == bg) = false := beq_false_of_ne h3
    have Hn : Hid (¬ TakeB s ⟨kd, tk, 2, bg, fi, ky⟩) := Lib.hid (fun h => h3 (HT.out.1 h).2.2.2.1)
    clear h3
    refine kT 35 ?_
    go_frame
    refine kT 36 ?_
    go_frame
    refine kT 37 ?_
    go_frame
    refine kS 38 ?_
    go_frame
    refine kS 39 ?_
    go_frame
    refine kS 40 ?_
    go_frame
    refine kS 41 ?_
    go_frame
    refine kT 42 ?_
    go_frame
    refine kT 43 ?_
    go_frame
    refine kS 44 ?_
    go_frame
    refine kS 45 ?_
    go_frame
    refine kS 46 ?_
    go_frame
    refine kS 47 ?_
    go_frame
    refine kS 48 ?_
    go_frame
    refine kS 49 ?_
    go_frame
    refine kS 50 ?_
    go_frame
    refine kS 51 ?_
    go_frame
    refine kS 52 ?_
    go_frame
    refine kS 53 ?_
    go_frame
    refine kT 54 ?_
    go_frame
    refine kT 55 ?_
    go_frame
    refine kS 56 ?_
    go_frame
    refine kS 57 ?_
    go_frame
    refine kS 58 ?_
    go_frame
    refine kS 59 ?_
    go_frame
    refine kS 60 ?_
    go_frame
    refine kS 61 ?_
    go_frame
    refine kS 62 ?_
    go_frame
    refine kS 63 ?_
    go_frame
    refine kS 64 ?_
    go_frame
    refine kS 65 ?_
    go_frame
    refine kT 66 ?_
    go_frame
    refine kT 67 ?_
    go_frame
    refine kS 68 ?_
    go_frame
    refine kS 69 ?_
    go_frame
    refine kS 70 ?_
    go_frame
    refine kS 71 ?_
    go_frame
    refine kS 72 ?_
    go_frame
    refine kS 73 ?_
    go_frame
    refine kS 74 ?_
    go_frame
    refine kS 75 ?_
    go_frame
    refine kS 76 ?_
    go_frame
    refine kS 77 ?_
    go_frame
    refine kT 78 ?_
    go_frame
    refine kT 79 ?_
    go_frame
    refine wpAnyH_done (by kernel_rfl) ?_ _
    refine NoPanic.normal ?_
    clear hHeld
    go_wp2
    go_ret
    exact ⟨false, by simp [Hn.out], rfl, b2.drew⟩
  have u3 : (nn == bg) = true := by simpa using h3
  have Hh3 := Lib.hid h3; clear h3
  refine kT 35 ?_
  go_frame
  refine kT 36 ?_
  go_frame
  refine kT 37 ?_
  go_frame
  refine kT 38 ?_
  go_frame
  refine kT 39 ?_
  go_frame
  refine kT 40 ?_
  go_frame
  by_cases h4 : mm = tk
  rotate_left
  · have u4 : (mm == tk) = false := beq_false_of_ne h4
    have Hn : Hid (¬ TakeB s ⟨kd, tk, 2, bg, fi, ky⟩) := Lib.hid (fun h => h4 (HT.out.1 h).2.2.2.2.1)
    clear h4
    refine kT 41 ?_
    go_frame
    refine kT 42 ?_
    go_frame
    refine kT 43 ?_
    go_frame
    refine kS 44 ?_
    go_frame
    refine kS 45 ?_
    go_frame
    refine kS 46 ?_
    go_frame
    refine kS 47 ?_
    go_frame
    refine kS 48 ?_
    go_frame
    refine kS 49 ?_
    go_frame
    refine kS 50 ?_
    go_frame
    refine kS 51 ?_
    go_frame
    refine kS 52 ?_
    go_frame
    refine kS 53 ?_
    go_frame
    refine kT 54 ?_
    go_frame
    refine kT 55 ?_
    go_frame
    refine kS 56 ?_
    go_frame
    refine kS 57 ?_
    go_frame
    refine kS 58 ?_
    go_frame
    refine kS 59 ?_
    go_frame
    refine kS 60 ?_
    go_frame
    refine kS 61 ?_
    go_frame
    refine kS 62 ?_
    go_frame
    refine kS 63 ?_
    go_frame
    refine kS 64 ?_
    go_frame
    refine kS 65 ?_
    go_frame
    refine kT 66 ?_
    go_frame
    refine kT 67 ?_
    go_frame
    refine kS 68 ?_
    go_frame
    refine kS 69 ?_
    go_frame
    refine kS 70 ?_
    go_frame
    refine kS 71 ?_
    go_frame
    refine kS 72 ?_
    go_frame
    refine kS 73 ?_
    go_frame
    refine kS 74 ?_
    go_frame
    refine kS 75 ?_
    go_frame
    refine kS 76 ?_
    go_frame
    refine kS 77 ?_
    go_frame
    refine kT 78 ?_
    go_frame
    refine kT 79 ?_
    go_frame
    refine wpAnyH_done (by kernel_rfl) ?_ _
    refine NoPanic.normal ?_
    clear hHeld
    go_wp2
    go_ret
    exact ⟨false, by simp [Hn.out], rfl, b2.drew⟩
  have u4 : (mm == tk) = true := by simpa using h4
  have Hh4 := Lib.hid h4; clear h4
  refine kT 41 ?_
  go_frame
  refine kT 42 ?_
  go_frame
  refine kT 43 ?_
  go_frame
  refine kT 44 ?_
  go_frame
  refine kT 45 ?_
  go_frame
  refine kT 46 ?_
  go_frame
  refine kT 47 ?_
  go_frame
  refine kT 48 ?_
  go_frame
  refine kT 49 ?_
  go_frame
  refine kT 50 ?_
  go_frame
  refine kT 51 ?_
  go_frame
  refine kT 52 ?_
  go_frame
  by_cases h5 : fi - bg = 20
  rotate_left
  · have u5 : (fi - bg == 20) = false := beq_false_of_ne h5
    have Hn : Hid (¬ TakeB s ⟨kd, tk, 2, bg, fi, ky⟩) := Lib.hid (fun h => h5 (HT.out.1 h).2.2.2.2.2.1)
    clear h5
    have HWd : Hid ((IntKind.i64.wrap (fi - bg) == 20) = false) := Lib.hid (by rw [HW0.out]; exact u5)
    refine kT 53 ?_
    go_frame
    rw [HWd.out]
    refine kT 54 ?_
    go_frame
    refine kT 55 ?_
    go_frame
    refine kS 56 ?_
    go_frame
    refine kS 57 ?_
    go_frame
    refine kS 58 ?_
    go_frame
    refine kS 59 ?_
    go_frame
    refine kS 60 ?_
    go_frame
    refine kS 61 ?_
    go_frame
    refine kS 62 ?_
    go_frame
    refine kS 63 ?_
    go_frame
    refine kS 64 ?_
    go_frame
    refine kS 65 ?_
    go_frame
    refine kT 66 ?_
    go_frame
    refine kT 67 ?_
    go_frame
    refine kS 68 ?_
    go_frame
    refine kS 69 ?_
    go_frame
    refine kS 70 ?_
    go_frame
    refine kS 71 ?_
    go_frame
    refine kS 72 ?_
    go_frame
    refine kS 73 ?_
    go_frame
    refine kS 74 ?_
    go_frame
    refine kS 75 ?_
    go_frame
    refine kS 76 ?_
    go_frame
    refine kS 77 ?_
    go_frame
    refine kT 78 ?_
    go_frame
    refine kT 79 ?_
    go_frame
    refine wpAnyH_done (by kernel_rfl) ?_ _
    refine NoPanic.normal ?_
    clear hHeld
    go_wp2
    go_ret
    exact ⟨false, by simp [Hn.out], rfl, b2.drew⟩
  have u5 : (fi - bg == 20) = true := by simpa using h5
  have Hh5 := Lib.hid h5; clear h5
  have HWd : Hid ((IntKind.i64.wrap (fi - bg) == 20) = true) := Lib.hid (by rw [HW0.out]; exact u5)
  refine kT 53 ?_
  go_frame
  rw [HWd.out]
  refine kT 54 ?_
  go_frame
  refine kT 55 ?_
  go_frame
  refine kT 56 ?_
  go_frame
  refine kT 57 ?_
  go_frame
  refine kT 58 ?_
  go_frame
  refine kT 59 ?_
  go_frame
  refine kT 60 ?_
  go_frame
  refine kT 61 ?_
  go_frame
  refine kT 62 ?_
  go_frame
  refine kT 63 ?_
  go_frame
  refine kT 64 ?_
  go_frame
  by_cases h6 : fi ≤ s.hi.b
  rotate_left
  · have u6 : decide (fi ≤ s.hi.b) = false := decide_eq_false h6
    have Hn : Hid (¬ TakeB s ⟨kd, tk, 2, bg, fi, ky⟩) := Lib.hid (fun h => h6 (HT.out.1 h).2.2.2.2.2.2.1)
    clear h6
    refine kT 65 ?_
    go_frame
    refine kT 66 ?_
    go_frame
    refine kT 67 ?_
    go_frame
    refine kS 68 ?_
    go_frame
    refine kS 69 ?_
    go_frame
    refine kS 70 ?_
    go_frame
    refine kS 71 ?_
    go_frame
    refine kS 72 ?_
    go_frame
    refine kS 73 ?_
    go_frame
    refine kS 74 ?_
    go_frame
    refine kS 75 ?_
    go_frame
    refine kS 76 ?_
    go_frame
    refine kS 77 ?_
    go_frame
    refine kT 78 ?_
    go_frame
    refine kT 79 ?_
    go_frame
    refine wpAnyH_done (by kernel_rfl) ?_ _
    refine NoPanic.normal ?_
    clear hHeld
    go_wp2
    go_ret
    exact ⟨false, by simp [Hn.out], rfl, b2.drew⟩
  have u6 : decide (fi ≤ s.hi.b) = true := decide_eq_true h6
  have Hh6 := Lib.hid h6; clear h6
  refine kT 65 ?_
  go_frame
  refine kT 66 ?_
  go_frame
  refine kT 67 ?_
  go_frame
  refine kT 68 ?_
  go_frame
  refine kT 69 ?_
  go_frame
  refine kT 70 ?_
  go_frame
  refine kT 71 ?_
  go_frame
  refine kT 72 ?_
  go_frame
  refine kT 73 ?_
  go_frame
  refine kT 74 ?_
  go_frame
  refine kT 75 ?_
  go_frame
  refine kT 76 ?_
  go_frame
  refine kT 77 ?_
  go_frame
  refine kT 78 ?_
  go_frame
  refine kT 79 ?_
  go_frame
  refine wpAnyH_done (by kernel_rfl) ?_ _
  refine NoPanic.normal ?_
  have Hi : Hid (decide (s.lo.b ≤ bg) = true ↔ TakeB s ⟨kd, tk, 2, bg, fi, ky⟩) := Lib.hid (by
    rw [decide_eq_true_eq]
    exact ⟨fun h => HT.out.2 ⟨rfl, Hh1.out, Hh2.out, Hh3.out, Hh4.out, Hh5.out, Hh6.out, h⟩, fun h => (HT.out.1 h).2.2.2.2.2.2.2⟩)
  clear hHeld
  go_wp2
  go_ret
  exact ⟨_, Hi.out, rfl, b2.drew⟩

end Go.Proofs.YtpfanmcjlfdaiaaGreatDoorR
