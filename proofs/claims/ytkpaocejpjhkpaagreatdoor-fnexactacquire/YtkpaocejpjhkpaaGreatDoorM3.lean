/-
  Several texts as one: contracts that the law leans on; each part says what it proves and its conditions.
-/
import Derived.Test.YtkpaocejpjhkpaaGreatDoorM1
import Derived.Deep.RegionHeld3
import Derived.Deep.DeepCutAuto

/- Contract of the program's Acquire. Conditions: those of ReadLease and LeaseText; lengths. -/
namespace Go.Proofs.YtkpaocejpjhkpaaGreatDoor
open Go.ChangeShapes Go.WideShapes Go.ChangeAt Go.RowKit Go.Maps
set_option linter.unusedVariables false
set_option linter.unusedSimpArgs false

/-- what Acquire answers once nothing was found ahead -/
def AcqC (xs : List GObj) (next who now : Int) (L : List GObj) (nx tok cd : Int) : Prop := ∃ a ver cd0, LseAt xs a ver cd0 ∧
  ((cd0 ≠ 0 ∧ L = xs ∧ nx = next ∧ tok = 0 ∧ cd = cd0) ∨ (cd0 = 0 ∧ keepB a now = true ∧ L = xs ∧ nx = next ∧ tok = 0 ∧ cd = 12) ∨
   (cd0 = 0 ∧ keepB a now = false ∧ a.tk = 999999 ∧ L = xs ∧ nx = next ∧ tok = 0 ∧ cd = 7) ∨
   (cd0 = 0 ∧ keepB a now = false ∧ a.tk ≠ 999999 ∧ PutR xs next ⟨a.tk + 1, who, now + 20⟩ L nx cd ∧ ((cd = 0 ∧ tok = a.tk + 1) ∨ (cd ≠ 0 ∧ tok = 0))))

/-- what Acquire answers -/
def AcqR (xs : List GObj) (next who now : Int) (L : List GObj) (nx tok cd : Int) : Prop :=
  (AskL xs next who now cd ∧ cd ≠ 0 ∧ L = [] ∧ nx = 0 ∧ tok = 0) ∨ (AskL xs next who now 0 ∧ AcqC xs next who now L nx tok cd)

set_option maxRecDepth 100000 in
set_option maxHeartbeats 4000000 in
theorem acquire_any (A : Option Addr) (c : Nat) (next : Int) (xs : List GObj) (who now : Int) (B : Nat) (w : World) (h : ObjsAt w B A xs) (hB : B ≤ w.heap.size) (hf : ∀ o ∈ xs, o.fit) (hl : xs.length ≤ 1048576) (hE : Errs w) (hP : Pow w) (hM : MaxL w) :
    Calls Tryz.prog 9 #[.agg #[.slice A xs.length c, .int .i64 next], .int .i64 who, .int .i64 now] w (StAns (AcqR xs next who now) w) := by
  have H := Lib.hid h; clear h
  have Hf := Lib.hid hf; clear hf
  have hEP := fun w' (h : Below w.heap.size w w') => And.intro (hE.below h (Nat.le_refl _)) (And.intro (hP.below h (Nat.le_refl _)) (hM.below h (Nat.le_refl _)))
  have HEP := Lib.hid hEP; clear hEP hE hP hM
  go_enter Tryz.func9, Tryz.ntmps9
  go_wp2_with fail
  obtain ⟨W, hW⟩ : ∃ W, W = (w.alloc (.cells #[.slice A xs.length c, .int .i64 next] 28)).alloc (.cells #[.slice none 0 0, .int .i64 0] 28) := ⟨_, rfl⟩
  have t2 : ZeroSt W (w.heap.size + 1) := by
    rw [hW]
    have := ZeroSt.new (w.alloc (.cells #[.slice A xs.length c, .int .i64 next] 28)) 28
    simpa using this
  have t0 : Two W w.heap.size (.slice A xs.length c) (.int .i64 next) := by rw [hW]; exact (Two.new w _ _ _).alloc (by simp) _
  have b0 : Below w.heap.size w W := by rw [hW]; exact bal (bal (Below.refl _ _) _) _
  rw [← hW]
  clear hW
  have T2 := Lib.hid t2; have T0 := Lib.hid t0
  clear t2 t0
  have s0 := T2.out.2.2
  generalize hx : w.heap.size = x at *
  have Hx := Lib.hid hx; clear hx
  refine (leaseFault_any A c next xs who now B W (Sl.below H.out b0 hB) (by omega) Hf.out hl).mono ?_
  rintro e w1 ⟨cd, rfl, hk, hb1⟩
  have b1 : Below x w w1 := b0.trans (hb1.mono (by omega))
  have T21 := Lib.hid (T2.out.below hb1 s0)
  have T01 := Lib.hid (T0.out.below hb1 (by omega))
  have s1 := T21.out.2.2
  clear T2 T0 hb1 b0 s0
  by_cases hz : cd = 0
  rotate_left
  · have HC := Lib.hid (show AcqR xs next who now [] 0 0 cd from Or.inl ⟨hk, hz, rfl, rfl, rfl⟩)
    have d1 : (cd != 0) = true := by simpa using hz
    clear hz hk
    obtain ⟨⟨t10, t11⟩, fz, _⟩ := T21.out
    have f10 := fz 0
    have f11 := fz 1
    clear fz
    go_wp2
    refine bodyPost_ret (v := .tuple #[.agg #[.slice none 0 0, .int .i64 0], .int .i64 0, .int .i64 cd]) (by simp [results, Tryz.results9, go_sem, *]) rfl ⟨[], 0, 0, cd, none, 0, HC.out, rfl, Sl.nil, Free.none_, fun b e => by simp [blk] at e, by simp, ?_⟩
    rw [Hx.out]
    exact (b1.setCell (p := ⟨x + 1, 0, none⟩) (show x ≤ x + 1 by omega) _).setCell (p := ⟨x + 1, 1, none⟩) (show x ≤ x + 1 by omega) _
  subst hz
  have hS : StoreP xs next ∧ (0 ≤ who ∧ who ≤ 9) ∧ 0 ≤ now ∧ now ≤ 101000 := by
    rcases hk with ⟨_, h⟩ | ⟨_, _, h⟩ | ⟨h, h1, h2, _⟩
    · omega
    · omega
    · exact ⟨h, inB_iff.1 h1, inB_iff.1 h2⟩
  obtain ⟨hS, ⟨m0, m1⟩, n0, n1⟩ := hS
  have HS := Lib.hid hS; have HK := Lib.hid hk
  clear hS hk
  obtain ⟨s00, s01⟩ := T01.out
  go_wp2_with fail
  refine (readTerm_any A c next xs B w1 (Sl.below H.out b1 hB) (by omega) Hf.out HS.out (HEP.out w1 b1).1 (HEP.out w1 b1).2.1 (HEP.out w1 b1).2.2).mono ?_
  rintro e w2 ⟨a, cd0, ver, rfl, hA, hb2⟩
  have b2 : Below x w w2 := b1.trans (hb2.mono (by omega))
  have T22 := Lib.hid (T21.out.below hb2 s1)
  have T02 := Lib.hid (T01.out.below hb2 (by omega))
  have s2 := T22.out.2.2
  obtain ⟨k1, k2, k3, k4, k5⟩ := hA.bounds
  have HA := Lib.hid hA
  clear hA k5 T21 T01 hb2 b1 s00 s01 s1
  obtain ⟨V, hV⟩ : ∃ V, V = w2.alloc (.cells #[.int .i64 a.tk, .int .i64 a.ow, .int .i64 a.un] 46) := ⟨_, rfl⟩
  have l1 : Thr V w2.heap.size a := by rw [hV]; exact Thr.new _ _ _
  have bv : Below w2.heap.size w2 V := by rw [hV]; exact bal (Below.refl _ _) _
  have sv : w2.heap.size < V.heap.size := by rw [hV]; simp
  have HV := Lib.hid hV; clear hV
  have bV : Below x w V := b2.trans (bv.mono (by omega))
  have T2V := Lib.hid (T22.out.below bv s2)
  have T0V := Lib.hid (T02.out.below bv (by omega))
  have L1 := Lib.hid l1
  clear l1 bv b2
  obtain ⟨s00, s01⟩ := T02.out
  have hx2 : x < w2.heap.size := by omega
  by_cases hz : cd0 = 0
  rotate_left
  · have HC := Lib.hid (show AcqR xs next who now xs next 0 cd0 from Or.inr ⟨HK.out, a, ver, cd0, HA.out, Or.inl ⟨hz, rfl, rfl, rfl, rfl⟩⟩)
    have d1 : (cd0 != 0) = true := by simpa using hz
    clear hz
    go_wp2_with fail
    rw [← HV.out]
    clear s00 s01
    generalize w2.heap.size = y at *
    refine (copied_any A c next xs B V (Sl.below H.out bV hB) (by omega) Hf.out HS.out).mono ?_
    rintro e wN ⟨v, rfl, A', c', rfl, hsl, hfr, hbl, hcc, hbN⟩
    have bN : Below x w wN := bV.trans (hbN.mono (by omega))
    obtain ⟨⟨t10, t11⟩, fz, sN⟩ := T2V.out.below hbN T2V.out.2.2
    have f10 := fz 0
    have f11 := fz 1
    have hsT := T2V.out.2.2
    have T1N : Two wN (x + 1) (.slice none 0 0) (.int .i64 0) := ⟨t10, t11⟩
    clear fz hbN T2V T0V T22 T02 L1
    go_wp2
    obtain ⟨⟨z0, z1⟩, r1, r2, r3, r4⟩ := fin_store (w := w) T1N hsl hfr (fun b e => ⟨by have := (hbl b e).1; omega, (hbl b e).2⟩) (by rw [Hx.out]; exact bN) (by rw [Hx.out]; omega) (.slice A' xs.length c') (.int .i64 next)
    clear t10 t11 f10 f11
    generalize (wN.setCell ⟨x + 1, 0, none⟩ (.slice A' xs.length c')).setCell ⟨x + 1, 1, none⟩ (.int .i64 next) = wF at *
    exact bodyPost_ret (v := .tuple #[.agg #[.slice A' xs.length c', .int .i64 next], .int .i64 0, .int .i64 cd0]) (by simp [results, Tryz.results9, go_sem, z0, z1]) rfl ⟨xs, next, 0, cd0, A', c', HC.out, rfl, r1, r2, r3, hcc, r4⟩
  subst hz
  go_wp2_with fail
  rw [← HV.out]
  clear s00 s01 HV T22 T02
  generalize w2.heap.size = y at *
  refine (keepsOut_any a now k3 k4 V).mono ?_
  rintro e w3 ⟨rfl, hb3⟩
  have b3 : Below x w w3 := bV.trans (hb3.mono (by omega))
  have T23 := Lib.hid (T2V.out.below hb3 (by omega))
  have T03 := Lib.hid (T0V.out.below hb3 (by omega))
  have L3 := Lib.hid (L1.out.below hb3 sv)
  have s3 : y < w3.heap.size := by have := hb3.size; omega
  clear T2V T0V L1 hb3 bV
  obtain ⟨s00, s01⟩ := T03.out
  obtain ⟨p0, p1, p2⟩ := L3.out
  cases hkp : keepB a now
  rotate_left
  · have HC := Lib.hid (show AcqR xs next who now xs next 0 12 from Or.inr ⟨HK.out, a, ver, 0, HA.out, Or.inr (Or.inl ⟨rfl, hkp, rfl, rfl, rfl, rfl⟩)⟩)
    clear hkp
    go_wp2_with fail
    refine (copied_any A c next xs B w3 (Sl.below H.out b3 hB) (by omega) Hf.out HS.out).mono ?_
    rintro e wN ⟨v, rfl, A', c', rfl, hsl, hfr, hbl, hcc, hbN⟩
    have bN : Below x w wN := b3.trans (hbN.mono (by omega))
    obtain ⟨⟨t10, t11⟩, fz, sN⟩ := T23.out.below hbN T23.out.2.2
    have f10 := fz 0
    have f11 := fz 1
    have hsT := T23.out.2.2
    have T1N : Two wN (x + 1) (.slice none 0 0) (.int .i64 0) := ⟨t10, t11⟩
    clear fz hbN T23 T03 L3 s00 s01 p0 p1 p2
    go_wp2
    obtain ⟨⟨z0, z1⟩, r1, r2, r3, r4⟩ := fin_store (w := w) T1N hsl hfr (fun b e => ⟨by have := (hbl b e).1; omega, (hbl b e).2⟩) (by rw [Hx.out]; exact bN) (by rw [Hx.out]; omega) (.slice A' xs.length c') (.int .i64 next)
    clear t10 t11 f10 f11
    generalize (wN.setCell ⟨x + 1, 0, none⟩ (.slice A' xs.length c')).setCell ⟨x + 1, 1, none⟩ (.int .i64 next) = wF at *
    exact bodyPost_ret (v := .tuple #[.agg #[.slice A' xs.length c', .int .i64 next], .int .i64 0, .int .i64 12]) (by simp [results, Tryz.results9, go_sem, z0, z1]) rfl ⟨xs, next, 0, 12, A', c', HC.out, rfl, r1, r2, r3, hcc, r4⟩
  have KP := Lib.hid hkp; clear hkp
  by_cases hmx : a.tk = 999999
  · have HC := Lib.hid (show AcqR xs next who now xs next 0 7 from Or.inr ⟨HK.out, a, ver, 0, HA.out, Or.inr (Or.inr (Or.inl ⟨rfl, KP.out, hmx, rfl, rfl, rfl, rfl⟩))⟩)
    have d1 : (a.tk == 999999) = true := by simpa using hmx
    clear hmx
    go_wp2_with fail
    refine (copied_any A c next xs B w3 (Sl.below H.out b3 hB) (by omega) Hf.out HS.out).mono ?_
    rintro e wN ⟨v, rfl, A', c', rfl, hsl, hfr, hbl, hcc, hbN⟩
    have bN : Below x w wN := b3.trans (hbN.mono (by omega))
    obtain ⟨⟨t10, t11⟩, fz, sN⟩ := T23.out.below hbN T23.out.2.2
    have f10 := fz 0
    have f11 := fz 1
    have hsT := T23.out.2.2
    have T1N : Two wN (x + 1) (.slice none 0 0) (.int .i64 0) := ⟨t10, t11⟩
    clear fz hbN T23 T03 L3 s00 s01 p0 p1 p2
    go_wp2
    obtain ⟨⟨z0, z1⟩, r1, r2, r3, r4⟩ := fin_store (w := w) T1N hsl hfr (fun b e => ⟨by have := (hbl b e).1; omega, (hbl b e).2⟩) (by rw [Hx.out]; exact bN) (by rw [Hx.out]; omega) (.slice A' xs.length c') (.int .i64 next)
    clear t10 t11 f10 f11
    generalize (wN.setCell ⟨x + 1, 0, none⟩ (.slice A' xs.length c')).setCell ⟨x + 1, 1, none⟩ (.int .i64 next) = wF at *
    exact bodyPost_ret (v := .tuple #[.agg #[.slice A' xs.length c', .int .i64 next], .int .i64 0, .int .i64 7]) (by simp [results, Tryz.results9, go_sem, z0, z1]) rfl ⟨xs, next, 0, 7, A', c', HC.out, rfl, r1, r2, r3, hcc, r4⟩
  have d1 : (a.tk == 999999) = false := by simpa using hmx
  have HMX := Lib.hid hmx; clear hmx
  have wt : wrap64 (now + 20) = now + 20 := by unfold wrap64; omega
  go_wp2_with fail
  refine (next_any a.tk a.ow who (by omega) (by omega) w3).mono ?_
  rintro e w4 ⟨rfl, hb4⟩
  have b4 : Below x w w4 := b3.trans (hb4.mono (by omega))
  have T24 := Lib.hid (T23.out.below hb4 (by omega))
  have T04 := Lib.hid (T03.out.below hb4 (by omega))
  have s4 : y < w4.heap.size := by have := hb4.size; omega
  have hpa : LseP ⟨a.tk + 1, who, now + 20⟩ := by have := HMX.out; unfold LseP; dsimp only; omega
  have HPA := Lib.hid hpa
  clear hpa T23 T03 L3 hb4 b3 s00 s01 p0 p1 p2
  obtain ⟨V4, hV4⟩ : ∃ V4, V4 = w4.alloc (.cells #[.int .i64 (a.tk + 1), .int .i64 who, .int .i64 (now + 20)] 46) := ⟨_, rfl⟩
  have l4 : Thr V4 w4.heap.size ⟨a.tk + 1, who, now + 20⟩ := by rw [hV4]; exact Thr.new _ ⟨a.tk + 1, who, now + 20⟩ _
  have bv4 : Below w4.heap.size w4 V4 := by rw [hV4]; exact bal (Below.refl _ _) _
  have sv4 : w4.heap.size < V4.heap.size := by rw [hV4]; simp
  have HV4 := Lib.hid hV4; clear hV4
  have bV4 : Below x w V4 := b4.trans (bv4.mono (by omega))
  have T2V4 := Lib.hid (T24.out.below bv4 (by omega))
  have L4 := Lib.hid l4
  obtain ⟨s00, s01⟩ := T04.out
  have hx4 : x < w4.heap.size := by omega
  clear l4 bv4 b4 T24
  go_wp2_with fail
  rw [← HV4.out]
  clear s00 s01 HV4 T04
  generalize w4.heap.size = y4 at *
  refine (termPut_any A c next xs ⟨a.tk + 1, who, now + 20⟩ B V4 (Sl.below H.out bV4 hB) (by omega) Hf.out HS.out HPA.out (HEP.out V4 bV4).2.1).mono ?_
  rintro e w5 ⟨L, nx, cd, A', c', hR, rfl, hsl, hfr, hbl, hcc, hb5⟩
  have b5 : Below x w w5 := bV4.trans (hb5.mono (by omega))
  have T25 := Lib.hid (T2V4.out.below hb5 (by omega))
  have L5 := Lib.hid (L4.out.below hb5 sv4)
  have s5 : y4 < w5.heap.size := by have := hb5.size; omega
  have HRR := Lib.hid hR; have HSL := Lib.hid hsl; have HFR := Lib.hid hfr; have HBL := Lib.hid hbl
  clear hR hsl hfr hbl T2V4 L4 bV4 hb5
  obtain ⟨⟨t10, t11⟩, fz, _⟩ := T25.out
  have f10 := fz 0
  have f11 := fz 1
  clear fz
  obtain ⟨q0, q1, q2⟩ : (w5.cell? ⟨y4, 0, none⟩ = some (.int .i64 (a.tk + 1)) ∧ w5.cell? ⟨y4, 1, none⟩ = some (.int .i64 who) ∧ w5.cell? ⟨y4, 2, none⟩ = some (.int .i64 (now + 20))) := L5.out
  have hx5 : x + 1 < w5.heap.size := by omega
  by_cases hc0 : cd = 0
  · subst hc0
    have HC := Lib.hid (show AcqR xs next who now L nx (a.tk + 1) 0 from Or.inr ⟨HK.out, a, ver, 0, HA.out, Or.inr (Or.inr (Or.inr ⟨rfl, KP.out, HMX.out, HRR.out, Or.inl ⟨rfl, rfl⟩⟩))⟩)
    go_wp2_with fail
    obtain ⟨V5, hV5⟩ : ∃ V5, V5 = w5.alloc (.cells #[.slice A' L.length c', .int .i64 nx] 28) := ⟨_, rfl⟩
    have l5 : Two V5 w5.heap.size (.slice A' L.length c') (.int .i64 nx) := by rw [hV5]; exact Two.new _ _ _ _
    have bv5 : Below w5.heap.size w5 V5 := by rw [hV5]; exact bal (Below.refl _ _) _
    have sv5 : w5.heap.size < V5.heap.size := by rw [hV5]; simp
    rw [← hV5]
    clear hV5 t10 t11 f10 f11 q0 q1 q2
    have bV5 : Below x w V5 := b5.trans (bv5.mono (by omega))
    obtain ⟨⟨t10, t11⟩, fz, _⟩ := T25.out.below bv5 hx5
    have f10 := fz 0
    have f11 := fz 1
    have q0 := (L5.out.below bv5 s5).1
    dsimp only at q0
    obtain ⟨r0, r1⟩ := l5
    have HS5 := Lib.hid (Sl.more (Sl.below HSL.out bv5 (Nat.le_refl _)) (Nat.le_of_lt sv5))
    have HF5 := Lib.hid (HFR.out.below bv5 (fun b e => (HBL.out b e).2))
    have zV5 : x + 1 < V5.heap.size := by omega
    clear fz T25 L5 HSL HFR bv5 b5
    generalize w5.heap.size = y5 at *
    go_region_held3 (fun w' => w'.cell? ⟨y5, 0, none⟩ = some (.slice A' L.length c') ∧ w'.cell? ⟨y5, 1, none⟩ = some (.int .i64 nx) ∧ w'.cell? ⟨y4, 0, none⟩ = some (.int .i64 (a.tk + 1)))
      (first | exact ⟨r0, r1, q0⟩ | exact ⟨cfar _ _ (by omega) r0, cfar _ _ (by omega) r1, cfar _ _ (by omega) q0⟩ | (go_keep; done))
      (fail)
    rename_i hHeld
    obtain ⟨⟨z0, z1⟩, u1, u2, u3, u4⟩ := fin_store (w := w) (x1 := x + 1) ⟨t10, t11⟩ HS5.out HF5.out (fun b e => ⟨by have := (HBL.out b e).1; omega, by have := (HBL.out b e).2; omega⟩) (by rw [Hx.out]; exact bV5) (by rw [Hx.out]; omega) (.slice A' L.length c') (.int .i64 nx)
    clear hHeld t10 t11 f10 f11 q0 r0 r1
    generalize (V5.setCell ⟨x + 1, 0, none⟩ (.slice A' L.length c')).setCell ⟨x + 1, 1, none⟩ (.int .i64 nx) = wS at *
    have v0 : wS.drew.cell? ⟨x + 1, 0, none⟩ = some (.slice A' L.length c') := z0
    have v1 : wS.drew.cell? ⟨x + 1, 1, none⟩ = some (.int .i64 nx) := z1
    have o1 : ObjsAt wS.drew wS.drew.heap.size A' L := u1
    have o2 : Free wS.drew A' := u2
    have o3 : ∀ b, blk A' = some b → w.heap.size ≤ b ∧ b < wS.drew.heap.size := u3
    have o4 : Below w.heap.size w wS.drew := u4.drew
    have O1 := Lib.hid o1; have O2 := Lib.hid o2; have O3 := Lib.hid o3; have O4 := Lib.hid o4
    clear o1 o2 o3 o4 u1 u2 u3 u4 z0 z1
    generalize wS.drew = wF at *
    go_wp2
    exact bodyPost_ret (v := .tuple #[.agg #[.slice A' L.length c', .int .i64 nx], .int .i64 (a.tk + 1), .int .i64 0]) (by simp [results, Tryz.results9, go_sem, v0, v1]) rfl ⟨L, nx, a.tk + 1, 0, A', c', HC.out, rfl, O1.out, O2.out, O3.out, hcc, O4.out⟩
  · have HC := Lib.hid (show AcqR xs next who now L nx 0 cd from Or.inr ⟨HK.out, a, ver, 0, HA.out, Or.inr (Or.inr (Or.inr ⟨rfl, KP.out, HMX.out, HRR.out, Or.inr ⟨hc0, rfl⟩⟩))⟩)
    have d2 : (cd != 0) = true := by simpa using hc0
    clear hc0
    go_wp2
    obtain ⟨⟨z0, z1⟩, r1, r2, r3, r4⟩ := fin_store (w := w) (x1 := x + 1) ⟨t10, t11⟩ HSL.out HFR.out (fun b e => ⟨by have := (HBL.out b e).1; omega, (HBL.out b e).2⟩) (by rw [Hx.out]; exact b5) (by rw [Hx.out]; omega) (.slice A' L.length c') (.int .i64 nx)
    have hzs : x + 1 < ((w5.setCell ⟨x + 1, 0, none⟩ (.slice A' L.length c')).setCell ⟨x + 1, 1, none⟩ (.int .i64 nx)).heap.size := by rw [size_setCell, size_setCell]; exact hx5
    clear t10 t11 f10 f11 q0 q1 q2
    generalize (w5.setCell ⟨x + 1, 0, none⟩ (.slice A' L.length c')).setCell ⟨x + 1, 1, none⟩ (.int .i64 nx) = wS at *
    exact bodyPost_ret (v := .tuple #[.agg #[.slice A' L.length c', .int .i64 nx], .int .i64 0, .int .i64 cd]) (by simp [results, Tryz.results9, go_sem, z0, z1, hzs]) rfl ⟨L, nx, 0, cd, A', c', HC.out, rfl, (Sl.below r1 (bal (Below.refl _ _) _) (Nat.le_refl _)).more (by simp), r2.below (bal (Below.refl _ _) _) (fun b e => (r3 b e).2), fun b e => ⟨(r3 b e).1, by simp; have := (r3 b e).2; omega⟩, hcc, bal r4 _⟩

end Go.Proofs.YtkpaocejpjhkpaaGreatDoor

/- Words for drawn regions that make a variable for a store: what is kept, the new block, what the region leaves. No Go text is walked here. -/
namespace Go.Proofs.YtkpaocejpjhkpaaGreatDoor
open Go.RowKit
set_option linter.unusedVariables false

/-- the store's box and the lease's box, kept -/
def KeptS (V : World) (x y : Nat) (u v : Value) (m : GLse) (w : World) : Prop := Below V.heap.size V w ∧ Two w x u v ∧ Thr w y m

theorem KeptS.step {V w w7 : World} {x y : Nat} {u v : Value} {m : GLse} (K : KeptS V x y u v m w) (sx : x < V.heap.size) (sy : y < V.heap.size) (hb : Below w.heap.size w w7) : KeptS V x y u v m w7 :=
  ⟨K.1.trans (hb.mono K.1.size), K.2.1.below hb (by have := K.1.size; omega), K.2.2.below hb (by have := K.1.size; omega)⟩

theorem KeptS.size {V w : World} {x y : Nat} {u v : Value} {m : GLse} (K : KeptS V x y u v m w) : V.heap.size ≤ w.heap.size := K.1.size

theorem KeptS.alloc {V w : World} {x y : Nat} {u v : Value} {m : GLse} (K : KeptS V x y u v m w) (sx : x < V.heap.size) (sy : y < V.heap.size) (o : Obj) : KeptS V x y u v m (w.alloc o) := K.step sx sy (bal (Below.refl _ _) o)

theorem keptS_first {V : World} {x y : Nat} {u v : Value} {m : GLse} (K : KeptS V x y u v m V) (sx : x < V.heap.size) (sy : y < V.heap.size) (o : Obj) : KeptS V x y u v m (V.alloc o).drew := by
  have := K.alloc sx sy o
  exact ⟨this.1.drew, this.2⟩

/-- the store that is handed in can be read there too -/
theorem KeptS.objs {V w a : World} {x y B X : Nat} {u v : Value} {m : GLse} {A : Option Addr} {xs : List GObj} (K : KeptS V x y u v m w) (H : ObjsAt a B A xs) (hV : Below X a V) (hX : X ≤ V.heap.size) (hB : B ≤ X) : ObjsAt w B A xs ∧ B ≤ w.heap.size :=
  ⟨Sl.below H (hV.trans (K.1.mono hX)) hB, Nat.le_trans hB (Nat.le_trans hX K.1.size)⟩

/-- a new store's block, of zeros, from block B on -/
def ZedS (B : Nat) (w : World) (n : Nat) : Prop := Two w n (.slice none 0 0) (.int .i64 0) ∧ (∀ i, w.frozen? ⟨n, i, none⟩ = false) ∧ NoMore w n ∧ n < w.heap.size ∧ B ≤ n

theorem zedS_new {B : Nat} {x : World} (h : B ≤ x.heap.size) (t : TypeId) : ZedS B (x.alloc (.cells #[.slice none 0 0, .int .i64 0] t)) x.heap.size :=
  ⟨Two.new x _ _ t, fun i => free_alloc x #[.slice none 0 0, .int .i64 0] t 0 x.heap.size rfl i, NoMore.new x _ _ t, by simp, h⟩

theorem zedS_first (x : World) (t : TypeId) : ZedS x.heap.size (x.alloc (.cells #[.slice none 0 0, .int .i64 0] t)).drew x.heap.size := zedS_new (Nat.le_refl _) t

theorem ZedS.step {B : Nat} {w w' : World} {n : Nat} (h : ZedS B w n) (hb : Below w.heap.size w w') : ZedS B w' n :=
  ⟨h.1.below hb h.2.2.2.1, fun i => (hb.frozen (p := ⟨n, i, none⟩) h.2.2.2.1).trans (h.2.1 i), h.2.2.1.below hb h.2.2.2.1, Nat.lt_of_lt_of_le h.2.2.2.1 hb.size, h.2.2.2.2⟩

theorem ZedS.base {B : Nat} {w : World} {n : Nat} (h : ZedS B w n) : B ≤ n := h.2.2.2.2

theorem ZedS.cells {B : Nat} {w : World} {n : Nat} (h : ZedS B w n) : (w.cell? ⟨n, 0, none⟩ = some (.slice none 0 0) ∧ w.cell? ⟨n, 1, none⟩ = some (.int .i64 0)) ∧ w.frozen? ⟨n, 0, none⟩ = false ∧ w.frozen? ⟨n, 1, none⟩ = false := ⟨h.1, h.2.1 0, h.2.1 1⟩

theorem far2 {w : World} {n b i : Nat} {u : Value} (v0 v1 : Value) (h : b ≠ n) (hc : w.cell? ⟨b, i, none⟩ = some u) : ((w.setCell ⟨n, 0, none⟩ v0).setCell ⟨n, 1, none⟩ v1).cell? ⟨b, i, none⟩ = some u := by
  rw [World.cell?_setCell_other _ _ _ _ (fun e => h (by injection e with e1; exact e1.symm)), World.cell?_setCell_other _ _ _ _ (fun e => h (by injection e with e1; exact e1.symm))]
  exact hc

theorem keptS_cells {V w : World} {x y n : Nat} {u v : Value} {m : GLse} (K : KeptS V x y u v m w) (hn : V.heap.size ≤ n) (sx : x < V.heap.size) (sy : y < V.heap.size) (v0 v1 : Value) :
    ((w.setCell ⟨n, 0, none⟩ v0).setCell ⟨n, 1, none⟩ v1).cell? ⟨x, 0, none⟩ = some u ∧ ((w.setCell ⟨n, 0, none⟩ v0).setCell ⟨n, 1, none⟩ v1).cell? ⟨x, 1, none⟩ = some v ∧ ((w.setCell ⟨n, 0, none⟩ v0).setCell ⟨n, 1, none⟩ v1).cell? ⟨y, 0, none⟩ = some (.int .i64 m.tk) ∧ ((w.setCell ⟨n, 0, none⟩ v0).setCell ⟨n, 1, none⟩ v1).cell? ⟨y, 1, none⟩ = some (.int .i64 m.ow) ∧ ((w.setCell ⟨n, 0, none⟩ v0).setCell ⟨n, 1, none⟩ v1).cell? ⟨y, 2, none⟩ = some (.int .i64 m.un) :=
  ⟨far2 _ _ (by omega) K.2.1.1, far2 _ _ (by omega) K.2.1.2, far2 _ _ (by omega) K.2.2.1, far2 _ _ (by omega) K.2.2.2.1, far2 _ _ (by omega) K.2.2.2.2⟩

/-- what the region leaves: a store in a block of its own -/
def CutS (V wx : World) (nb : Nat) (A : Option Addr) (c : Nat) (L : List GObj) (nx : Int) : Prop := Two wx nb (.slice A L.length c) (.int .i64 nx) ∧ ObjsAt wx wx.heap.size A L ∧ Below V.heap.size V wx ∧ V.heap.size ≤ nb ∧ nb < wx.heap.size

theorem cutS_new {V w : World} {x y : Nat} {u v : Value} {m : GLse} {A : Option Addr} {c : Nat} {L : List GObj} {nx : Int} (K : KeptS V x y u v m w) (hs : ObjsAt w w.heap.size A L) (t : TypeId) : CutS V (w.alloc (.cells #[.slice A L.length c, .int .i64 nx] t)) w.heap.size A c L nx :=
  ⟨Two.new w _ _ t, (Sl.below hs (bal (Below.refl _ _) _) (Nat.le_refl _)).more (by simp), bal K.1 _, K.1.size, by simp⟩

theorem cutS_set {V w : World} {x y n : Nat} {u v : Value} {m : GLse} {A : Option Addr} {c : Nat} {L : List GObj} {nx : Int} (K : KeptS V x y u v m w) (Z : ZedS V.heap.size w n) (hs : ObjsAt w w.heap.size A L) : CutS V ((w.setCell ⟨n, 0, none⟩ (.slice A L.length c)).setCell ⟨n, 1, none⟩ (.int .i64 nx)) n A c L nx :=
  ⟨(Z.1.set0 _).set1 _, fin_objs hs Z.2.2.1 _ _, (K.1.setCell (p := ⟨n, 0, none⟩) Z.2.2.2.2 _).setCell (p := ⟨n, 1, none⟩) Z.2.2.2.2 _, Z.2.2.2.2, by rw [size_setCell, size_setCell]; exact Z.2.2.2.1⟩

end Go.Proofs.YtkpaocejpjhkpaaGreatDoor

/- Contract of the model's l05Acquire. Conditions: lengths. -/
namespace Go.Proofs.YtkpaocejpjhkpaaGreatDoor
open Go.ChangeShapes Go.WideShapes Go.ChangeAt Go.RowKit Go.Maps
set_option linter.unusedVariables false
set_option linter.unusedSimpArgs false

theorem bit_yes (w : World) : Calls Tryz.prog 40 #[.bool true] w fun e w' => e = .returned (.int .i64 1) ∧ w = w' := by
  go_enter Tryz.func40, Tryz.ntmps40
  go_wp2
  go_ret
  exact ⟨rfl, rfl⟩

theorem bit_no (w : World) : Calls Tryz.prog 40 #[.bool false] w fun e w' => e = .returned (.int .i64 0) ∧ w = w' := by
  go_enter Tryz.func40, Tryz.ntmps40
  go_wp2
  go_ret
  exact ⟨rfl, rfl⟩

/-- a store and two numbers are answered; of the memory: only that the store can be read -/
def StS3 (R : List GObj → Int → Int → Int → Prop) (w : World) (e : Ending) (w' : World) : Prop :=
  ∃ (L : List GObj) (nx tok code : Int) (A : Option Addr) (c : Nat), R L nx tok code ∧ e = .returned (.tuple #[.agg #[.slice A L.length c, .int .i64 nx], .int .i64 tok, .int .i64 code]) ∧ ObjsAt w' w'.heap.size A L ∧ Below w.heap.size w w'

theorem lseAt_pos {xs : List GObj} {next : Int} {a : GLse} {ver : Int} (hS : StoreP xs next) (h : LseAt xs a ver 0) : 0 ≤ ver ∧ (ver = 0 → a = zLse ∧ look xs leaseKey = none) := by
  rcases h with ⟨h1, rfl, rfl, _⟩ | ⟨o, h1, _, rfl, _⟩ | ⟨o, _, _, _, _, h⟩
  · exact ⟨by omega, fun _ => ⟨rfl, h1⟩⟩
  · have := (look_ok hS h1).2.1
    exact ⟨by omega, fun h => by omega⟩
  · omega

set_option maxRecDepth 100000 in
set_option maxHeartbeats 4000000 in
theorem l05Acquire_any (b off c : Nat) (next : Int) (xs : List GObj) (who now : Int) (B : Nat) (w : World) (h : ObjsAt w B (some ⟨b, off, none⟩) xs) (hB : B ≤ w.heap.size) (hS : StoreP xs next) (hc : xs.length ≤ c) (m0 : 0 ≤ who) (m1 : who ≤ 9) (n0 : 0 ≤ now) (n1 : now ≤ 101000) :
    Calls Tryz.prog 19 #[.agg #[.slice (some ⟨b, off, none⟩) xs.length c, .int .i64 next], .int .i64 who, .int .i64 now] w (StS3 (AcqC xs next who now) w) := by
  have H := Lib.hid h; clear h
  have HS := Lib.hid hS; clear hS
  go_enter Tryz.func19, Tryz.ntmps19
  go_wp2_with fail
  obtain ⟨W, hW⟩ : ∃ W, W = (w.alloc (.cells #[.slice (some ⟨b, off, none⟩) xs.length c, .int .i64 next] 28)).alloc (.cells #[.slice none 0 0, .int .i64 0] 28) := ⟨_, rfl⟩
  have t2 : ZeroSt W (w.heap.size + 1) := by
    rw [hW]
    have := ZeroSt.new (w.alloc (.cells #[.slice (some ⟨b, off, none⟩) xs.length c, .int .i64 next] 28)) 28
    simpa using this
  have t0 : Two W w.heap.size (.slice (some ⟨b, off, none⟩) xs.length c) (.int .i64 next) := by rw [hW]; exact (Two.new w _ _ _).alloc (by simp) _
  have b0 : Below w.heap.size w W := by rw [hW]; exact bal (bal (Below.refl _ _) _) _
  have m2 : NoMore W (w.heap.size + 1) := by
    rw [hW]
    have := NoMore.new (w.alloc (.cells #[.slice (some ⟨b, off, none⟩) xs.length c, .int .i64 next] 28)) (.slice none 0 0) (.int .i64 0) 28
    simpa using this
  rw [← hW]
  clear hW
  have T2 := Lib.hid t2; have T0 := Lib.hid t0; have M2 := Lib.hid m2
  clear t2 t0 m2
  have s0 := T2.out.2.2
  generalize hx : w.heap.size = x at *
  have Hx := Lib.hid hx; clear hx
  refine (l05Of_any (some ⟨b, off, none⟩) c next xs B W (Sl.below H.out b0 hB) (by omega) HS.out).mono ?_
  rintro e w1 ⟨a, ver, cd0, rfl, hA, hb1⟩
  have b1 : Below x w w1 := b0.trans (hb1.mono (by omega))
  have T21 := Lib.hid (T2.out.below hb1 s0)
  have T01 := Lib.hid (T0.out.below hb1 (by omega))
  have M21 := Lib.hid (M2.out.below hb1 s0)
  have s1 := T21.out.2.2
  obtain ⟨k1, k2, k3, k4, k5⟩ := hA.bounds
  have HA := Lib.hid hA
  clear hA k5 T2 T0 M2 hb1 b0 s0
  obtain ⟨s00, s01⟩ := T01.out
  obtain ⟨⟨t10, t11⟩, fz, _⟩ := T21.out
  have f10 := fz 0
  have f11 := fz 1
  clear fz
  have hx1 : x < w1.heap.size := by omega
  have fin : ∀ (cd : Int), AcqC xs next who now xs next 0 cd → ∀ o, StS3 (AcqC xs next who now) w (.returned (.tuple #[.agg #[.slice (some ⟨b, off, none⟩) xs.length c, .int .i64 next], .int .i64 0, .int .i64 cd])) (((w1.setCell ⟨x + 1, 0, none⟩ (.slice (some ⟨b, off, none⟩) xs.length c)).setCell ⟨x + 1, 1, none⟩ (.int .i64 next)).alloc o) := fun cd hC o => by
    have hbF : Below x w (((w1.setCell ⟨x + 1, 0, none⟩ (.slice (some ⟨b, off, none⟩) xs.length c)).setCell ⟨x + 1, 1, none⟩ (.int .i64 next)).alloc o) :=
      ((b1.setCell (p := ⟨x + 1, 0, none⟩) (show x ≤ x + 1 by omega) _).setCell (p := ⟨x + 1, 1, none⟩) (show x ≤ x + 1 by omega) _).alloc (by rw [size_setCell, size_setCell]; omega) o
    exact ⟨xs, next, 0, _, _, c, hC, rfl, (Sl.below H.out hbF hB).more (by simp; omega), by rw [Hx.out]; exact hbF⟩
  have FIN := Lib.hid fin; clear fin
  by_cases hz : cd0 = 0
  rotate_left
  · have HC := Lib.hid (show AcqC xs next who now xs next 0 cd0 from ⟨a, ver, cd0, HA.out, Or.inl ⟨hz, rfl, rfl, rfl, rfl⟩⟩)
    have d1 : (cd0 != 0) = true := by simpa using hz
    clear hz
    go_wp2
    refine bodyPost_ret (v := .tuple #[.agg #[.slice (some ⟨b, off, none⟩) xs.length c, .int .i64 next], .int .i64 0, .int .i64 cd0]) (by simp [results, Tryz.results19, go_sem, *]) rfl (FIN.out _ HC.out _)
  subst hz
  obtain ⟨vp, vz⟩ := lseAt_pos HS.out HA.out
  have VZ := Lib.hid vz; clear vz
  have wt : wrap64 (a.un + 6) = a.un + 6 := by unfold wrap64; omega
  have wt2 : wrap64 (now + 20) = now + 20 := by unfold wrap64; omega
  go_upto_region 4 with fail
  go_cut [39] (fun p wx => p = .bool (keepB a now) ∧ wx = w1.alloc (.cells #[.int .i64 a.tk, .int .i64 a.ow, .int .i64 a.un] 62))
  case first =>
    have e : keepB a now = (decide (0 < ver) && (decide (now ≤ a.un + 6) && decide (0 < a.un))) := by
      rw [Bool.eq_iff_iff]
      simp only [keepB, Bool.and_eq_true, Bool.not_eq_true', beq_eq_false_iff_ne, decide_eq_true_eq]
      constructor
      · rintro ⟨h1, h2⟩
        refine ⟨?_, h2, by omega⟩
        by_cases hv : ver = 0
        · exact absurd (by rw [(VZ.out hv).1]; rfl) h1
        · omega
      · rintro ⟨h1, h2, h3⟩
        exact ⟨by omega, h2⟩
    have E := Lib.hid e; clear e
    cases d1 : decide (0 < ver) <;> cases d2 : decide (now ≤ a.un + 6) <;> cases d3 : decide (0 < a.un)
    all_goals (
      rw [d1, d2, d3] at E
      go_wp2
      go_meet
      exact ⟨by rw [E.out]; rfl, rfl⟩)
  case rest =>
    obtain ⟨rfl, rfl⟩ := hcut
    cases hkp : keepB a now
    rotate_left
    · have HC := Lib.hid (show AcqC xs next who now xs next 0 12 from ⟨a, ver, 0, HA.out, Or.inr (Or.inl ⟨rfl, hkp, rfl, rfl, rfl, rfl⟩)⟩)
      clear hkp
      go_wp2
      refine bodyPost_ret (v := .tuple #[.agg #[.slice (some ⟨b, off, none⟩) xs.length c, .int .i64 next], .int .i64 0, .int .i64 12]) (by simp [results, Tryz.results19, go_sem, *]) rfl (FIN.out _ HC.out _)
    have KP := Lib.hid hkp; clear hkp
    by_cases hmx : a.tk = 999999
    · have HC := Lib.hid (show AcqC xs next who now xs next 0 7 from ⟨a, ver, 0, HA.out, Or.inr (Or.inr (Or.inl ⟨rfl, KP.out, hmx, rfl, rfl, rfl, rfl⟩))⟩)
      have d1 : (a.tk == 999999) = true := by simpa using hmx
      clear hmx
      go_wp2
      refine bodyPost_ret (v := .tuple #[.agg #[.slice (some ⟨b, off, none⟩) xs.length c, .int .i64 next], .int .i64 0, .int .i64 7]) (by simp [results, Tryz.results19, go_sem, *]) rfl (FIN.out _ HC.out _)
    have d1 : (a.tk == 999999) = false := by simpa using hmx
    have HMX := Lib.hid hmx; clear hmx
    have wt3 : wrap64 (a.tk + 1) = a.tk + 1 := by unfold wrap64; omega
    have hpa : LseP ⟨a.tk + 1, who, now + 20⟩ := by have := HMX.out; unfold LseP; dsimp only; omega
    have HPA := Lib.hid hpa; clear hpa
    have hTx : ∀ W, Calls Tryz.prog 39 #[.agg #[.int .i64 (a.tk + 1), .int .i64 who, .int .i64 (now + 20)]] W fun e w' => e = .returned (.string (lseT ⟨a.tk + 1, who, now + 20⟩)) ∧ Below W.heap.size W w' := fun W => l05Text_any ⟨a.tk + 1, who, now + 20⟩ HPA.out.fit W
    have hdz := lseT_size HPA.out.fit
    have HDD := Lib.hid (rfl : lseT ⟨a.tk + 1, who, now + 20⟩ = lseT ⟨a.tk + 1, who, now + 20⟩)
    generalize hD : lseT ⟨a.tk + 1, who, now + 20⟩ = D at hTx hdz HDD
    have HD := Lib.hid hD; clear hD HDD
    have HTx := Lib.hid hTx; clear hTx
    clear FIN
    by_cases hv : ver = 0
    · have hlk := (VZ.out hv).2
      have dv : (ver == 0) = true := by simpa using hv
      have HPR := Lib.hid (show ∀ L nx cd, AbsC xs next leaseKey D L nx cd → PutR xs next ⟨a.tk + 1, who, now + 20⟩ L nx cd from fun L nx cd hR => by
        rcases hR with ⟨h1, _⟩ | ⟨_, p, h2, _⟩
        · exact absurd hlk h1
        · exact ⟨p, by rw [HD.out]; exact h2⟩)
      clear hlk hv
      go_upto_region 10 with fail
      obtain ⟨V, hV⟩ : ∃ V, V = (w1.alloc (.cells #[.int .i64 a.tk, .int .i64 a.ow, .int .i64 a.un] 62)).alloc (.cells #[.int .i64 (a.tk + 1), .int .i64 who, .int .i64 (now + 20)] 62) := ⟨_, rfl⟩
      have l1 : Thr V (w1.heap.size + 1) ⟨a.tk + 1, who, now + 20⟩ := by
        rw [hV]
        have := Thr.new (w1.alloc (.cells #[.int .i64 a.tk, .int .i64 a.ow, .int .i64 a.un] 62)) ⟨a.tk + 1, who, now + 20⟩ 62
        simpa using this
      have bv : Below w1.heap.size w1 V := by rw [hV]; exact bal (bal (Below.refl _ _) _) _
      have sv : w1.heap.size + 1 < V.heap.size := by rw [hV]; simp
      rw [← hV]
      clear hV s00 s01 t10 t11 f10 f11
      have bV : Below x w V := b1.trans (bv.mono (by omega))
      have T2V := Lib.hid (T21.out.below bv s1)
      have M2V := Lib.hid (M21.out.below bv s1)
      have t0V := T01.out.below bv (by omega)
      generalize hy : w1.heap.size + 1 = y at *
      have sx : x < V.heap.size := by omega
      have sy : y < V.heap.size := sv
      have sxy : x + 1 < y := by omega
      clear hy bv
      go_cut [13, 14] (fun p q wx => ∃ (nb : Nat) (L : List GObj) (nx cd : Int) (A' : Option Addr) (c' : Nat), p = .pointer (some ⟨nb, 0, none⟩) ∧ q = .int .i64 cd ∧ Hid (AbsC xs next leaseKey D L nx cd) ∧ Hid (CutS V wx nb A' c' L nx))
      case first =>
        have K0 := Lib.hid (show KeptS V x y (.slice (some ⟨b, off, none⟩) xs.length c) (.int .i64 next) ⟨a.tk + 1, who, now + 20⟩ V from ⟨Below.refl _ _, t0V, l1⟩)
        have K := Lib.hid (show KeptS V x y (.slice (some ⟨b, off, none⟩) xs.length c) (.int .i64 next) ⟨a.tk + 1, who, now + 20⟩ V.drew from ⟨(Below.refl _ _).drew, t0V, l1⟩)
        obtain ⟨p0, p1⟩ := t0V
        obtain ⟨q0, q1, q2⟩ := l1
        dsimp only at q0 q1 q2
        go_region_held3 (fun w' => w'.cell? ⟨x, 0, none⟩ = some (.slice (some ⟨b, off, none⟩) xs.length c) ∧ w'.cell? ⟨x, 1, none⟩ = some (.int .i64 next) ∧ w'.cell? ⟨y, 0, none⟩ = some (.int .i64 (a.tk + 1)) ∧ w'.cell? ⟨y, 1, none⟩ = some (.int .i64 who) ∧ w'.cell? ⟨y, 2, none⟩ = some (.int .i64 (now + 20)))
          (first | exact ⟨p0, p1, q0, q1, q2⟩ | (with_reducible exact keptS_cells K.out (ZedS.base Z.out) sx sy _ _) | (go_keep; done) | (simp only [*]; done))
          (first
            | (go_at_call 39; refine (HTx.out _).mono ?_; rintro e w7 ⟨rfl, hb7⟩; (first | (with_reducible (replace K := Lib.hid (KeptS.step K.out sx sy hb7)); (try (with_reducible (replace Z := Lib.hid (ZedS.step Z.out hb7))))) | (with_reducible (have Z := Lib.hid (ZedS.step (zedS_new (B := V.heap.size) (KeptS.size K.out) _) hb7)); with_reducible (replace K := Lib.hid (KeptS.step (KeptS.alloc K.out sx sy _) sx sy hb7))) | (with_reducible (have Z := Lib.hid (ZedS.step (zedS_first _ _) hb7)); with_reducible (replace K := Lib.hid (KeptS.step (keptS_first K0.out sx sy _) sx sy hb7)))); (try (obtain ⟨⟨z0, z1⟩, y0, y1⟩ := Z.out.cells; have ne1 := Nat.ne_of_lt (Nat.lt_of_lt_of_le sx (ZedS.base Z.out)); have ne2 := Nat.ne_of_lt (Nat.lt_of_lt_of_le sy (ZedS.base Z.out)))); clear hb7; obtain ⟨p0, p1⟩ := K.out.2.1; obtain ⟨q0, q1, q2⟩ := K.out.2.2; dsimp only at q0 q1 q2)
            | (go_at_call 38; refine (specAbsent_any b off c next xs leaseKey D B _ (by first | (with_reducible exact (KeptS.objs K.out H.out bV (Nat.le_of_lt sx) hB).1) | (with_reducible exact (KeptS.objs (KeptS.alloc K.out sx sy _) H.out bV (Nat.le_of_lt sx) hB).1)) (by first | (with_reducible exact (KeptS.objs K.out H.out bV (Nat.le_of_lt sx) hB).2) | (with_reducible exact (KeptS.objs (KeptS.alloc K.out sx sy _) H.out bV (Nat.le_of_lt sx) hB).2)) HS.out hc (by rw [leaseKey_size]; unfold maxLen; omega) (by unfold maxLen; omega)).mono ?_; rintro e w7 ⟨L, nx, cd, A', c', hR, rfl, hsl, hb7⟩; have HR := Lib.hid hR; have HSL := Lib.hid hsl; clear hR hsl; (first | (with_reducible (replace K := Lib.hid (KeptS.step K.out sx sy hb7)); (try (with_reducible (replace Z := Lib.hid (ZedS.step Z.out hb7))))) | (with_reducible (have Z := Lib.hid (ZedS.step (zedS_new (B := V.heap.size) (KeptS.size K.out) _) hb7)); with_reducible (replace K := Lib.hid (KeptS.step (KeptS.alloc K.out sx sy _) sx sy hb7))) | (with_reducible (have Z := Lib.hid (ZedS.step (zedS_first _ _) hb7)); with_reducible (replace K := Lib.hid (KeptS.step (keptS_first K0.out sx sy _) sx sy hb7)))); (try (obtain ⟨⟨z0, z1⟩, y0, y1⟩ := Z.out.cells; have ne1 := Nat.ne_of_lt (Nat.lt_of_lt_of_le sx (ZedS.base Z.out)); have ne2 := Nat.ne_of_lt (Nat.lt_of_lt_of_le sy (ZedS.base Z.out)))); clear hb7; obtain ⟨p0, p1⟩ := K.out.2.1; obtain ⟨q0, q1, q2⟩ := K.out.2.2; dsimp only at q0 q1 q2))
        all_goals (go_wp2_with fail; go_meet)
        all_goals first | (with_reducible exact ⟨_, L, nx, cd, A', c', rfl, rfl, HR, Lib.hid (cutS_new K.out HSL.out _)⟩) | (with_reducible exact ⟨_, L, nx, cd, A', c', rfl, rfl, HR, Lib.hid (cutS_set K.out Z.out HSL.out)⟩)
      case rest =>
        obtain ⟨nb, L, nx, cd, A', c', rfl, rfl, HR, HCut⟩ := hcut
        have hnb := HCut.out.2.2.2.1
        have hBx := HCut.out.2.2.1
        obtain ⟨r0, r1⟩ := HCut.out.1
        have q0 := (l1.below hBx sy).1
        dsimp only at q0
        obtain ⟨⟨t10, t11⟩, fz, sN⟩ := T2V.out.below hBx (by omega)
        have f10 := fz 0
        have f11 := fz 1
        have bN : Below x w wc := bV.trans (hBx.mono (by omega))
        have HOC := Lib.hid HCut.out.2.1
        have MN := Lib.hid (M2V.out.below hBx (by omega))
        have HBX := Lib.hid hBx
        clear fz l1 t0V hBx T2V M2V HCut
        have wt1 : wrap64 (a.tk + 1) = a.tk + 1 := by unfold wrap64; omega
        have fin3 : ∀ tok, AcqC xs next who now L nx tok cd → ∀ wF, wF = ((wc.setCell ⟨x + 1, 0, none⟩ (.slice A' L.length c')).setCell ⟨x + 1, 1, none⟩ (.int .i64 nx)).drew → (wF.cell? ⟨x + 1, 0, none⟩ = some (.slice A' L.length c') ∧ wF.cell? ⟨x + 1, 1, none⟩ = some (.int .i64 nx)) ∧ StS3 (AcqC xs next who now) w (.returned (.tuple #[.agg #[.slice A' L.length c', .int .i64 nx], .int .i64 tok, .int .i64 cd])) wF := fun tok hC wF hF => by
          subst hF
          have hbF : Below x w ((wc.setCell ⟨x + 1, 0, none⟩ (.slice A' L.length c')).setCell ⟨x + 1, 1, none⟩ (.int .i64 nx)) := (bN.setCell (p := ⟨x + 1, 0, none⟩) (show x ≤ x + 1 by omega) _).setCell (p := ⟨x + 1, 1, none⟩) (show x ≤ x + 1 by omega) _
          have hoF := fin_objs HOC.out MN.out (.slice A' L.length c') (.int .i64 nx)
          have z0 : ((wc.setCell ⟨x + 1, 0, none⟩ (.slice A' L.length c')).setCell ⟨x + 1, 1, none⟩ (.int .i64 nx)).cell? ⟨x + 1, 0, none⟩ = some (.slice A' L.length c') := (cset_ne _ _ 1 0 _ (by omega)).trans (cset_eq wc (x + 1) 0 _ t10)
          have z1 : ((wc.setCell ⟨x + 1, 0, none⟩ (.slice A' L.length c')).setCell ⟨x + 1, 1, none⟩ (.int .i64 nx)).cell? ⟨x + 1, 1, none⟩ = some (.int .i64 nx) := cset_eq _ (x + 1) 1 _ ((cset_ne wc _ 0 1 _ (by omega)).trans t11)
          exact ⟨⟨z0, z1⟩, L, nx, tok, cd, A', c', hC, rfl, hoF, by rw [Hx.out]; exact hbF.drew⟩
        have FIN3 := Lib.hid fin3; clear fin3
        have W1 := Lib.hid (show IntKind.i64.wrap (a.tk + 1) = a.tk + 1 from by rw [IntKind.wrap_i64]; omega)
        have W0 := Lib.hid (show IntKind.i64.wrap 0 = 0 from by rw [IntKind.wrap_i64]; rfl)
        by_cases hc0 : cd = 0
        · subst hc0
          have HC := Lib.hid (show AcqC xs next who now L nx (a.tk + 1) 0 from ⟨a, ver, 0, HA.out, Or.inr (Or.inr (Or.inr ⟨rfl, KP.out, HMX.out, HPR.out L nx 0 HR.out, Or.inl ⟨rfl, rfl⟩⟩))⟩)
          go_wp2_with fail
          go_region_held3 (fun w' => w'.cell? ⟨nb, 0, none⟩ = some (.slice A' L.length c') ∧ w'.cell? ⟨nb, 1, none⟩ = some (.int .i64 nx) ∧ w'.cell? ⟨y, 0, none⟩ = some (.int .i64 (a.tk + 1)))
            (first | exact ⟨r0, r1, q0⟩ | exact ⟨far2 _ _ (by omega) r0, far2 _ _ (by omega) r1, far2 _ _ (by omega) q0⟩ | (go_keep; done))
            (first | (go_at_call 40; refine (bit_yes _).mono ?_; rintro e w' ⟨rfl, rfl⟩))
          all_goals (
            obtain ⟨⟨v0, v1⟩, hend⟩ := FIN3.out (a.tk + 1) HC.out _ rfl
            go_wp2
            exact bodyPost_ret (v := .tuple #[.agg #[.slice A' L.length c', .int .i64 nx], .int .i64 (a.tk + 1), .int .i64 0]) (by simp [results, Tryz.results19, go_sem, v0, v1, W1.out, W0.out]) rfl hend)
        · have d2 : (cd == 0) = false := by rw [beq_eq_false_iff_ne]; exact hc0
          have HC := Lib.hid (show AcqC xs next who now L nx 0 cd from ⟨a, ver, 0, HA.out, Or.inr (Or.inr (Or.inr ⟨rfl, KP.out, HMX.out, HPR.out L nx cd HR.out, Or.inr ⟨hc0, rfl⟩⟩))⟩)
          clear hc0
          go_wp2_with fail
          go_region_held3 (fun w' => w'.cell? ⟨nb, 0, none⟩ = some (.slice A' L.length c') ∧ w'.cell? ⟨nb, 1, none⟩ = some (.int .i64 nx) ∧ w'.cell? ⟨y, 0, none⟩ = some (.int .i64 (a.tk + 1)))
            (first | exact ⟨r0, r1, q0⟩ | exact ⟨far2 _ _ (by omega) r0, far2 _ _ (by omega) r1, far2 _ _ (by omega) q0⟩ | (go_keep; done))
            (first | (go_at_call 40; refine (bit_no _).mono ?_; rintro e w' ⟨rfl, rfl⟩))
          all_goals (
            obtain ⟨⟨v0, v1⟩, hend⟩ := FIN3.out 0 HC.out _ rfl
            go_wp2
            exact bodyPost_ret (v := .tuple #[.agg #[.slice A' L.length c', .int .i64 nx], .int .i64 0, .int .i64 cd]) (by simp [results, Tryz.results19, go_sem, v0, v1, W1.out, W0.out]) rfl hend)
    · have dv : (ver == 0) = false := by rw [beq_eq_false_iff_ne]; exact hv
      have HVP := Lib.hid ((lseAt_zero HS.out HA.out).2 hv)
      have HPR := Lib.hid (show ∀ L nx cd, OvrC xs next leaseKey ver D L nx cd → PutR xs next ⟨a.tk + 1, who, now + 20⟩ L nx cd from fun L nx cd hR => by
        rcases hR with ⟨h1, h2, _⟩ | ⟨_, p, h2, _⟩
        · exact absurd (VerP.one h1 HVP.out) h2
        · exact ⟨p, by rw [HD.out]; exact h2⟩)
      clear hv
      go_upto_region 12 with fail
      obtain ⟨V, hV⟩ : ∃ V, V = (w1.alloc (.cells #[.int .i64 a.tk, .int .i64 a.ow, .int .i64 a.un] 62)).alloc (.cells #[.int .i64 (a.tk + 1), .int .i64 who, .int .i64 (now + 20)] 62) := ⟨_, rfl⟩
      have l1 : Thr V (w1.heap.size + 1) ⟨a.tk + 1, who, now + 20⟩ := by
        rw [hV]
        have := Thr.new (w1.alloc (.cells #[.int .i64 a.tk, .int .i64 a.ow, .int .i64 a.un] 62)) ⟨a.tk + 1, who, now + 20⟩ 62
        simpa using this
      have bv : Below w1.heap.size w1 V := by rw [hV]; exact bal (bal (Below.refl _ _) _) _
      have sv : w1.heap.size + 1 < V.heap.size := by rw [hV]; simp
      rw [← hV]
      clear hV s00 s01 t10 t11 f10 f11
      have bV : Below x w V := b1.trans (bv.mono (by omega))
      have T2V := Lib.hid (T21.out.below bv s1)
      have M2V := Lib.hid (M21.out.below bv s1)
      have t0V := T01.out.below bv (by omega)
      generalize hy : w1.heap.size + 1 = y at *
      have sx : x < V.heap.size := by omega
      have sy : y < V.heap.size := sv
      have sxy : x + 1 < y := by omega
      clear hy bv
      go_cut [15, 11] (fun p q wx => ∃ (nb : Nat) (L : List GObj) (nx cd : Int) (A' : Option Addr) (c' : Nat), p = .pointer (some ⟨nb, 0, none⟩) ∧ q = .int .i64 cd ∧ Hid (OvrC xs next leaseKey ver D L nx cd) ∧ Hid (CutS V wx nb A' c' L nx))
      case first =>
        have K0 := Lib.hid (show KeptS V x y (.slice (some ⟨b, off, none⟩) xs.length c) (.int .i64 next) ⟨a.tk + 1, who, now + 20⟩ V from ⟨Below.refl _ _, t0V, l1⟩)
        have K := Lib.hid (show KeptS V x y (.slice (some ⟨b, off, none⟩) xs.length c) (.int .i64 next) ⟨a.tk + 1, who, now + 20⟩ V.drew from ⟨(Below.refl _ _).drew, t0V, l1⟩)
        obtain ⟨p0, p1⟩ := t0V
        obtain ⟨q0, q1, q2⟩ := l1
        dsimp only at q0 q1 q2
        go_region_held3 (fun w' => w'.cell? ⟨x, 0, none⟩ = some (.slice (some ⟨b, off, none⟩) xs.length c) ∧ w'.cell? ⟨x, 1, none⟩ = some (.int .i64 next) ∧ w'.cell? ⟨y, 0, none⟩ = some (.int .i64 (a.tk + 1)) ∧ w'.cell? ⟨y, 1, none⟩ = some (.int .i64 who) ∧ w'.cell? ⟨y, 2, none⟩ = some (.int .i64 (now + 20)))
          (first | exact ⟨p0, p1, q0, q1, q2⟩ | (with_reducible exact keptS_cells K.out (ZedS.base Z.out) sx sy _ _) | (go_keep; done) | (simp only [*]; done))
          (first
            | (go_at_call 39; refine (HTx.out _).mono ?_; rintro e w7 ⟨rfl, hb7⟩; (first | (with_reducible (replace K := Lib.hid (KeptS.step K.out sx sy hb7)); (try (with_reducible (replace Z := Lib.hid (ZedS.step Z.out hb7))))) | (with_reducible (have Z := Lib.hid (ZedS.step (zedS_new (B := V.heap.size) (KeptS.size K.out) _) hb7)); with_reducible (replace K := Lib.hid (KeptS.step (KeptS.alloc K.out sx sy _) sx sy hb7))) | (with_reducible (have Z := Lib.hid (ZedS.step (zedS_first _ _) hb7)); with_reducible (replace K := Lib.hid (KeptS.step (keptS_first K0.out sx sy _) sx sy hb7)))); (try (obtain ⟨⟨z0, z1⟩, y0, y1⟩ := Z.out.cells; have ne1 := Nat.ne_of_lt (Nat.lt_of_lt_of_le sx (ZedS.base Z.out)); have ne2 := Nat.ne_of_lt (Nat.lt_of_lt_of_le sy (ZedS.base Z.out)))); clear hb7; obtain ⟨p0, p1⟩ := K.out.2.1; obtain ⟨q0, q1, q2⟩ := K.out.2.2; dsimp only at q0 q1 q2)
            | (go_at_call 41; refine (specOver_any b off c next xs leaseKey ver D B _ (by first | (with_reducible exact (KeptS.objs K.out H.out bV (Nat.le_of_lt sx) hB).1) | (with_reducible exact (KeptS.objs (KeptS.alloc K.out sx sy _) H.out bV (Nat.le_of_lt sx) hB).1)) (by first | (with_reducible exact (KeptS.objs K.out H.out bV (Nat.le_of_lt sx) hB).2) | (with_reducible exact (KeptS.objs (KeptS.alloc K.out sx sy _) H.out bV (Nat.le_of_lt sx) hB).2)) HS.out hc (by rw [leaseKey_size]; unfold maxLen; omega) (by unfold maxLen; omega)).mono ?_; rintro e w7 ⟨L, nx, cd, A', c', hR, rfl, hsl, hb7⟩; have HR := Lib.hid hR; have HSL := Lib.hid hsl; clear hR hsl; (first | (with_reducible (replace K := Lib.hid (KeptS.step K.out sx sy hb7)); (try (with_reducible (replace Z := Lib.hid (ZedS.step Z.out hb7))))) | (with_reducible (have Z := Lib.hid (ZedS.step (zedS_new (B := V.heap.size) (KeptS.size K.out) _) hb7)); with_reducible (replace K := Lib.hid (KeptS.step (KeptS.alloc K.out sx sy _) sx sy hb7))) | (with_reducible (have Z := Lib.hid (ZedS.step (zedS_first _ _) hb7)); with_reducible (replace K := Lib.hid (KeptS.step (keptS_first K0.out sx sy _) sx sy hb7)))); (try (obtain ⟨⟨z0, z1⟩, y0, y1⟩ := Z.out.cells; have ne1 := Nat.ne_of_lt (Nat.lt_of_lt_of_le sx (ZedS.base Z.out)); have ne2 := Nat.ne_of_lt (Nat.lt_of_lt_of_le sy (ZedS.base Z.out)))); clear hb7; obtain ⟨p0, p1⟩ := K.out.2.1; obtain ⟨q0, q1, q2⟩ := K.out.2.2; dsimp only at q0 q1 q2))
        all_goals (go_wp2_with fail; go_meet)
        all_goals first | (with_reducible exact ⟨_, L, nx, cd, A', c', rfl, rfl, HR, Lib.hid (cutS_new K.out HSL.out _)⟩) | (with_reducible exact ⟨_, L, nx, cd, A', c', rfl, rfl, HR, Lib.hid (cutS_set K.out Z.out HSL.out)⟩)
      case rest =>
        obtain ⟨nb, L, nx, cd, A', c', rfl, rfl, HR, HCut⟩ := hcut
        have hnb := HCut.out.2.2.2.1
        have hBx := HCut.out.2.2.1
        obtain ⟨r0, r1⟩ := HCut.out.1
        have q0 := (l1.below hBx sy).1
        dsimp only at q0
        obtain ⟨⟨t10, t11⟩, fz, sN⟩ := T2V.out.below hBx (by omega)
        have f10 := fz 0
        have f11 := fz 1
        have bN : Below x w wc := bV.trans (hBx.mono (by omega))
        have HOC := Lib.hid HCut.out.2.1
        have MN := Lib.hid (M2V.out.below hBx (by omega))
        have HBX := Lib.hid hBx
        clear fz l1 t0V hBx T2V M2V HCut
        have wt1 : wrap64 (a.tk + 1) = a.tk + 1 := by unfold wrap64; omega
        have fin3 : ∀ tok, AcqC xs next who now L nx tok cd → ∀ wF, wF = ((wc.setCell ⟨x + 1, 0, none⟩ (.slice A' L.length c')).setCell ⟨x + 1, 1, none⟩ (.int .i64 nx)).drew → (wF.cell? ⟨x + 1, 0, none⟩ = some (.slice A' L.length c') ∧ wF.cell? ⟨x + 1, 1, none⟩ = some (.int .i64 nx)) ∧ StS3 (AcqC xs next who now) w (.returned (.tuple #[.agg #[.slice A' L.length c', .int .i64 nx], .int .i64 tok, .int .i64 cd])) wF := fun tok hC wF hF => by
          subst hF
          have hbF : Below x w ((wc.setCell ⟨x + 1, 0, none⟩ (.slice A' L.length c')).setCell ⟨x + 1, 1, none⟩ (.int .i64 nx)) := (bN.setCell (p := ⟨x + 1, 0, none⟩) (show x ≤ x + 1 by omega) _).setCell (p := ⟨x + 1, 1, none⟩) (show x ≤ x + 1 by omega) _
          have hoF := fin_objs HOC.out MN.out (.slice A' L.length c') (.int .i64 nx)
          have z0 : ((wc.setCell ⟨x + 1, 0, none⟩ (.slice A' L.length c')).setCell ⟨x + 1, 1, none⟩ (.int .i64 nx)).cell? ⟨x + 1, 0, none⟩ = some (.slice A' L.length c') := (cset_ne _ _ 1 0 _ (by omega)).trans (cset_eq wc (x + 1) 0 _ t10)
          have z1 : ((wc.setCell ⟨x + 1, 0, none⟩ (.slice A' L.length c')).setCell ⟨x + 1, 1, none⟩ (.int .i64 nx)).cell? ⟨x + 1, 1, none⟩ = some (.int .i64 nx) := cset_eq _ (x + 1) 1 _ ((cset_ne wc _ 0 1 _ (by omega)).trans t11)
          exact ⟨⟨z0, z1⟩, L, nx, tok, cd, A', c', hC, rfl, hoF, by rw [Hx.out]; exact hbF.drew⟩
        have FIN3 := Lib.hid fin3; clear fin3
        have W1 := Lib.hid (show IntKind.i64.wrap (a.tk + 1) = a.tk + 1 from by rw [IntKind.wrap_i64]; omega)
        have W0 := Lib.hid (show IntKind.i64.wrap 0 = 0 from by rw [IntKind.wrap_i64]; rfl)
        by_cases hc0 : cd = 0
        · subst hc0
          have HC := Lib.hid (show AcqC xs next who now L nx (a.tk + 1) 0 from ⟨a, ver, 0, HA.out, Or.inr (Or.inr (Or.inr ⟨rfl, KP.out, HMX.out, HPR.out L nx 0 HR.out, Or.inl ⟨rfl, rfl⟩⟩))⟩)
          go_wp2_with fail
          go_region_held3 (fun w' => w'.cell? ⟨nb, 0, none⟩ = some (.slice A' L.length c') ∧ w'.cell? ⟨nb, 1, none⟩ = some (.int .i64 nx) ∧ w'.cell? ⟨y, 0, none⟩ = some (.int .i64 (a.tk + 1)))
            (first | exact ⟨r0, r1, q0⟩ | exact ⟨far2 _ _ (by omega) r0, far2 _ _ (by omega) r1, far2 _ _ (by omega) q0⟩ | (go_keep; done))
            (first | (go_at_call 40; refine (bit_yes _).mono ?_; rintro e w' ⟨rfl, rfl⟩))
          all_goals (
            obtain ⟨⟨v0, v1⟩, hend⟩ := FIN3.out (a.tk + 1) HC.out _ rfl
            go_wp2
            exact bodyPost_ret (v := .tuple #[.agg #[.slice A' L.length c', .int .i64 nx], .int .i64 (a.tk + 1), .int .i64 0]) (by simp [results, Tryz.results19, go_sem, v0, v1, W1.out, W0.out]) rfl hend)
        · have d2 : (cd == 0) = false := by rw [beq_eq_false_iff_ne]; exact hc0
          have HC := Lib.hid (show AcqC xs next who now L nx 0 cd from ⟨a, ver, 0, HA.out, Or.inr (Or.inr (Or.inr ⟨rfl, KP.out, HMX.out, HPR.out L nx cd HR.out, Or.inr ⟨hc0, rfl⟩⟩))⟩)
          clear hc0
          go_wp2_with fail
          go_region_held3 (fun w' => w'.cell? ⟨nb, 0, none⟩ = some (.slice A' L.length c') ∧ w'.cell? ⟨nb, 1, none⟩ = some (.int .i64 nx) ∧ w'.cell? ⟨y, 0, none⟩ = some (.int .i64 (a.tk + 1)))
            (first | exact ⟨r0, r1, q0⟩ | exact ⟨far2 _ _ (by omega) r0, far2 _ _ (by omega) r1, far2 _ _ (by omega) q0⟩ | (go_keep; done))
            (first | (go_at_call 40; refine (bit_no _).mono ?_; rintro e w' ⟨rfl, rfl⟩))
          all_goals (
            obtain ⟨⟨v0, v1⟩, hend⟩ := FIN3.out 0 HC.out _ rfl
            go_wp2
            exact bodyPost_ret (v := .tuple #[.agg #[.slice A' L.length c', .int .i64 nx], .int .i64 0, .int .i64 cd]) (by simp [results, Tryz.results19, go_sem, v0, v1, W1.out, W0.out]) rfl hend)

end Go.Proofs.YtkpaocejpjhkpaaGreatDoor

/- Contract of the model's Acquire; what Acquire answers is one thing only. Conditions: lengths. -/
namespace Go.Proofs.YtkpaocejpjhkpaaGreatDoor
open Go.ChangeShapes Go.WideShapes Go.ChangeAt Go.RowKit Go.Maps
set_option linter.unusedVariables false
set_option linter.unusedSimpArgs false

theorem AcqC.len {xs : List GObj} {next who now : Int} {L : List GObj} {nx tok cd : Int} (hS : StoreP xs next) (h : AcqC xs next who now L nx tok cd) : L.length ≤ 400 := by
  have h3 := hS.2.2.1
  obtain ⟨a, ver, cd0, _, ⟨_, rfl, _⟩ | ⟨_, _, rfl, _⟩ | ⟨_, _, _, rfl, _⟩ | ⟨_, _, _, ⟨p, hp⟩, _⟩⟩ := h
  · omega
  · omega
  · omega
  · have := PutP.len' hp; omega

theorem AcqC.one {xs : List GObj} {next who now : Int} {L L' : List GObj} {nx nx' tok tok' cd cd' : Int} (h : AcqC xs next who now L nx tok cd) (h' : AcqC xs next who now L' nx' tok' cd') : L' = L ∧ nx' = nx ∧ tok' = tok ∧ cd' = cd := by
  obtain ⟨a, v, c, hA, h⟩ := h
  obtain ⟨a', v', c', hA', h'⟩ := h'
  obtain ⟨rfl, rfl, rfl⟩ := hA.one hA'
  rcases h with ⟨h1, e1, e2, e3, e4⟩ | ⟨h1, h2, e1, e2, e3, e4⟩ | ⟨h1, h2, h3, e1, e2, e3, e4⟩ | ⟨h1, h2, h3, h4, h5⟩ <;>
    rcases h' with ⟨k1, d1, d2, d3, d4⟩ | ⟨k1, k2, d1, d2, d3, d4⟩ | ⟨k1, k2, k3, d1, d2, d3, d4⟩ | ⟨k1, k2, k3, k4, k5⟩ <;>
    first
    | exact absurd k1 h1
    | exact absurd h1 k1
    | (rw [h2] at k2; cases k2; done)
    | exact absurd h3 k3
    | exact absurd k3 h3
    | exact ⟨by rw [d1, e1], by rw [d2, e2], by rw [d3, e3], by rw [d4, e4]⟩
    | (obtain ⟨e1, e2, e3⟩ := PutR.one h4 k4
       refine ⟨e1, e2, ?_, e3⟩
       subst e3
       rcases h5 with ⟨p1, p2⟩ | ⟨p1, p2⟩ <;> rcases k5 with ⟨q1, q2⟩ | ⟨q1, q2⟩ <;> first | (rw [p2, q2]; done) | exact absurd p1 q1 | exact absurd q1 p1)

theorem AcqR.len {xs : List GObj} {next who now : Int} {L : List GObj} {nx tok cd : Int} (h : AcqR xs next who now L nx tok cd) : L.length ≤ 400 := by
  rcases h with ⟨_, _, rfl, _⟩ | ⟨h1, h2⟩
  · simp
  · exact AcqC.len h1.store h2

theorem AcqR.one {xs : List GObj} {next who now : Int} {L L' : List GObj} {nx nx' tok tok' cd cd' : Int} (h : AcqR xs next who now L nx tok cd) (h' : AcqR xs next who now L' nx' tok' cd') : L' = L ∧ nx' = nx ∧ tok' = tok ∧ cd' = cd := by
  rcases h with ⟨h1, h2, e1, e2, e3⟩ | ⟨h1, h2⟩ <;> rcases h' with ⟨k1, k2, d1, d2, d3⟩ | ⟨k1, k2⟩
  · exact ⟨by rw [d1, e1], by rw [d2, e2], by rw [d3, e3], k1.one h1⟩
  · exact absurd (h1.one k1) h2
  · exact absurd (k1.one h1) k2
  · exact AcqC.one h2 k2

set_option maxRecDepth 100000 in
set_option maxHeartbeats 2000000 in
theorem specAcquire_any (b off c : Nat) (next : Int) (xs : List GObj) (who now : Int) (B : Nat) (w : World) (h : ObjsAt w B (some ⟨b, off, none⟩) xs) (hB : B ≤ w.heap.size) (hf : ∀ o ∈ xs, o.fit) (hl : xs.length ≤ 1048576) (hc : xs.length ≤ c) :
    Calls Tryz.prog 7 #[.agg #[.slice (some ⟨b, off, none⟩) xs.length c, .int .i64 next], .int .i64 who, .int .i64 now] w (StAns (AcqR xs next who now) w) := by
  have H := Lib.hid h; clear h
  have Hf := Lib.hid hf; clear hf
  go_enter Tryz.func7, Tryz.ntmps7
  go_wp2_with fail
  obtain ⟨W, hW⟩ : ∃ W, W = (w.alloc (.cells #[.slice (some ⟨b, off, none⟩) xs.length c, .int .i64 next] 28)).alloc (.cells #[.slice none 0 0, .int .i64 0] 28) := ⟨_, rfl⟩
  have t2 : ZeroSt W (w.heap.size + 1) := by
    rw [hW]
    have := ZeroSt.new (w.alloc (.cells #[.slice (some ⟨b, off, none⟩) xs.length c, .int .i64 next] 28)) 28
    simpa using this
  have t0 : Two W w.heap.size (.slice (some ⟨b, off, none⟩) xs.length c) (.int .i64 next) := by rw [hW]; exact (Two.new w _ _ _).alloc (by simp) _
  have b0 : Below w.heap.size w W := by rw [hW]; exact bal (bal (Below.refl _ _) _) _
  rw [← hW]
  clear hW
  have T2 := Lib.hid t2; have T0 := Lib.hid t0
  clear t2 t0
  have s0 := T2.out.2.2
  generalize hx : w.heap.size = x at *
  have Hx := Lib.hid hx; clear hx
  refine (l05Ask_any (some ⟨b, off, none⟩) c next xs who now B W (Sl.below H.out b0 hB) (by omega) Hf.out hl).mono ?_
  rintro e w1 ⟨cd, rfl, hk, hb1⟩
  have b1 : Below x w w1 := b0.trans (hb1.mono (by omega))
  have T21 := Lib.hid (T2.out.below hb1 s0)
  have T01 := Lib.hid (T0.out.below hb1 (by omega))
  have s1 := T21.out.2.2
  clear T2 T0 hb1 b0 s0
  by_cases hz : cd = 0
  · subst hz
    have hS : StoreP xs next ∧ (0 ≤ who ∧ who ≤ 9) ∧ (0 : Int) ≤ (now : Int) ∧ (now : Int) ≤ 101000 := by
      rcases hk with ⟨_, h⟩ | ⟨_, _, h⟩ | ⟨h, h1, h2, _⟩
      · omega
      · omega
      · exact ⟨h, inB_iff.1 h1, inB_iff.1 h2⟩
    obtain ⟨hS, ⟨m0, m1⟩, n0, n1⟩ := hS
    have HS := Lib.hid hS; have HK := Lib.hid hk
    clear hS hk
    obtain ⟨s00, s01⟩ := T01.out
    go_wp2_with fail
    refine (l05Acquire_any b off c next xs who now B w1 (Sl.below H.out b1 hB) (by omega) HS.out hc m0 m1 n0 n1).mono ?_
    rintro e w2 ⟨L, nx, tok, cd, A2, c2, hR, rfl, hs2, hb2⟩
    have hlen := AcqC.len HS.out hR
    have HC := Lib.hid (show AcqR xs next who now L nx tok cd from Or.inr ⟨HK.out, hR⟩)
    have b2 : Below x w w2 := b1.trans (hb2.mono (by omega))
    have T22 := Lib.hid (T21.out.below hb2 s1)
    have s2 := T22.out.2.2
    have HS2 := Lib.hid hs2
    clear hR hs2 hb2 T21 T01 s00 s01 b1
    go_wp2_with fail
    obtain ⟨V, hV⟩ : ∃ V, V = w2.alloc (.cells #[.slice A2 L.length c2, .int .i64 nx] 28) := ⟨_, rfl⟩
    have bv : Below w2.heap.size w2 V := by rw [hV]; exact bal (Below.refl _ _) _
    rw [← hV]
    clear hV
    have bV : Below x w V := b2.trans (bv.mono (by omega))
    have T2V := Lib.hid (T22.out.below bv s2)
    have sV := T2V.out.2.2
    have HSV := Lib.hid (Sl.below HS2.out bv (Nat.le_refl _))
    have zV := bv.size
    clear HS2 T22 bv b2
    refine (own_any A2 c2 nx L w2.heap.size V HSV.out zV hlen).mono ?_
    rintro e wN ⟨v, rfl, A', c', rfl, hsl, hfr, hbl, hcc, hbN⟩
    have bN : Below x w wN := bV.trans (hbN.mono (by omega))
    obtain ⟨⟨t10, t11⟩, fz, sN⟩ := T2V.out.below hbN sV
    have f10 := fz 0
    have f11 := fz 1
    have T1N : Two wN (x + 1) (.slice none 0 0) (.int .i64 0) := ⟨t10, t11⟩
    clear fz hbN T2V HSV
    go_wp2
    obtain ⟨⟨z0, z1⟩, r1, r2, r3, r4⟩ := fin_store (w := w) T1N hsl hfr (fun b e => ⟨by have := (hbl b e).1; omega, (hbl b e).2⟩) (by rw [Hx.out]; exact bN) (by rw [Hx.out]; omega) (.slice A' L.length c') (.int .i64 nx)
    clear t10 t11 f10 f11
    generalize (wN.setCell ⟨x + 1, 0, none⟩ (.slice A' L.length c')).setCell ⟨x + 1, 1, none⟩ (.int .i64 nx) = wF at *
    exact bodyPost_ret (v := .tuple #[.agg #[.slice A' L.length c', .int .i64 nx], .int .i64 tok, .int .i64 cd]) (by simp [results, Tryz.results7, go_sem, z0, z1]) rfl ⟨L, nx, tok, cd, A', c', HC.out, rfl, r1, r2, r3, hcc, r4⟩
  · have HC := Lib.hid (show AcqR xs next who now [] 0 0 cd from Or.inl ⟨hk, hz, rfl, rfl, rfl⟩)
    have d1 : (cd != 0) = true := by simpa using hz
    clear hz hk
    obtain ⟨⟨t10, t11⟩, fz, _⟩ := T21.out
    have f10 := fz 0
    have f11 := fz 1
    clear fz
    go_wp2
    refine bodyPost_ret (v := .tuple #[.agg #[.slice none 0 0, .int .i64 0], .int .i64 0, .int .i64 cd]) (by simp [results, Tryz.results7, go_sem, *]) rfl ⟨[], 0, 0, cd, none, 0, HC.out, rfl, Sl.nil, Free.none_, fun b e => by simp [blk] at e, by simp, ?_⟩
    rw [Hx.out]
    exact (b1.setCell (p := ⟨x + 1, 0, none⟩) (show x ≤ x + 1 by omega) _).setCell (p := ⟨x + 1, 1, none⟩) (show x ≤ x + 1 by omega) _

end Go.Proofs.YtkpaocejpjhkpaaGreatDoor
