/-
  Contract of the model's l01Set.
-/
import Derived.Test.YtpgilbmajbpdkaaSetR
namespace Go.Proofs.Ytpgilbmajbpdkaa
open Go.ChangeShapes Go.WideShapes Go.ChangeAt Go.RowKit Go.Maps
set_option linter.unusedVariables false

set_option maxRecDepth 100000 in
set_option maxHeartbeats 1000000 in
theorem specSet_any (b off c : Nat) (next : Int) (xs : List GObj) (key data : ByteArray) (B : Nat) (w : World) (h : ObjsAt w B (some ⟨b, off, none⟩) xs) (hB : B ≤ w.heap.size) (hl : xs.length ≤ 300) (hc : xs.length ≤ c) (hn : 0 ≤ next ∧ next ≤ 1000000000) (hk : key.size ≤ maxLen) :
    Calls Try.prog 77 #[.agg #[.slice (some ⟨b, off, none⟩) xs.length c, .int .i64 next], .string key, .string data] w fun e w' => ∃ v, e = .returned v ∧ NewSt (setL xs ⟨key, next, data⟩) (next + 1) w v w' := by
  have H := Lib.hid h; clear h
  have hwr : wrap64 (next + 1) = next + 1 := by simp only [wrap64]; omega
  go_enter Try.func77, Try.ntmps77
  go_wp2_with fail
  obtain ⟨W, hW⟩ : ∃ W, W = (w.alloc (.cells #[.slice (some ⟨b, off, none⟩) xs.length c, .int .i64 next] 25)).alloc (.cells #[.slice none 0 0, .int .i64 0] 25) := ⟨_, rfl⟩
  have t0 : Two W w.heap.size (.slice (some ⟨b, off, none⟩) xs.length c) (.int .i64 next) := by rw [hW]; exact (Two.new w _ _ _).alloc (by simp) _
  have t1 : Two W (w.heap.size + 1) (.slice none 0 0) (.int .i64 0) := by
    rw [hW]
    have := Two.new (w.alloc (.cells #[.slice (some ⟨b, off, none⟩) xs.length c, .int .i64 next] 25)) (.slice none 0 0) (.int .i64 0) 25
    simpa using this
  have f0 : ∀ b i, w.heap.size ≤ b → b < w.heap.size + 2 → W.frozen? ⟨b, i, none⟩ = false := fun b i h1 h2 => by
    rw [hW]
    have hb : b = w.heap.size ∨ b = w.heap.size + 1 := by omega
    rcases hb with rfl | rfl
    · have := free_alloc w #[.slice (some ⟨b, off, none⟩) xs.length c, .int .i64 next] 25 0 w.heap.size (by simp [blk]) i
      exact (((Below.refl _ _).alloc (Nat.le_refl _) _).frozen (p := ⟨w.heap.size, i, none⟩) (by simp)).trans this
    · exact free_alloc (w.alloc (.cells #[.slice (some ⟨b, off, none⟩) xs.length c, .int .i64 next] 25)) #[.slice none 0 0, .int .i64 0] 25 0 (w.heap.size + 1) (by simp [blk]) i
  have b0 : Below w.heap.size w W := by rw [hW]; exact bal (bal (Below.refl _ _) _) _
  have s0 : W.heap.size = w.heap.size + 2 := by rw [hW]; simp
  rw [← hW]
  clear hW
  have HW := Lib.hid (Sl.below H.out b0 hB)
  have T0 := Lib.hid t0; clear t0
  have T1 := Lib.hid t1; clear t1
  have F0 := Lib.hid f0; clear f0 H
  generalize hx : w.heap.size = x at *
  have Hx := Lib.hid hx; clear hx
  obtain ⟨t00, t01⟩ := T0.out
  have f00 := F0.out x 0 (by omega) (by omega)
  have T00 := Lib.hid t00
  have HC0 := Lib.hid hc
  go_loop [7] (fun i => ∃ k : Nat, k ≤ xs.length ∧ i = .int .i64 k ∧ Hid (∀ j (h : j < xs.length), j < k → kb xs[j] < kb (⟨key, next, data⟩ : GObj))) (fun i => xs.length - (intOf i).toNat)
  case atStart => exact ⟨0, by omega, rfl, Lib.hid (fun j _ h => by omega)⟩
  case round =>
    obtain ⟨k, hk2, rfl, Hn⟩ := hrel
    by_cases hlt : k < xs.length
    · obtain ⟨b', off', eA, hbB, p0, p1, p2⟩ := ObjsAt.obj HW.out hlt
      injection eA with eA
      injection eA with eA1 eA2
      subst eA1 eA2
      by_cases hbl : kb xs[k] < kb (⟨key, next, data⟩ : GObj)
      · have d : Op.bytesLess xs[k].key.toList key.toList = true := (bl_iff _ _).2 hbl
        have hn' : ∀ j (h : j < xs.length), j < k + 1 → kb xs[j] < kb (⟨key, next, data⟩ : GObj) := fun j hj hjk => by
          by_cases e : j = k
          · subst e; exact hbl
          · exact Hn.out j hj (by omega)
        have Hn2 := Lib.hid hn'; clear hn' hbl
        go_wp2
        go_round
        case rel => exact ⟨k + 1, by omega, by go_num, Hn2⟩
        case measure => simp [intOf]; omega
      · have d : Op.bytesLess xs[k].key.toList key.toList = false := by
          cases hh : Op.bytesLess xs[k].key.toList key.toList
          · rfl
          · exact absurd ((bl_iff _ _).1 hh) hbl
        have hset := setL_at (⟨key, next, data⟩ : GObj) xs k hk2 Hn.out (fun _ => hbl)
        by_cases he : xs[k].key = key
        · have hs1 := hset.1 hlt he
          have HS1 := Lib.hid hs1; clear hs1 hset
          have d2 : (xs[k].key.toList == key.toList) = true := by rw [he]; simp
          clear he hbl Hn
          by_cases hce : c = k + 1
          · have hxe : xs.length = k + 1 := by omega
            have hdn : xs.drop (k + 1) = [] := List.drop_eq_nil_of_le (by omega)
            have hs2 := HS1.out
            rw [hdn] at hs2
            clear HS1
            have HS1 := Lib.hid hs2; clear hs2 hdn
            subst hce
            rw [hxe] at t00
            have hq : (k : Int) ≤ (k : Int) + 1 := by omega
            go_wp2_with fail
            refine wp_region_noPanic (set_region _ _ _ _ _ _ _ _ _ _ _ _ _ _ _ _ _ _ _ _ _ _ _ _ _ _ _ _ _ _ _ _ _ _ _ _ _ _ _ _ _ _ _ _ key data x k (k + 1) _ b off B next _ xs [] W (by omega) hl HC0.out (by omega) (by omega) HW.out Sl.nil (by simp <;> omega) T00.out t01 f00 ?_)
            intro u50 u51 u52 u53 u54 u55 u56 u57 u58 u59 u60 u61 u62 u63 u64 u65 A3 c3 w3 n3 hn3 hO3 hb3
            have hnl : n3 = (setL xs ⟨key, next, data⟩).length := by rw [HS1.out]; exact hn3
            have HO3 : OwnSl GObj.vals 3 40 W.heap.size w3 (.slice A3 n3 c3) (setL xs ⟨key, next, data⟩) := by rw [HS1.out]; exact hO3
            have HNL := Lib.hid hnl; clear hnl hn3 hO3
            have T04 := (T0.out.below hb3 (by omega)).set0 (.slice A3 n3 c3)
            have T14 := (T1.out.below hb3 (by omega)).far (p := ⟨x, 0, none⟩) (by show x + 1 ≠ x; omega) (.slice A3 n3 c3)
            have g01 := (frozen_setCell w3 ⟨x, 0, none⟩ (.slice A3 n3 c3) ⟨x, 1, none⟩).trans ((hb3.frozen (p := ⟨x, 1, none⟩) (by show x < W.heap.size; omega)).trans (F0.out x 1 (by omega) (by omega)))
            have g10 := (frozen_setCell w3 ⟨x, 0, none⟩ (.slice A3 n3 c3) ⟨x + 1, 0, none⟩).trans ((hb3.frozen (p := ⟨x + 1, 0, none⟩) (by show x + 1 < W.heap.size; omega)).trans (F0.out (x + 1) 0 (by omega) (by omega)))
            have g11 := (frozen_setCell w3 ⟨x, 0, none⟩ (.slice A3 n3 c3) ⟨x + 1, 1, none⟩).trans ((hb3.frozen (p := ⟨x + 1, 1, none⟩) (by show x + 1 < W.heap.size; omega)).trans (F0.out (x + 1) 1 (by omega) (by omega)))
            have O4 := Lib.hid (HO3.far (p := ⟨x, 0, none⟩) (by show x < W.heap.size; omega) (.slice A3 n3 c3))
            have B4 : Below x w (w3.setCell ⟨x, 0, none⟩ (.slice A3 n3 c3)) := (b0.trans (hb3.mono (by omega))).setCell (p := ⟨x, 0, none⟩) (Nat.le_refl _) _
            clear t00 t01 f00 hb3 HO3 b0 T0 T1 F0 T00 HW HS1
            generalize w3.setCell ⟨x, 0, none⟩ (.slice A3 n3 c3) = w4 at *
            have T0F := Lib.hid (T04.set1 (.int .i64 (next + 1)))
            have T1F := Lib.hid (T14.far (p := ⟨x, 1, none⟩) (by show x + 1 ≠ x; omega) (.int .i64 (next + 1)))
            have OF := Lib.hid (O4.out.far (p := ⟨x, 1, none⟩) (by show x < W.heap.size; omega) (.int .i64 (next + 1)))
            have BF := Lib.hid (B4.setCell (p := ⟨x, 1, none⟩) (Nat.le_refl _) (.int .i64 (next + 1)))
            obtain ⟨q0, q1⟩ := T04
            obtain ⟨r0, r1⟩ := T14
            go_wp2
            obtain ⟨hsl, hfr, hbl, hcc⟩ := OwnSl.sl (c := c3) (A := A3) (by have := OF.out; rw [HNL.out] at this; exact this) vals_length
            obtain ⟨⟨z0, z1⟩, k1, k2, k3, k4⟩ := fin_store (w := w) T1F.out hsl hfr (fun b e => ⟨by have := (hbl b e).1; omega, (hbl b e).2⟩) (by rw [Hx.out]; exact BF.out) (by rw [Hx.out]; omega) (.slice A3 n3 c3) (.int .i64 (next + 1))
            clear q0 q1 r0 r1 g01 g10 g11 hsl hfr hbl OF BF T0F T1F O4 B4
            generalize ((w4.setCell ⟨x, 1, none⟩ (.int .i64 (next + 1))).setCell ⟨x + 1, 0, none⟩ (.slice A3 n3 c3)).setCell ⟨x + 1, 1, none⟩ (.int .i64 (next + 1)) = wF at *
            exact bodyPost_ret (v := .agg #[.slice A3 n3 c3, .int .i64 (next + 1)]) (by simp [results, Try.results77, go_sem, z0, z1]) rfl ⟨_, rfl, A3, c3, by rw [HNL.out], k1, k2, k3, hcc, k4⟩
          · have hdl : (xs.drop (k + 1)).length = xs.length - (k + 1) := by simp
            go_wp2_with fail
            rw [← hdl]
            refine wp_region_noPanic (set_region _ _ _ _ _ _ _ _ _ _ _ _ _ _ _ _ _ _ _ _ _ _ _ _ _ _ _ _ _ _ _ _ _ _ _ _ _ _ _ _ _ _ _ _ key data x k c _ b off B next _ xs (xs.drop (k + 1)) W (by omega) hl HC0.out (by omega) (by omega) HW.out (ObjsAt.drop HW.out (k + 1)) (by simp <;> omega) T00.out t01 f00 ?_)
            intro u50 u51 u52 u53 u54 u55 u56 u57 u58 u59 u60 u61 u62 u63 u64 u65 A3 c3 w3 n3 hn3 hO3 hb3
            have hnl : n3 = (setL xs ⟨key, next, data⟩).length := by rw [HS1.out]; exact hn3
            have HO3 : OwnSl GObj.vals 3 40 W.heap.size w3 (.slice A3 n3 c3) (setL xs ⟨key, next, data⟩) := by rw [HS1.out]; exact hO3
            have HNL := Lib.hid hnl; clear hnl hn3 hO3
            have T04 := (T0.out.below hb3 (by omega)).set0 (.slice A3 n3 c3)
            have T14 := (T1.out.below hb3 (by omega)).far (p := ⟨x, 0, none⟩) (by show x + 1 ≠ x; omega) (.slice A3 n3 c3)
            have g01 := (frozen_setCell w3 ⟨x, 0, none⟩ (.slice A3 n3 c3) ⟨x, 1, none⟩).trans ((hb3.frozen (p := ⟨x, 1, none⟩) (by show x < W.heap.size; omega)).trans (F0.out x 1 (by omega) (by omega)))
            have g10 := (frozen_setCell w3 ⟨x, 0, none⟩ (.slice A3 n3 c3) ⟨x + 1, 0, none⟩).trans ((hb3.frozen (p := ⟨x + 1, 0, none⟩) (by show x + 1 < W.heap.size; omega)).trans (F0.out (x + 1) 0 (by omega) (by omega)))
            have g11 := (frozen_setCell w3 ⟨x, 0, none⟩ (.slice A3 n3 c3) ⟨x + 1, 1, none⟩).trans ((hb3.frozen (p := ⟨x + 1, 1, none⟩) (by show x + 1 < W.heap.size; omega)).trans (F0.out (x + 1) 1 (by omega) (by omega)))
            have O4 := Lib.hid (HO3.far (p := ⟨x, 0, none⟩) (by show x < W.heap.size; omega) (.slice A3 n3 c3))
            have B4 : Below x w (w3.setCell ⟨x, 0, none⟩ (.slice A3 n3 c3)) := (b0.trans (hb3.mono (by omega))).setCell (p := ⟨x, 0, none⟩) (Nat.le_refl _) _
            clear t00 t01 f00 hb3 HO3 b0 T0 T1 F0 T00 HW HS1
            generalize w3.setCell ⟨x, 0, none⟩ (.slice A3 n3 c3) = w4 at *
            have T0F := Lib.hid (T04.set1 (.int .i64 (next + 1)))
            have T1F := Lib.hid (T14.far (p := ⟨x, 1, none⟩) (by show x + 1 ≠ x; omega) (.int .i64 (next + 1)))
            have OF := Lib.hid (O4.out.far (p := ⟨x, 1, none⟩) (by show x < W.heap.size; omega) (.int .i64 (next + 1)))
            have BF := Lib.hid (B4.setCell (p := ⟨x, 1, none⟩) (Nat.le_refl _) (.int .i64 (next + 1)))
            obtain ⟨q0, q1⟩ := T04
            obtain ⟨r0, r1⟩ := T14
            go_wp2
            obtain ⟨hsl, hfr, hbl, hcc⟩ := OwnSl.sl (c := c3) (A := A3) (by have := OF.out; rw [HNL.out] at this; exact this) vals_length
            obtain ⟨⟨z0, z1⟩, k1, k2, k3, k4⟩ := fin_store (w := w) T1F.out hsl hfr (fun b e => ⟨by have := (hbl b e).1; omega, (hbl b e).2⟩) (by rw [Hx.out]; exact BF.out) (by rw [Hx.out]; omega) (.slice A3 n3 c3) (.int .i64 (next + 1))
            clear q0 q1 r0 r1 g01 g10 g11 hsl hfr hbl OF BF T0F T1F O4 B4
            generalize ((w4.setCell ⟨x, 1, none⟩ (.int .i64 (next + 1))).setCell ⟨x + 1, 0, none⟩ (.slice A3 n3 c3)).setCell ⟨x + 1, 1, none⟩ (.int .i64 (next + 1)) = wF at *
            exact bodyPost_ret (v := .agg #[.slice A3 n3 c3, .int .i64 (next + 1)]) (by simp [results, Try.results77, go_sem, z0, z1]) rfl ⟨_, rfl, A3, c3, by rw [HNL.out], k1, k2, k3, hcc, k4⟩
        · have hs1 := hset.2 (fun _ => he)
          have HS1 := Lib.hid hs1; clear hs1 hset
          have d2 := ne_list he
          clear he hbl Hn
          have hdl : (xs.drop k).length = xs.length - k := by simp
          have hck : ¬ c = k := by omega
          go_wp2_with fail
          rw [← hdl]
          refine wp_region_noPanic (set_region _ _ _ _ _ _ _ _ _ _ _ _ _ _ _ _ _ _ _ _ _ _ _ _ _ _ _ _ _ _ _ _ _ _ _ _ _ _ _ _ _ _ _ _ key data x k c _ b off B next _ xs (xs.drop k) W (by omega) hl HC0.out (by omega) (by omega) HW.out (ObjsAt.drop HW.out k) (by simp <;> omega) T00.out t01 f00 ?_)
          intro u50 u51 u52 u53 u54 u55 u56 u57 u58 u59 u60 u61 u62 u63 u64 u65 A3 c3 w3 n3 hn3 hO3 hb3
          have hnl : n3 = (setL xs ⟨key, next, data⟩).length := by rw [HS1.out]; exact hn3
          have HO3 : OwnSl GObj.vals 3 40 W.heap.size w3 (.slice A3 n3 c3) (setL xs ⟨key, next, data⟩) := by rw [HS1.out]; exact hO3
          have HNL := Lib.hid hnl; clear hnl hn3 hO3
          have T04 := (T0.out.below hb3 (by omega)).set0 (.slice A3 n3 c3)
          have T14 := (T1.out.below hb3 (by omega)).far (p := ⟨x, 0, none⟩) (by show x + 1 ≠ x; omega) (.slice A3 n3 c3)
          have g01 := (frozen_setCell w3 ⟨x, 0, none⟩ (.slice A3 n3 c3) ⟨x, 1, none⟩).trans ((hb3.frozen (p := ⟨x, 1, none⟩) (by show x < W.heap.size; omega)).trans (F0.out x 1 (by omega) (by omega)))
          have g10 := (frozen_setCell w3 ⟨x, 0, none⟩ (.slice A3 n3 c3) ⟨x + 1, 0, none⟩).trans ((hb3.frozen (p := ⟨x + 1, 0, none⟩) (by show x + 1 < W.heap.size; omega)).trans (F0.out (x + 1) 0 (by omega) (by omega)))
          have g11 := (frozen_setCell w3 ⟨x, 0, none⟩ (.slice A3 n3 c3) ⟨x + 1, 1, none⟩).trans ((hb3.frozen (p := ⟨x + 1, 1, none⟩) (by show x + 1 < W.heap.size; omega)).trans (F0.out (x + 1) 1 (by omega) (by omega)))
          have O4 := Lib.hid (HO3.far (p := ⟨x, 0, none⟩) (by show x < W.heap.size; omega) (.slice A3 n3 c3))
          have B4 : Below x w (w3.setCell ⟨x, 0, none⟩ (.slice A3 n3 c3)) := (b0.trans (hb3.mono (by omega))).setCell (p := ⟨x, 0, none⟩) (Nat.le_refl _) _
          clear t00 t01 f00 hb3 HO3 b0 T0 T1 F0 T00 HW HS1
          generalize w3.setCell ⟨x, 0, none⟩ (.slice A3 n3 c3) = w4 at *
          have T0F := Lib.hid (T04.set1 (.int .i64 (next + 1)))
          have T1F := Lib.hid (T14.far (p := ⟨x, 1, none⟩) (by show x + 1 ≠ x; omega) (.int .i64 (next + 1)))
          have OF := Lib.hid (O4.out.far (p := ⟨x, 1, none⟩) (by show x < W.heap.size; omega) (.int .i64 (next + 1)))
          have BF := Lib.hid (B4.setCell (p := ⟨x, 1, none⟩) (Nat.le_refl _) (.int .i64 (next + 1)))
          obtain ⟨q0, q1⟩ := T04
          obtain ⟨r0, r1⟩ := T14
          go_wp2
          obtain ⟨hsl, hfr, hbl, hcc⟩ := OwnSl.sl (c := c3) (A := A3) (by have := OF.out; rw [HNL.out] at this; exact this) vals_length
          obtain ⟨⟨z0, z1⟩, k1, k2, k3, k4⟩ := fin_store (w := w) T1F.out hsl hfr (fun b e => ⟨by have := (hbl b e).1; omega, (hbl b e).2⟩) (by rw [Hx.out]; exact BF.out) (by rw [Hx.out]; omega) (.slice A3 n3 c3) (.int .i64 (next + 1))
          clear q0 q1 r0 r1 g01 g10 g11 hsl hfr hbl OF BF T0F T1F O4 B4
          generalize ((w4.setCell ⟨x, 1, none⟩ (.int .i64 (next + 1))).setCell ⟨x + 1, 0, none⟩ (.slice A3 n3 c3)).setCell ⟨x + 1, 1, none⟩ (.int .i64 (next + 1)) = wF at *
          exact bodyPost_ret (v := .agg #[.slice A3 n3 c3, .int .i64 (next + 1)]) (by simp [results, Try.results77, go_sem, z0, z1]) rfl ⟨_, rfl, A3, c3, by rw [HNL.out], k1, k2, k3, hcc, k4⟩
    · obtain rfl : k = xs.length := by omega
      have hset := setL_at (⟨key, next, data⟩ : GObj) xs xs.length hk2 Hn.out (fun h => by omega)
      have hs1 := hset.2 (fun h => by omega)
      rw [List.drop_length] at hs1
      have HS1 := Lib.hid hs1; clear hs1 hset Hn
      by_cases hce : c = xs.length
      · subst hce
        go_wp2_with fail
        refine wp_region_noPanic (set_region _ _ _ _ _ _ _ _ _ _ _ _ _ _ _ _ _ _ _ _ _ _ _ _ _ _ _ _ _ _ _ _ _ _ _ _ _ _ _ _ _ _ _ _ key data x xs.length xs.length _ b off B next _ xs [] W (by omega) hl HC0.out (by omega) (by omega) HW.out Sl.nil (by simp <;> omega) T00.out t01 f00 ?_)
        intro u50 u51 u52 u53 u54 u55 u56 u57 u58 u59 u60 u61 u62 u63 u64 u65 A3 c3 w3 n3 hn3 hO3 hb3
        have hnl : n3 = (setL xs ⟨key, next, data⟩).length := by rw [HS1.out]; exact hn3
        have HO3 : OwnSl GObj.vals 3 40 W.heap.size w3 (.slice A3 n3 c3) (setL xs ⟨key, next, data⟩) := by rw [HS1.out]; exact hO3
        have HNL := Lib.hid hnl; clear hnl hn3 hO3
        have T04 := (T0.out.below hb3 (by omega)).set0 (.slice A3 n3 c3)
        have T14 := (T1.out.below hb3 (by omega)).far (p := ⟨x, 0, none⟩) (by show x + 1 ≠ x; omega) (.slice A3 n3 c3)
        have g01 := (frozen_setCell w3 ⟨x, 0, none⟩ (.slice A3 n3 c3) ⟨x, 1, none⟩).trans ((hb3.frozen (p := ⟨x, 1, none⟩) (by show x < W.heap.size; omega)).trans (F0.out x 1 (by omega) (by omega)))
        have g10 := (frozen_setCell w3 ⟨x, 0, none⟩ (.slice A3 n3 c3) ⟨x + 1, 0, none⟩).trans ((hb3.frozen (p := ⟨x + 1, 0, none⟩) (by show x + 1 < W.heap.size; omega)).trans (F0.out (x + 1) 0 (by omega) (by omega)))
        have g11 := (frozen_setCell w3 ⟨x, 0, none⟩ (.slice A3 n3 c3) ⟨x + 1, 1, none⟩).trans ((hb3.frozen (p := ⟨x + 1, 1, none⟩) (by show x + 1 < W.heap.size; omega)).trans (F0.out (x + 1) 1 (by omega) (by omega)))
        have O4 := Lib.hid (HO3.far (p := ⟨x, 0, none⟩) (by show x < W.heap.size; omega) (.slice A3 n3 c3))
        have B4 : Below x w (w3.setCell ⟨x, 0, none⟩ (.slice A3 n3 c3)) := (b0.trans (hb3.mono (by omega))).setCell (p := ⟨x, 0, none⟩) (Nat.le_refl _) _
        clear t00 t01 f00 hb3 HO3 b0 T0 T1 F0 T00 HW HS1
        generalize w3.setCell ⟨x, 0, none⟩ (.slice A3 n3 c3) = w4 at *
        have T0F := Lib.hid (T04.set1 (.int .i64 (next + 1)))
        have T1F := Lib.hid (T14.far (p := ⟨x, 1, none⟩) (by show x + 1 ≠ x; omega) (.int .i64 (next + 1)))
        have OF := Lib.hid (O4.out.far (p := ⟨x, 1, none⟩) (by show x < W.heap.size; omega) (.int .i64 (next + 1)))
        have BF := Lib.hid (B4.setCell (p := ⟨x, 1, none⟩) (Nat.le_refl _) (.int .i64 (next + 1)))
        obtain ⟨q0, q1⟩ := T04
        obtain ⟨r0, r1⟩ := T14
        go_wp2
        obtain ⟨hsl, hfr, hbl, hcc⟩ := OwnSl.sl (c := c3) (A := A3) (by have := OF.out; rw [HNL.out] at this; exact this) vals_length
        obtain ⟨⟨z0, z1⟩, k1, k2, k3, k4⟩ := fin_store (w := w) T1F.out hsl hfr (fun b e => ⟨by have := (hbl b e).1; omega, (hbl b e).2⟩) (by rw [Hx.out]; exact BF.out) (by rw [Hx.out]; omega) (.slice A3 n3 c3) (.int .i64 (next + 1))
        clear q0 q1 r0 r1 g01 g10 g11 hsl hfr hbl OF BF T0F T1F O4 B4
        generalize ((w4.setCell ⟨x, 1, none⟩ (.int .i64 (next + 1))).setCell ⟨x + 1, 0, none⟩ (.slice A3 n3 c3)).setCell ⟨x + 1, 1, none⟩ (.int .i64 (next + 1)) = wF at *
        exact bodyPost_ret (v := .agg #[.slice A3 n3 c3, .int .i64 (next + 1)]) (by simp [results, Try.results77, go_sem, z0, z1]) rfl ⟨_, rfl, A3, c3, by rw [HNL.out], k1, k2, k3, hcc, k4⟩
      · go_wp2_with fail
        refine wp_region_noPanic (set_region _ _ _ _ _ _ _ _ _ _ _ _ _ _ _ _ _ _ _ _ _ _ _ _ _ _ _ _ _ _ _ _ _ _ _ _ _ _ _ _ _ _ _ _ key data x xs.length c _ b off B next _ xs [] W (by omega) hl HC0.out (by omega) (by omega) HW.out Sl.nil (by simp <;> omega) T00.out t01 f00 ?_)
        intro u50 u51 u52 u53 u54 u55 u56 u57 u58 u59 u60 u61 u62 u63 u64 u65 A3 c3 w3 n3 hn3 hO3 hb3
        have hnl : n3 = (setL xs ⟨key, next, data⟩).length := by rw [HS1.out]; exact hn3
        have HO3 : OwnSl GObj.vals 3 40 W.heap.size w3 (.slice A3 n3 c3) (setL xs ⟨key, next, data⟩) := by rw [HS1.out]; exact hO3
        have HNL := Lib.hid hnl; clear hnl hn3 hO3
        have T04 := (T0.out.below hb3 (by omega)).set0 (.slice A3 n3 c3)
        have T14 := (T1.out.below hb3 (by omega)).far (p := ⟨x, 0, none⟩) (by show x + 1 ≠ x; omega) (.slice A3 n3 c3)
        have g01 := (frozen_setCell w3 ⟨x, 0, none⟩ (.slice A3 n3 c3) ⟨x, 1, none⟩).trans ((hb3.frozen (p := ⟨x, 1, none⟩) (by show x < W.heap.size; omega)).trans (F0.out x 1 (by omega) (by omega)))
        have g10 := (frozen_setCell w3 ⟨x, 0, none⟩ (.slice A3 n3 c3) ⟨x + 1, 0, none⟩).trans ((hb3.frozen (p := ⟨x + 1, 0, none⟩) (by show x + 1 < W.heap.size; omega)).trans (F0.out (x + 1) 0 (by omega) (by omega)))
        have g11 := (frozen_setCell w3 ⟨x, 0, none⟩ (.slice A3 n3 c3) ⟨x + 1, 1, none⟩).trans ((hb3.frozen (p := ⟨x + 1, 1, none⟩) (by show x + 1 < W.heap.size; omega)).trans (F0.out (x + 1) 1 (by omega) (by omega)))
        have O4 := Lib.hid (HO3.far (p := ⟨x, 0, none⟩) (by show x < W.heap.size; omega) (.slice A3 n3 c3))
        have B4 : Below x w (w3.setCell ⟨x, 0, none⟩ (.slice A3 n3 c3)) := (b0.trans (hb3.mono (by omega))).setCell (p := ⟨x, 0, none⟩) (Nat.le_refl _) _
        clear t00 t01 f00 hb3 HO3 b0 T0 T1 F0 T00 HW HS1
        generalize w3.setCell ⟨x, 0, none⟩ (.slice A3 n3 c3) = w4 at *
        have T0F := Lib.hid (T04.set1 (.int .i64 (next + 1)))
        have T1F := Lib.hid (T14.far (p := ⟨x, 1, none⟩) (by show x + 1 ≠ x; omega) (.int .i64 (next + 1)))
        have OF := Lib.hid (O4.out.far (p := ⟨x, 1, none⟩) (by show x < W.heap.size; omega) (.int .i64 (next + 1)))
        have BF := Lib.hid (B4.setCell (p := ⟨x, 1, none⟩) (Nat.le_refl _) (.int .i64 (next + 1)))
        obtain ⟨q0, q1⟩ := T04
        obtain ⟨r0, r1⟩ := T14
        go_wp2
        obtain ⟨hsl, hfr, hbl, hcc⟩ := OwnSl.sl (c := c3) (A := A3) (by have := OF.out; rw [HNL.out] at this; exact this) vals_length
        obtain ⟨⟨z0, z1⟩, k1, k2, k3, k4⟩ := fin_store (w := w) T1F.out hsl hfr (fun b e => ⟨by have := (hbl b e).1; omega, (hbl b e).2⟩) (by rw [Hx.out]; exact BF.out) (by rw [Hx.out]; omega) (.slice A3 n3 c3) (.int .i64 (next + 1))
        clear q0 q1 r0 r1 g01 g10 g11 hsl hfr hbl OF BF T0F T1F O4 B4
        generalize ((w4.setCell ⟨x, 1, none⟩ (.int .i64 (next + 1))).setCell ⟨x + 1, 0, none⟩ (.slice A3 n3 c3)).setCell ⟨x + 1, 1, none⟩ (.int .i64 (next + 1)) = wF at *
        exact bodyPost_ret (v := .agg #[.slice A3 n3 c3, .int .i64 (next + 1)]) (by simp [results, Try.results77, go_sem, z0, z1]) rfl ⟨_, rfl, A3, c3, by rw [HNL.out], k1, k2, k3, hcc, k4⟩

end Go.Proofs.Ytpgilbmajbpdkaa
