/-
  Contract of the model's StoreOK: true just of a store.
-/
import Derived.Test.YtkpaocejpjhkpaaGreatDoorRight
namespace Go.Proofs.YtkpaocejpjhkpaaGreatDoor
open Go.ChangeShapes Go.WideShapes Go.ChangeAt Go.RowKit Go.Maps
set_option linter.unusedVariables false

theorem specKey_yes (s : ByteArray) (w : World) (hs : s.size ≤ maxLen) (h : KeyP s) : Calls Tryz.prog 55 #[.string s] w fun e w' => e = .returned (.bool true) ∧ w' = w :=
  (specKey_any s w hs).mono fun e w' ⟨b, hb, he, hw⟩ => ⟨by rw [he, hb.2 h], hw.symm⟩

theorem specKey_no (s : ByteArray) (w : World) (hs : s.size ≤ maxLen) (h : ¬ KeyP s) : Calls Tryz.prog 55 #[.string s] w fun e w' => e = .returned (.bool false) ∧ w' = w :=
  (specKey_any s w hs).mono fun e w' ⟨b, hb, he, hw⟩ => ⟨by rw [he]; cases b; (· rfl); (· exact absurd (hb.1 rfl) h), hw.symm⟩

theorem l01In_yes (n a b : Int) (w : World) (h : a ≤ n ∧ n ≤ b) : Calls Tryz.prog 35 #[.int .i64 n, .int .i64 a, .int .i64 b] w fun e w' => e = .returned (.bool true) ∧ w' = w :=
  (l01In_any n a b w).mono fun e w' ⟨he, hw⟩ => ⟨by rw [he]; simp [h], hw.symm⟩

theorem l01In_no (n a b : Int) (w : World) (h : ¬ (a ≤ n ∧ n ≤ b)) : Calls Tryz.prog 35 #[.int .i64 n, .int .i64 a, .int .i64 b] w fun e w' => e = .returned (.bool false) ∧ w' = w :=
  (l01In_any n a b w).mono fun e w' ⟨he, hw⟩ => ⟨by rw [he]; simp [h], hw.symm⟩

/-- one more than the greatest version that the model lets by: next itself, but at the least of all numbers, where one less is the greatest -/
def nxw (next : Int) : Int := wrap64 (next - 1) + 1

theorem nxw_eq {next : Int} (h1 : 1 ≤ next) (h2 : next ≤ 1000000000) : nxw next = next := by unfold nxw wrap64; omega

theorem not_store_of {xs : List GObj} {next : Int} (h : ¬ StoreP xs (nxw next)) : ¬ StoreP xs next := fun hs => h (by rw [nxw_eq hs.1 hs.2.1]; exact hs)

set_option maxRecDepth 100000 in
set_option maxHeartbeats 1000000 in
theorem specStoreOK_any (A : Option Addr) (c : Nat) (next : Int) (xs : List GObj) (B : Nat) (w : World) (h : ObjsAt w B A xs) (hB : B ≤ w.heap.size) (hf : ∀ o ∈ xs, o.fit) (hl : xs.length ≤ 1048576) :
    Calls Tryz.prog 34 #[.agg #[.slice A xs.length c, .int .i64 next]] w (IsBB (StoreP xs next) w) := by
  have H := Lib.hid h; clear h
  have Hf := Lib.hid hf; clear hf
  go_enter Tryz.func34, Tryz.ntmps34
  go_wp2_with fail
  obtain ⟨W, hW⟩ : ∃ W, W = w.alloc (.cells #[.slice A xs.length c, .int .i64 next] 28) := ⟨_, rfl⟩
  have t0 : Two W w.heap.size (.slice A xs.length c) (.int .i64 next) := by rw [hW]; exact Two.new _ _ _ _
  have b0 : Below w.heap.size w W := by rw [hW]; exact bal (Below.refl _ _) _
  have s0 : w.heap.size < W.heap.size := by rw [hW]; simp
  rw [← hW]
  clear hW
  have T0 := Lib.hid t0; clear t0
  go_loopw [3] (fun i wr => ∃ k : Nat, k ≤ xs.length ∧ i = .int .i64 k ∧ Hid (PreOK xs (nxw next) k) ∧ Hid (Two wr w.heap.size (.slice A xs.length c) (.int .i64 next)) ∧ w.heap.size < wr.heap.size ∧ Below w.heap.size w wr) (fun i _ => xs.length - (intOf i).toNat)
  case atStart => exact ⟨0, by omega, rfl, Lib.hid ⟨fun i _ h => by omega, fun i _ h => by omega, fun i j _ _ h => by omega⟩, T0, s0, b0⟩
  case round =>
    clear T0 b0 s0
    obtain ⟨k, hk, rfl, Hp, HT, hws, hb⟩ := hrel
    obtain ⟨t10, t11⟩ := HT.out
    by_cases hlt : k < xs.length
    · obtain ⟨b, off, rfl, hbB, p0, p1, p2⟩ := ObjsAt.obj (Sl.below H.out hb hB) hlt
      have hfit : xs[k].fit := Hf.out _ (List.getElem_mem hlt)
      have Hfit := Lib.hid hfit; clear hfit
      go_wp2_with fail
      obtain ⟨Wc, hWc⟩ : ∃ Wc, Wc = wr.alloc (.cells #[.string xs[k].key, .int .i64 xs[k].ver, .string xs[k].data] 69) := ⟨_, rfl⟩
      have o0 : Wc.cell? ⟨wr.heap.size, 0, none⟩ = some (.string xs[k].key) := by rw [hWc]; simp
      have o1 : Wc.cell? ⟨wr.heap.size, 1, none⟩ = some (.int .i64 xs[k].ver) := by rw [hWc]; simp
      have o2 : Wc.cell? ⟨wr.heap.size, 2, none⟩ = some (.string xs[k].data) := by rw [hWc]; simp
      have bc : Below wr.heap.size wr Wc := by rw [hWc]; exact bal (Below.refl _ _) _
      have sc : wr.heap.size < Wc.heap.size := by rw [hWc]; simp
      rw [← hWc]
      clear hWc p0 p1 p2 t10 t11
      obtain ⟨t10, t11⟩ := HT.out.below bc hws
      have bw : Below w.heap.size w Wc := bnext hb bc
      have HT2 := Lib.hid (HT.out.below bc hws)
      have S2 := Lib.hid (Sl.below H.out bw hB)
      have sw : w.heap.size < Wc.heap.size := by omega
      clear HT bc
      by_cases c1 : KeyP xs[k].key
      · by_cases c2 : 1 ≤ xs[k].ver ∧ xs[k].ver ≤ wrap64 (next - 1)
        · have C1 := Lib.hid c1; clear c1
          have C2 := Lib.hid c2; clear c2
          by_cases c3 : xs[k].data.size ≤ 600
          · have d3 : decide (600 < (xs[k].data.size : Int)) = false := by simp; omega
            by_cases h0 : 0 < k
            · obtain ⟨j, rfl⟩ : ∃ j, k = j + 1 := ⟨k - 1, by omega⟩
              have hk1 : j < xs.length := by omega
              obtain ⟨b', off', e, _, r0, _, _⟩ := ObjsAt.obj S2.out hk1
              injection e with e
              injection e with e1 e2
              subst e1 e2
              clear h0
              have wr1 : IntKind.i64.wrap ((j : Int) + 1 - 1) = (j : Int) := by rw [IntKind.wrap_i64]; omega
              have j0 : (0 : Int) ≤ (j : Int) := by omega
              have j1 : (j : Int) < (xs.length : Int) := by omega
              cases hbl : bl xs[j].key xs[j + 1].key
              · have hn : ¬ StoreP xs next := not_store_key (k := j + 1) hlt (by omega) hbl
                have Hn := Lib.hid hn; clear hn
                unfold bl at hbl
                go_quiet (first | (go_at_call 55; exact Calls.quiet_of_same (specKey_yes _ _ Hfit.out.1.1 C1.out)) | (go_at_call 35; exact Calls.quiet_of_same (l01In_yes _ _ _ _ C2.out)))
                go_wp2
                go_ret
                exact ⟨false, by simp [Hn.out], rfl, bdrewN bw _⟩
              · have Hbl := Lib.hid hbl
                unfold bl at hbl
                go_quiet (first | (go_at_call 55; exact Calls.quiet_of_same (specKey_yes _ _ Hfit.out.1.1 C1.out)) | (go_at_call 35; exact Calls.quiet_of_same (l01In_yes _ _ _ _ C2.out)))
                go_wp2_with fail
                have bq : Below Wc.heap.size Wc (Wc.drewN nq) := bdrewN (Below.refl _ _) _
                generalize Wc.drewN nq = Wd at bq ⊢
                have qo1 : Wd.cell? ⟨wr.heap.size, 1, none⟩ = some (.int .i64 xs[j + 1].ver) := (bq.cell sc).trans o1
                have bwd : Below w.heap.size w Wd := bnext bw bq
                have HTd := Lib.hid (HT2.out.below bq sw)
                have Sd := Lib.hid (Sl.below S2.out bq (by have := hb.size; omega))
                have scd : wr.heap.size < Wd.heap.size := by have := bq.size; omega
                have swd : w.heap.size < Wd.heap.size := by have := bq.size; omega
                clear o0 o1 o2 t10 t11 bq HT2 S2 wr1 j0 j1 hbl r0
                have Qo1 := Lib.hid qo1; clear qo1
                obtain ⟨wo, hwo⟩ : ∃ wo : World, wo = wr := ⟨_, rfl⟩
                rw [← hwo] at Qo1 scd
                have Hwo := Lib.hid hwo; clear hwo
                go_loopw [5] (fun i wi => ∃ jj : Nat, jj ≤ j + 1 ∧ i = .int .i64 jj ∧ Hid (∀ i (h : i < xs.length), i < jj → xs[i].ver ≠ xs[j + 1].ver) ∧ Below Wd.heap.size Wd wi) (fun i _ => j + 1 - (intOf i).toNat)
                case atStart => exact ⟨0, by omega, rfl, Lib.hid (fun i _ h => by omega), Below.refl _ _⟩
                case round =>
                  obtain ⟨j2, hj2, rfl, Hv, hbi⟩ := hrel
                  have bwi := bnext bwd hbi
                  obtain ⟨y10, y11⟩ := HTd.out.below hbi (by omega)
                  by_cases hjk : j2 < j + 1
                  · have hj3 : j2 < xs.length := by omega
                    obtain ⟨b', off', e, _, _, r1, _⟩ := ObjsAt.obj (Sl.below Sd.out hbi (by omega)) hj3
                    injection e with e
                    injection e with e1 e2
                    subst e1 e2
                    have q1 := (hbi.cell scd).trans Qo1.out
                    rw [Hwo.out] at q1
                    by_cases hve : xs[j2].ver = xs[j + 1].ver
                    · have hn : ¬ StoreP xs next := fun hs => hs.2.2.2.2.2 j2 (j + 1) hlt hjk hlt hve
                      have Hn := Lib.hid hn; clear hn
                      have e1 : (xs[j2].ver == xs[j + 1].ver) = true := by simpa using hve
                      clear hve
                      go_wp2_with fail
                      go_quiet (fail)
                      go_wp2
                      go_ret
                      exact ⟨false, by simp [Hn.out], rfl, bdrewN bwi _⟩
                    · have hn : ∀ i (h : i < xs.length), i < j2 + 1 → xs[i].ver ≠ xs[j + 1].ver := fun i h hi => by
                        by_cases ei : i = j2
                        · subst ei; exact hve
                        · exact Hv.out i h (by omega)
                      have Hn := Lib.hid hn; clear hn
                      have e1 : (xs[j2].ver == xs[j + 1].ver) = false := by simpa using hve
                      clear hve
                      go_wp2_with fail
                      go_quiet (fail)
                      go_wp2
                      go_roundw
                      case rel => exact ⟨j2 + 1, by omega, by go_num, Hn, bdrewN hbi _⟩
                      case measure => simp [intOf]; omega
                  · have hp : PreOK xs (nxw next) (j + 1 + 1) := Hp.out.succ hlt ⟨C1.out, C2.out.1, by unfold nxw; have := C2.out.2; omega, c3⟩ (by
                        cases hc : (vers xs (j + 1)).contains xs[j + 1].ver
                        · rfl
                        · obtain ⟨i, hi, hik, he⟩ := (vers_has xs _ _ (by omega)).1 hc
                          exact absurd he (Hv.out i hi (by omega))) (fun _ => Hbl.out)
                    have Hp2 := Lib.hid hp; clear hp
                    have Ht2 := Lib.hid (HTd.out.below hbi (by omega))
                    have hwi : w.heap.size < _ := Nat.lt_of_lt_of_le (show w.heap.size < Wd.heap.size by omega) hbi.size
                    go_wp2
                    go_roundw
                    case rel => exact ⟨j + 1 + 1, by omega, by go_num, Hp2, Ht2, hwi, bwi⟩
                    case measure => simp [intOf]; omega
            · obtain rfl : k = 0 := by omega
              clear h0
              have d0 : decide (0 < ((0 : Nat) : Int)) = false := by simp
              go_quiet (first | (go_at_call 55; exact Calls.quiet_of_same (specKey_yes _ _ Hfit.out.1.1 C1.out)) | (go_at_call 35; exact Calls.quiet_of_same (l01In_yes _ _ _ _ C2.out)))
              go_wp2_with fail
              have bq : Below Wc.heap.size Wc (Wc.drewN nq) := bdrewN (Below.refl _ _) _
              generalize Wc.drewN nq = Wd at bq ⊢
              have qo1 : Wd.cell? ⟨wr.heap.size, 1, none⟩ = some (.int .i64 xs[0].ver) := (bq.cell sc).trans o1
              have bwd : Below w.heap.size w Wd := bnext bw bq
              have HTd := Lib.hid (HT2.out.below bq sw)
              have Sd := Lib.hid (Sl.below S2.out bq (by have := hb.size; omega))
              have scd : wr.heap.size < Wd.heap.size := by have := bq.size; omega
              have swd : w.heap.size < Wd.heap.size := by have := bq.size; omega
              clear o0 o1 o2 t10 t11 bq HT2 S2 d0
              have Qo1 := Lib.hid qo1; clear qo1
              obtain ⟨wo, hwo⟩ : ∃ wo : World, wo = wr := ⟨_, rfl⟩
              rw [← hwo] at Qo1 scd
              have Hwo := Lib.hid hwo; clear hwo
              go_loopw [5] (fun i wi => ∃ j : Nat, j ≤ 0 ∧ i = .int .i64 j ∧ Hid (∀ i (h : i < xs.length), i < j → xs[i].ver ≠ xs[0].ver) ∧ Below Wd.heap.size Wd wi) (fun i _ => 0 - (intOf i).toNat)
              case atStart => exact ⟨0, by omega, rfl, Lib.hid (fun i _ h => by omega), Below.refl _ _⟩
              case round =>
                obtain ⟨j2, hj2, rfl, Hv, hbi⟩ := hrel
                have bwi := bnext bwd hbi
                obtain ⟨y10, y11⟩ := HTd.out.below hbi (by omega)
                by_cases hjk : j2 < 0
                · exact absurd hjk (by omega)
                · have hp : PreOK xs (nxw next) (0 + 1) := Hp.out.succ hlt ⟨C1.out, C2.out.1, by unfold nxw; have := C2.out.2; omega, c3⟩ (by
                      cases hc : (vers xs (0)).contains xs[0].ver
                      · rfl
                      · obtain ⟨i, hi, hik, he⟩ := (vers_has xs _ _ (by omega)).1 hc
                        exact absurd he (Hv.out i hi (by omega))) (fun h => absurd h (by omega))
                  have Hp2 := Lib.hid hp; clear hp
                  have Ht2 := Lib.hid (HTd.out.below hbi (by omega))
                  have hwi : w.heap.size < _ := Nat.lt_of_lt_of_le (show w.heap.size < Wd.heap.size by omega) hbi.size
                  go_wp2
                  go_roundw
                  case rel => exact ⟨0 + 1, by omega, by go_num, Hp2, Ht2, hwi, bwi⟩
                  case measure => simp [intOf]; omega
          · have hn : ¬ StoreP xs next := not_store_of (not_store_obj hlt (fun h => c3 h.2.2.2))
            have Hn := Lib.hid hn; clear hn
            have d3 : decide (600 < (xs[k].data.size : Int)) = true := by simp; omega
            go_quiet (first | (go_at_call 55; exact Calls.quiet_of_same (specKey_yes _ _ Hfit.out.1.1 C1.out)) | (go_at_call 35; exact Calls.quiet_of_same (l01In_yes _ _ _ _ C2.out)))
            go_wp2
            go_ret
            exact ⟨false, by simp [Hn.out], rfl, bdrewN bw _⟩
        · have hn : ¬ StoreP xs next := not_store_of (not_store_obj hlt (fun h => c2 ⟨h.2.1, by have := h.2.2.1; unfold nxw at this; omega⟩))
          have Hn := Lib.hid hn; clear hn
          have C1 := Lib.hid c1; clear c1
          have C2 := Lib.hid c2; clear c2
          go_quiet (first | (go_at_call 55; exact Calls.quiet_of_same (specKey_yes _ _ Hfit.out.1.1 C1.out)) | (go_at_call 35; exact Calls.quiet_of_same (l01In_no _ _ _ _ C2.out)))
          go_wp2
          go_ret
          exact ⟨false, by simp [Hn.out], rfl, bdrewN bw _⟩
      · have hn : ¬ StoreP xs next := not_store_of (not_store_obj hlt (fun h => c1 h.1))
        have Hn := Lib.hid hn; clear hn
        have C1 := Lib.hid c1; clear c1
        go_quiet ((go_at_call 55; exact Calls.quiet_of_same (specKey_no _ _ Hfit.out.1.1 C1.out)))
        go_wp2
        go_ret
        exact ⟨false, by simp [Hn.out], rfl, bdrewN bw _⟩
    · obtain rfl : k = xs.length := by omega
      by_cases n3 : xs.length ≤ 300
      · have d3 : decide ((xs.length : Int) ≤ 300) = true := by simp; omega
        go_wp2_with fail
        refine (l01In_any _ _ _ _).mono ?_
        rintro e w1 ⟨rfl, rfl⟩
        have hiff : decide (1 ≤ next ∧ next ≤ 1000000000) = true ↔ StoreP xs next := by
          simp only [decide_eq_true_eq]
          exact ⟨fun ⟨a, b⟩ => ⟨a, b, n3, by have := Hp.out; rwa [nxw_eq a b] at this⟩, fun h => ⟨h.1, h.2.1⟩⟩
        have Hi := Lib.hid hiff; clear hiff
        generalize decide (1 ≤ next ∧ next ≤ 1000000000) = bb at *
        go_wp2
        go_ret
        exact ⟨bb, Hi.out, rfl, hb⟩
      · have d3 : decide ((xs.length : Int) ≤ 300) = false := by simp; omega
        have hn : ¬ StoreP xs next := fun h => n3 h.2.2.1
        have Hn := Lib.hid hn; clear hn
        go_wp2
        go_ret
        exact ⟨false, by simp [Hn.out], rfl, hb⟩

end Go.Proofs.YtkpaocejpjhkpaaGreatDoor
