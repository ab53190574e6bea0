/-
  Contracts of the laws' helpers that mark a list of samples and look whether the marks are held. No conditions beside lengths.
-/
import Derived.Test.YtpfanmcjlfdaiaaSams
import Derived.Test.YtpfanmcjlfdaiaaSetAgg
import Derived.Deep.RegionHeld3
namespace Go.Proofs.Ytpfanmcjlfdaiaa
open Go.ChangeShapes Go.WideShapes Go.ChangeAt Go.RowKit
set_option linter.unusedVariables false
set_option linter.unusedSimpArgs false

def pmarks (k : Int) (n : Nat) : List GSam := (List.range n).map fun i : Nat => ⟨k + 2 * (i : Int), k + 2 * (i : Int) + 1⟩

theorem length_pmarks (k : Int) (n : Nat) : (pmarks k n).length = n := by simp [pmarks]

theorem pmarks_succ (k : Int) (n : Nat) : pmarks k (n + 1) = pmarks k n ++ [⟨k + 2 * (n : Int), k + 2 * (n : Int) + 1⟩] := by simp [pmarks, List.range_succ]

theorem pmarks_at (k : Int) (n i : Nat) (h : i < (pmarks k n).length) : (pmarks k n)[i] = ⟨k + 2 * (i : Int), k + 2 * (i : Int) + 1⟩ := by simp [pmarks]

set_option maxRecDepth 100000 in
theorem markSampleS_any (A : Option Addr) (c : Nat) (k : Int) (xs : List GSam) (B : Nat) (w : World) (h : SamsAt w B A xs) (hf : Free w A) (hB : B ≤ w.heap.size) (hl : xs.length ≤ 16777216) (hk0 : 0 ≤ k) (hk : k ≤ 16777216) :
    Calls Try.prog 21 #[.slice A xs.length c, .int .i64 k] w fun e w' => e = .returned (.int .i64 (k + 2 * xs.length)) ∧ SamsAt w' B A (pmarks k xs.length) ∧ w.grownBy w' (blk A) ∧ Free w' A := by
  have H := Lib.hid h; clear h
  have Hf := Lib.hid hf; clear hf
  go_enter Try.func21, Try.ntmps21
  go_wp2_with fail
  go_loopw [1, 5] (fun t i wr => ∃ (j : Nat) (m : Int), m = k + 2 * j ∧ j ≤ xs.length ∧ i = .int .i64 j ∧ t = .int .i64 m ∧ Hid (SamsAt wr B A (pmarks k j ++ xs.drop j)) ∧ w.grownBy wr (blk A) ∧ Hid (Free wr A)) (fun _ i _ => xs.length - (intOf i).toNat)
  case atStart => exact ⟨0, k, by simp, by omega, rfl, rfl, Lib.hid (by simpa [pmarks] using H.out), World.grownBy.refl _ _, Hf⟩
  case round =>
    obtain ⟨j, m, hm, hj, rfl, rfl, Hr, hg, Hfr⟩ := hrel
    by_cases hlt : j < xs.length
    · have hjl : j < (pmarks k j ++ xs.drop j).length := by simp [length_pmarks]; omega
      obtain ⟨b, off, rfl, hb, hcl⟩ := Sl.at_ Hr.out hjl
      obtain ⟨v0, q0⟩ : ∃ v, wr.cell? ⟨b, off + j * 2, none⟩ = some v := ⟨_, hcl 0 _ rfl⟩
      obtain ⟨v1, q1⟩ : ∃ v, wr.cell? ⟨b, off + j * 2 + 1, none⟩ = some v := ⟨_, hcl 1 _ rfl⟩
      clear hcl
      have f0 := Hfr.out b rfl (off + j * 2)
      have f1 := Hfr.out b rfl (off + j * 2 + 1)
      have hbs : b < wr.heap.size := by have := hg.size; omega
      have HM := Lib.hid hm
      have hm0 : 0 ≤ m ∧ m ≤ 100000000 := by omega
      have hn : SamsAt ((wr.setCell ⟨b, off + j * 2, none⟩ (.int .i64 m)).setCell ⟨b, off + j * 2 + 1, none⟩ (.int .i64 (m + 1))) B (some ⟨b, off, none⟩) (pmarks k (j + 1) ++ xs.drop (j + 1)) := by
        rw [pmarks_succ, ← set_mid (pmarks k j) xs j ⟨k + 2 * (j : Int), k + 2 * (j : Int) + 1⟩ (length_pmarks k j) hlt]
        refine Sl.set Hr.out (fun x => rfl) hjl _ ?_ ?_
        · intro i v hv
          match i, hv with
          | 0, hv =>
            simp [GSam.vals] at hv; subst hv
            show ((wr.setCell ⟨b, off + j * 2, none⟩ (.int .i64 m)).setCell ⟨b, off + j * 2 + 1, none⟩ (.int .i64 (m + 1))).cell? ⟨b, off + j * 2, none⟩ = _
            rw [cset_ne _ _ _ _ _ (by omega), cset_eq _ _ _ _ q0, hm]
          | 1, hv =>
            simp [GSam.vals] at hv; subst hv
            rw [cset_eq _ _ _ _ (by rw [cset_ne _ _ _ _ _ (by omega)]; exact q1), hm]
          | i + 2, hv => simp [GSam.vals] at hv
        · intro i hi
          rw [cset_ne _ _ _ _ _ (by omega), cset_ne _ _ _ _ _ (by omega)]
      have Hn := Lib.hid hn; clear hn
      have Hg3 := Lib.hid (grown_setCell (grown_setCell hg ⟨b, off + j * 2, none⟩ (.inl rfl) (.int .i64 m)) ⟨b, off + j * 2 + 1, none⟩ (.inl rfl) (.int .i64 (m + 1)))
      have Hf3 := Lib.hid (Free.setCell (Free.setCell Hfr.out ⟨b, off + j * 2, none⟩ (.int .i64 m)) ⟨b, off + j * 2 + 1, none⟩ (.int .i64 (m + 1)))
      clear hm
      go_wp2
      go_roundw
      case rel => exact ⟨j + 1, m + 1 + 1, by have := HM.out; omega, by omega, by go_num, by go_num, Hn, Hg3.out, Hf3⟩
      case measure => simp [intOf]; omega
    · obtain rfl : j = xs.length := by omega
      have hn : SamsAt wr B A (pmarks k xs.length) := by simpa using Hr.out
      have Hn := Lib.hid hn; clear hn
      have HM := Lib.hid hm; clear hm
      go_wp2
      go_ret
      exact ⟨by rw [← HM.out]; rfl, Hn.out, hg, Hfr.out⟩

set_option maxRecDepth 100000 in
theorem heldSampleS_any (A : Option Addr) (c n : Nat) (k : Int) (B : Nat) (w : World) (h : SamsAt w B A (pmarks k n)) (hB : B ≤ w.heap.size) (hl : n ≤ 16777216) (hk0 : 0 ≤ k) (hk : k ≤ 16777216) :
    Calls Try.prog 26 #[.slice A n c, .int .i64 k] w fun e w' => e = .returned (.int .i64 (k + 2 * n)) ∧ Below w.heap.size w w' := by
  have H := Lib.hid h; clear h
  go_enter Try.func26, Try.ntmps26
  go_wp2_with fail
  go_loopw [1, 5] (fun t i wr => ∃ (j : Nat) (m : Int), m = k + 2 * j ∧ j ≤ n ∧ i = .int .i64 j ∧ t = .int .i64 m ∧ Below w.heap.size w wr) (fun _ i _ => n - (intOf i).toNat)
  case atStart => exact ⟨0, k, by simp, by omega, rfl, rfl, Below.refl _ _⟩
  case round =>
    obtain ⟨j, m, hm, hj, rfl, rfl, hb⟩ := hrel
    by_cases hlt : j < n
    · have hjl : j < (pmarks k n).length := by rw [length_pmarks]; exact hlt
      obtain ⟨b, off, rfl, hbB, hcl⟩ := Sl.at_ (Sl.below H.out hb hB) hjl
      rw [pmarks_at] at hcl
      have p0 : wr.cell? ⟨b, off + j * 2, none⟩ = some (.int .i64 m) := by rw [hm]; exact hcl 0 _ rfl
      have p1 : wr.cell? ⟨b, off + j * 2 + 1, none⟩ = some (.int .i64 (m + 1)) := by rw [hm]; exact hcl 1 _ rfl
      have HM := Lib.hid hm
      have hm0 : 0 ≤ m ∧ m ≤ 100000000 := by omega
      clear hm hcl
      go_wp2
      go_roundw
      case rel => exact ⟨j + 1, m + 1 + 1, by have := HM.out; omega, by omega, by go_num, by go_num, hb⟩
      case measure => simp [intOf]; omega
    · obtain rfl : j = n := by omega
      have HM := Lib.hid hm; clear hm
      go_wp2
      go_ret
      exact ⟨by rw [← HM.out]; rfl, hb⟩

end Go.Proofs.Ytpfanmcjlfdaiaa
