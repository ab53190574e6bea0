/-
  Contracts of the laws' helpers that mark a list of buckets and look whether the marks are held. No conditions beside lengths.
-/
import Derived.Test.YtkpaocejpjhkpaaBkts
import Derived.Test.YtkpaocejpjhkpaaSetAgg
import Derived.Deep.RegionHeld3
namespace Go.Proofs.Ytkpaocejpjhkpaa
open Go.ChangeShapes Go.WideShapes Go.ChangeAt Go.RowKit
set_option linter.unusedVariables false
set_option linter.unusedSimpArgs false

def bmark (m : Int) : GBkt := ⟨m, ⟨m + 1, m + 1 + 1, m + 1 + 1 + 1, m + 1 + 1 + 1 + 1, m + 1 + 1 + 1 + 1 + 1, m + 1 + 1 + 1 + 1 + 1 + 1⟩⟩

def bmarks (k : Int) (n : Nat) : List GBkt := (List.range n).map fun i : Nat => bmark (k + 7 * (i : Int))

theorem length_bmarks (k : Int) (n : Nat) : (bmarks k n).length = n := by simp [bmarks]

theorem bmarks_succ (k : Int) (n : Nat) : bmarks k (n + 1) = bmarks k n ++ [bmark (k + 7 * (n : Int))] := by simp [bmarks, List.range_succ]

theorem bmarks_at (k : Int) (n i : Nat) (h : i < (bmarks k n).length) : (bmarks k n)[i] = bmark (k + 7 * (i : Int)) := by simp [bmarks]

set_option maxRecDepth 100000 in
theorem markBucketS_any (A : Option Addr) (c : Nat) (k : Int) (xs : List GBkt) (B : Nat) (w : World) (h : BktsAt w B A xs) (hf : Free w A) (hB : B ≤ w.heap.size) (hl : xs.length ≤ 1048576) (hk0 : 0 ≤ k) (hk : k ≤ 16777216) :
    Calls Try.prog 17 #[.slice A xs.length c, .int .i64 k] w fun e w' => e = .returned (.int .i64 (k + 7 * xs.length)) ∧ BktsAt w' B A (bmarks k xs.length) ∧ w.grownBy w' (blk A) ∧ Free w' A := by
  have H := Lib.hid h; clear h
  have Hf := Lib.hid hf; clear hf
  go_enter Try.func17, Try.ntmps17
  go_wp2_with fail
  go_loopw [1, 5] (fun t i wr => ∃ (j : Nat) (m : Int), m = k + 7 * j ∧ j ≤ xs.length ∧ i = .int .i64 j ∧ t = .int .i64 m ∧ Hid (BktsAt wr B A (bmarks k j ++ xs.drop j)) ∧ w.grownBy wr (blk A) ∧ Hid (Free wr A)) (fun _ i _ => xs.length - (intOf i).toNat)
  case atStart => exact ⟨0, k, by simp, by omega, rfl, rfl, Lib.hid (by simpa [bmarks] using H.out), World.grownBy.refl _ _, Hf⟩
  case round =>
    obtain ⟨j, m, hm, hj, rfl, rfl, Hr, hg, Hfr⟩ := hrel
    by_cases hlt : j < xs.length
    · have hjl : j < (bmarks k j ++ xs.drop j).length := by simp [length_bmarks]; omega
      obtain ⟨b, off, rfl, hb, hcl⟩ := Sl.at_ Hr.out hjl
      obtain ⟨v0, q0⟩ : ∃ v, wr.cell? ⟨b, off + j * 7, none⟩ = some v := ⟨_, hcl 0 _ rfl⟩
      obtain ⟨v1, q1⟩ : ∃ v, wr.cell? ⟨b, off + j * 7 + 1, none⟩ = some v := ⟨_, hcl 1 _ rfl⟩
      obtain ⟨v2, q2⟩ : ∃ v, wr.cell? ⟨b, off + j * 7 + 2, none⟩ = some v := ⟨_, hcl 2 _ rfl⟩
      obtain ⟨v3, q3⟩ : ∃ v, wr.cell? ⟨b, off + j * 7 + 3, none⟩ = some v := ⟨_, hcl 3 _ rfl⟩
      obtain ⟨v4, q4⟩ : ∃ v, wr.cell? ⟨b, off + j * 7 + 4, none⟩ = some v := ⟨_, hcl 4 _ rfl⟩
      obtain ⟨v5, q5⟩ : ∃ v, wr.cell? ⟨b, off + j * 7 + 5, none⟩ = some v := ⟨_, hcl 5 _ rfl⟩
      obtain ⟨v6, q6⟩ : ∃ v, wr.cell? ⟨b, off + j * 7 + 6, none⟩ = some v := ⟨_, hcl 6 _ rfl⟩
      clear hcl
      have f0 := Hfr.out b rfl (off + j * 7)
      have f1 := Hfr.out b rfl (off + j * 7 + 1)
      have f2 := Hfr.out b rfl (off + j * 7 + 2)
      have f3 := Hfr.out b rfl (off + j * 7 + 3)
      have f4 := Hfr.out b rfl (off + j * 7 + 4)
      have f5 := Hfr.out b rfl (off + j * 7 + 5)
      have f6 := Hfr.out b rfl (off + j * 7 + 6)
      have hbs : b < wr.heap.size := by have := hg.size; omega
      have HM := Lib.hid hm
      have hm0 : 0 ≤ m ∧ m ≤ 100000000 := by omega
      have hn : BktsAt (((((((wr.setCell ⟨b, off + j * 7, none⟩ (.int .i64 (m))).setCell ⟨b, off + j * 7 + 1, none⟩ (.int .i64 (m + 1))).setCell ⟨b, off + j * 7 + 2, none⟩ (.int .i64 (m + 1 + 1))).setCell ⟨b, off + j * 7 + 3, none⟩ (.int .i64 (m + 1 + 1 + 1))).setCell ⟨b, off + j * 7 + 4, none⟩ (.int .i64 (m + 1 + 1 + 1 + 1))).setCell ⟨b, off + j * 7 + 5, none⟩ (.int .i64 (m + 1 + 1 + 1 + 1 + 1))).setCell ⟨b, off + j * 7 + 6, none⟩ (.int .i64 (m + 1 + 1 + 1 + 1 + 1 + 1))) B (some ⟨b, off, none⟩) (bmarks k (j + 1) ++ xs.drop (j + 1)) := by
        rw [bmarks_succ, ← set_mid (bmarks k j) xs j (bmark (k + 7 * (j : Int))) (length_bmarks k j) hlt]
        refine Sl.set Hr.out (fun x => rfl) hjl _ ?_ ?_
        · intro i v hv
          match i, hv with
          | 0, hv =>
            simp [GBkt.vals, bmark] at hv; subst hv
            show (((((((wr.setCell ⟨b, off + j * 7, none⟩ (.int .i64 (m))).setCell ⟨b, off + j * 7 + 1, none⟩ (.int .i64 (m + 1))).setCell ⟨b, off + j * 7 + 2, none⟩ (.int .i64 (m + 1 + 1))).setCell ⟨b, off + j * 7 + 3, none⟩ (.int .i64 (m + 1 + 1 + 1))).setCell ⟨b, off + j * 7 + 4, none⟩ (.int .i64 (m + 1 + 1 + 1 + 1))).setCell ⟨b, off + j * 7 + 5, none⟩ (.int .i64 (m + 1 + 1 + 1 + 1 + 1))).setCell ⟨b, off + j * 7 + 6, none⟩ (.int .i64 (m + 1 + 1 + 1 + 1 + 1 + 1))).cell? ⟨b, off + j * 7, none⟩ = _
            rw [cset_ne _ _ _ _ _ (by omega), cset_ne _ _ _ _ _ (by omega), cset_ne _ _ _ _ _ (by omega), cset_ne _ _ _ _ _ (by omega), cset_ne _ _ _ _ _ (by omega), cset_ne _ _ _ _ _ (by omega), cset_eq _ _ _ _ q0, hm]
          | 1, hv =>
            simp [GBkt.vals, bmark] at hv; subst hv
            show (((((((wr.setCell ⟨b, off + j * 7, none⟩ (.int .i64 (m))).setCell ⟨b, off + j * 7 + 1, none⟩ (.int .i64 (m + 1))).setCell ⟨b, off + j * 7 + 2, none⟩ (.int .i64 (m + 1 + 1))).setCell ⟨b, off + j * 7 + 3, none⟩ (.int .i64 (m + 1 + 1 + 1))).setCell ⟨b, off + j * 7 + 4, none⟩ (.int .i64 (m + 1 + 1 + 1 + 1))).setCell ⟨b, off + j * 7 + 5, none⟩ (.int .i64 (m + 1 + 1 + 1 + 1 + 1))).setCell ⟨b, off + j * 7 + 6, none⟩ (.int .i64 (m + 1 + 1 + 1 + 1 + 1 + 1))).cell? ⟨b, off + j * 7 + 1, none⟩ = _
            rw [cset_ne _ _ _ _ _ (by omega), cset_ne _ _ _ _ _ (by omega), cset_ne _ _ _ _ _ (by omega), cset_ne _ _ _ _ _ (by omega), cset_ne _ _ _ _ _ (by omega), cset_eq _ _ _ _ (by rw [cset_ne _ _ _ _ _ (by omega)]; exact q1), hm]
          | 2, hv =>
            simp [GBkt.vals, bmark] at hv; subst hv
            show (((((((wr.setCell ⟨b, off + j * 7, none⟩ (.int .i64 (m))).setCell ⟨b, off + j * 7 + 1, none⟩ (.int .i64 (m + 1))).setCell ⟨b, off + j * 7 + 2, none⟩ (.int .i64 (m + 1 + 1))).setCell ⟨b, off + j * 7 + 3, none⟩ (.int .i64 (m + 1 + 1 + 1))).setCell ⟨b, off + j * 7 + 4, none⟩ (.int .i64 (m + 1 + 1 + 1 + 1))).setCell ⟨b, off + j * 7 + 5, none⟩ (.int .i64 (m + 1 + 1 + 1 + 1 + 1))).setCell ⟨b, off + j * 7 + 6, none⟩ (.int .i64 (m + 1 + 1 + 1 + 1 + 1 + 1))).cell? ⟨b, off + j * 7 + 2, none⟩ = _
            rw [cset_ne _ _ _ _ _ (by omega), cset_ne _ _ _ _ _ (by omega), cset_ne _ _ _ _ _ (by omega), cset_ne _ _ _ _ _ (by omega), cset_eq _ _ _ _ (by rw [cset_ne _ _ _ _ _ (by omega), cset_ne _ _ _ _ _ (by omega)]; exact q2), hm]
          | 3, hv =>
            simp [GBkt.vals, bmark] at hv; subst hv
            show (((((((wr.setCell ⟨b, off + j * 7, none⟩ (.int .i64 (m))).setCell ⟨b, off + j * 7 + 1, none⟩ (.int .i64 (m + 1))).setCell ⟨b, off + j * 7 + 2, none⟩ (.int .i64 (m + 1 + 1))).setCell ⟨b, off + j * 7 + 3, none⟩ (.int .i64 (m + 1 + 1 + 1))).setCell ⟨b, off + j * 7 + 4, none⟩ (.int .i64 (m + 1 + 1 + 1 + 1))).setCell ⟨b, off + j * 7 + 5, none⟩ (.int .i64 (m + 1 + 1 + 1 + 1 + 1))).setCell ⟨b, off + j * 7 + 6, none⟩ (.int .i64 (m + 1 + 1 + 1 + 1 + 1 + 1))).cell? ⟨b, off + j * 7 + 3, none⟩ = _
            rw [cset_ne _ _ _ _ _ (by omega), cset_ne _ _ _ _ _ (by omega), cset_ne _ _ _ _ _ (by omega), cset_eq _ _ _ _ (by rw [cset_ne _ _ _ _ _ (by omega), cset_ne _ _ _ _ _ (by omega), cset_ne _ _ _ _ _ (by omega)]; exact q3), hm]
          | 4, hv =>
            simp [GBkt.vals, bmark] at hv; subst hv
            show (((((((wr.setCell ⟨b, off + j * 7, none⟩ (.int .i64 (m))).setCell ⟨b, off + j * 7 + 1, none⟩ (.int .i64 (m + 1))).setCell ⟨b, off + j * 7 + 2, none⟩ (.int .i64 (m + 1 + 1))).setCell ⟨b, off + j * 7 + 3, none⟩ (.int .i64 (m + 1 + 1 + 1))).setCell ⟨b, off + j * 7 + 4, none⟩ (.int .i64 (m + 1 + 1 + 1 + 1))).setCell ⟨b, off + j * 7 + 5, none⟩ (.int .i64 (m + 1 + 1 + 1 + 1 + 1))).setCell ⟨b, off + j * 7 + 6, none⟩ (.int .i64 (m + 1 + 1 + 1 + 1 + 1 + 1))).cell? ⟨b, off + j * 7 + 4, none⟩ = _
            rw [cset_ne _ _ _ _ _ (by omega), cset_ne _ _ _ _ _ (by omega), cset_eq _ _ _ _ (by rw [cset_ne _ _ _ _ _ (by omega), cset_ne _ _ _ _ _ (by omega), cset_ne _ _ _ _ _ (by omega), cset_ne _ _ _ _ _ (by omega)]; exact q4), hm]
          | 5, hv =>
            simp [GBkt.vals, bmark] at hv; subst hv
            show (((((((wr.setCell ⟨b, off + j * 7, none⟩ (.int .i64 (m))).setCell ⟨b, off + j * 7 + 1, none⟩ (.int .i64 (m + 1))).setCell ⟨b, off + j * 7 + 2, none⟩ (.int .i64 (m + 1 + 1))).setCell ⟨b, off + j * 7 + 3, none⟩ (.int .i64 (m + 1 + 1 + 1))).setCell ⟨b, off + j * 7 + 4, none⟩ (.int .i64 (m + 1 + 1 + 1 + 1))).setCell ⟨b, off + j * 7 + 5, none⟩ (.int .i64 (m + 1 + 1 + 1 + 1 + 1))).setCell ⟨b, off + j * 7 + 6, none⟩ (.int .i64 (m + 1 + 1 + 1 + 1 + 1 + 1))).cell? ⟨b, off + j * 7 + 5, none⟩ = _
            rw [cset_ne _ _ _ _ _ (by omega), cset_eq _ _ _ _ (by rw [cset_ne _ _ _ _ _ (by omega), cset_ne _ _ _ _ _ (by omega), cset_ne _ _ _ _ _ (by omega), cset_ne _ _ _ _ _ (by omega), cset_ne _ _ _ _ _ (by omega)]; exact q5), hm]
          | 6, hv =>
            simp [GBkt.vals, bmark] at hv; subst hv
            show (((((((wr.setCell ⟨b, off + j * 7, none⟩ (.int .i64 (m))).setCell ⟨b, off + j * 7 + 1, none⟩ (.int .i64 (m + 1))).setCell ⟨b, off + j * 7 + 2, none⟩ (.int .i64 (m + 1 + 1))).setCell ⟨b, off + j * 7 + 3, none⟩ (.int .i64 (m + 1 + 1 + 1))).setCell ⟨b, off + j * 7 + 4, none⟩ (.int .i64 (m + 1 + 1 + 1 + 1))).setCell ⟨b, off + j * 7 + 5, none⟩ (.int .i64 (m + 1 + 1 + 1 + 1 + 1))).setCell ⟨b, off + j * 7 + 6, none⟩ (.int .i64 (m + 1 + 1 + 1 + 1 + 1 + 1))).cell? ⟨b, off + j * 7 + 6, none⟩ = _
            rw [cset_eq _ _ _ _ (by rw [cset_ne _ _ _ _ _ (by omega), cset_ne _ _ _ _ _ (by omega), cset_ne _ _ _ _ _ (by omega), cset_ne _ _ _ _ _ (by omega), cset_ne _ _ _ _ _ (by omega), cset_ne _ _ _ _ _ (by omega)]; exact q6), hm]
          | i + 7, hv => simp [GBkt.vals] at hv
        · intro i hi
          rw [cset_ne _ _ _ _ _ (by omega), cset_ne _ _ _ _ _ (by omega), cset_ne _ _ _ _ _ (by omega), cset_ne _ _ _ _ _ (by omega), cset_ne _ _ _ _ _ (by omega), cset_ne _ _ _ _ _ (by omega), cset_ne _ _ _ _ _ (by omega)]
      have Hn := Lib.hid hn; clear hn
      have Hg3 := Lib.hid (grown_setCell (grown_setCell (grown_setCell (grown_setCell (grown_setCell (grown_setCell (grown_setCell hg ⟨b, off + j * 7, none⟩ (.inl rfl) (.int .i64 (m))) ⟨b, off + j * 7 + 1, none⟩ (.inl rfl) (.int .i64 (m + 1))) ⟨b, off + j * 7 + 2, none⟩ (.inl rfl) (.int .i64 (m + 1 + 1))) ⟨b, off + j * 7 + 3, none⟩ (.inl rfl) (.int .i64 (m + 1 + 1 + 1))) ⟨b, off + j * 7 + 4, none⟩ (.inl rfl) (.int .i64 (m + 1 + 1 + 1 + 1))) ⟨b, off + j * 7 + 5, none⟩ (.inl rfl) (.int .i64 (m + 1 + 1 + 1 + 1 + 1))) ⟨b, off + j * 7 + 6, none⟩ (.inl rfl) (.int .i64 (m + 1 + 1 + 1 + 1 + 1 + 1)))
      have Hf3 := Lib.hid (Free.setCell (Free.setCell (Free.setCell (Free.setCell (Free.setCell (Free.setCell (Free.setCell Hfr.out ⟨b, off + j * 7, none⟩ (.int .i64 (m))) ⟨b, off + j * 7 + 1, none⟩ (.int .i64 (m + 1))) ⟨b, off + j * 7 + 2, none⟩ (.int .i64 (m + 1 + 1))) ⟨b, off + j * 7 + 3, none⟩ (.int .i64 (m + 1 + 1 + 1))) ⟨b, off + j * 7 + 4, none⟩ (.int .i64 (m + 1 + 1 + 1 + 1))) ⟨b, off + j * 7 + 5, none⟩ (.int .i64 (m + 1 + 1 + 1 + 1 + 1))) ⟨b, off + j * 7 + 6, none⟩ (.int .i64 (m + 1 + 1 + 1 + 1 + 1 + 1)))
      clear hm
      go_wp2
      go_roundw
      case rel => exact ⟨j + 1, m + 1 + 1 + 1 + 1 + 1 + 1 + 1, by have := HM.out; omega, by omega, by go_num, by go_num, Hn, Hg3.out, Hf3⟩
      case measure => simp [intOf]; omega
    · obtain rfl : j = xs.length := by omega
      have hn : BktsAt wr B A (bmarks k xs.length) := by simpa using Hr.out
      have Hn := Lib.hid hn; clear hn
      have HM := Lib.hid hm; clear hm
      go_wp2
      go_ret
      exact ⟨by rw [← HM.out]; rfl, Hn.out, hg, Hfr.out⟩

set_option maxRecDepth 100000 in
theorem heldBucketS_any (A : Option Addr) (c n : Nat) (k : Int) (B : Nat) (w : World) (h : BktsAt w B A (bmarks k n)) (hB : B ≤ w.heap.size) (hl : n ≤ 1048576) (hk0 : 0 ≤ k) (hk : k ≤ 16777216) :
    Calls Try.prog 18 #[.slice A n c, .int .i64 k] w fun e w' => e = .returned (.int .i64 (k + 7 * n)) ∧ Below w.heap.size w w' := by
  have H := Lib.hid h; clear h
  go_enter Try.func18, Try.ntmps18
  go_wp2_with fail
  go_loopw [1, 5] (fun t i wr => ∃ (j : Nat) (m : Int), m = k + 7 * j ∧ j ≤ n ∧ i = .int .i64 j ∧ t = .int .i64 m ∧ Below w.heap.size w wr) (fun _ i _ => n - (intOf i).toNat)
  case atStart => exact ⟨0, k, by simp, by omega, rfl, rfl, Below.refl _ _⟩
  case round =>
    obtain ⟨j, m, hm, hj, rfl, rfl, hb⟩ := hrel
    by_cases hlt : j < n
    · have hjl : j < (bmarks k n).length := by rw [length_bmarks]; exact hlt
      obtain ⟨b, off, rfl, hbB, hcl⟩ := Sl.at_ (Sl.below H.out hb hB) hjl
      rw [bmarks_at] at hcl
      have p0 : wr.cell? ⟨b, off + j * 7, none⟩ = some (.int .i64 (m)) := by rw [hm]; exact hcl 0 _ rfl
      have p1 : wr.cell? ⟨b, off + j * 7 + 1, none⟩ = some (.int .i64 (m + 1)) := by rw [hm]; exact hcl 1 _ rfl
      have p2 : wr.cell? ⟨b, off + j * 7 + 2, none⟩ = some (.int .i64 (m + 1 + 1)) := by rw [hm]; exact hcl 2 _ rfl
      have p3 : wr.cell? ⟨b, off + j * 7 + 3, none⟩ = some (.int .i64 (m + 1 + 1 + 1)) := by rw [hm]; exact hcl 3 _ rfl
      have p4 : wr.cell? ⟨b, off + j * 7 + 4, none⟩ = some (.int .i64 (m + 1 + 1 + 1 + 1)) := by rw [hm]; exact hcl 4 _ rfl
      have p5 : wr.cell? ⟨b, off + j * 7 + 5, none⟩ = some (.int .i64 (m + 1 + 1 + 1 + 1 + 1)) := by rw [hm]; exact hcl 5 _ rfl
      have p6 : wr.cell? ⟨b, off + j * 7 + 6, none⟩ = some (.int .i64 (m + 1 + 1 + 1 + 1 + 1 + 1)) := by rw [hm]; exact hcl 6 _ rfl
      have HM := Lib.hid hm
      have hm0 : 0 ≤ m ∧ m ≤ 100000000 := by omega
      clear hm hcl
      go_wp2
      go_roundw
      case rel => exact ⟨j + 1, m + 1 + 1 + 1 + 1 + 1 + 1 + 1, by have := HM.out; omega, by omega, by go_num, by go_num, hb⟩
      case measure => simp [intOf]; omega
    · obtain rfl : j = n := by omega
      have HM := Lib.hid hm; clear hm
      go_wp2
      go_ret
      exact ⟨by rw [← HM.out]; rfl, hb⟩

end Go.Proofs.Ytkpaocejpjhkpaa
