/-
  Contracts of merge, MergeAgg and their models: aggregates put together in order. Conditions: those that are handed to merge are right.
-/
import Derived.Test.YtpackpocnonpiaaGreatDoorMerge
import Derived.Test.YtpackpocnonpiaaGreatDoorSetAgg
namespace Go.Proofs.YtpackpocnonpiaaGreatDoor
open Go.ChangeShapes Go.WideShapes Go.ChangeAt Go.RowKit
set_option linter.unusedVariables false

theorem l02Merge_any (a b : GAgg) (ha : a.small) (hb : b.small) (w : World) : Calls Tryz.prog 147 #[.agg #[.int .i64 a.cnt, .int .i64 a.sum, .int .i64 a.mn, .int .i64 a.mx, .int .i64 a.fst, .int .i64 a.lst], .agg #[.int .i64 b.cnt, .int .i64 b.sum, .int .i64 b.mn, .int .i64 b.mx, .int .i64 b.fst, .int .i64 b.lst]] w fun e w' => e = .returned (gMerge a b).val ∧ Below w.heap.size w w' := by
  obtain ⟨a1, a2, a3, a4⟩ := ha
  obtain ⟨b1, b2, b3, b4⟩ := hb
  by_cases h0 : a.cnt = 0
  · have d0 : (a.cnt == 0) = true := by simpa using h0
    have e : gMerge a b = b := by simp [gMerge, h0]
    have E := Lib.hid e; clear e h0 a1 a2 a3 a4 b1 b2 b3 b4
    go_enter Tryz.func147, Tryz.ntmps147
    go_wp2
    refine bodyPost_ret (v := b.val) (by simp [results, Tryz.results147, go_sem, GAgg.val]) rfl ⟨by rw [E.out], ?_⟩
    exact bal (bal (bal (Below.refl _ _) _) _) _
  · have d0 : (a.cnt == 0) = false := by simpa using h0
    by_cases k0 : b.cnt = 0
    · have d1 : (b.cnt == 0) = true := by simpa using k0
      have e : gMerge a b = a := by simp [gMerge, h0, k0]
      have E := Lib.hid e; clear e h0 k0 a1 a2 a3 a4 b1 b2 b3 b4
      go_enter Tryz.func147, Tryz.ntmps147
      go_wp2
      refine bodyPost_ret (v := a.val) (by simp [results, Tryz.results147, go_sem, GAgg.val]) rfl ⟨by rw [E.out], ?_⟩
      exact bal (bal (bal (Below.refl _ _) _) _) _
    · have d1 : (b.cnt == 0) = false := by simpa using k0
      have e : gMerge a b = ⟨a.cnt + b.cnt, a.sum + b.sum, min a.mn b.mn, max a.mx b.mx, a.fst, b.lst⟩ := by simp [gMerge, h0, k0]
      have E := Lib.hid e; clear e
      have w1 : wrap64 (a.cnt + b.cnt) = a.cnt + b.cnt := by unfold wrap64; omega
      have w2 : wrap64 (a.sum + b.sum) = a.sum + b.sum := by unfold wrap64; omega
      clear h0 k0 a1 a2 a3 a4 b1 b2 b3 b4
      go_enter Tryz.func147, Tryz.ntmps147
      go_wp2
      all_goals (
        first | (have m1 : min a.mn b.mn = b.mn := by omega) | (have m1 : min a.mn b.mn = a.mn := by omega)
        first | (have m2 : max a.mx b.mx = b.mx := by omega) | (have m2 : max a.mx b.mx = a.mx := by omega)
        refine bodyPost_ret (v := .agg #[.int .i64 (a.cnt + b.cnt), .int .i64 (a.sum + b.sum), .int .i64 (min a.mn b.mn), .int .i64 (max a.mx b.mx), .int .i64 a.fst, .int .i64 b.lst]) (by rw [m1, m2]; simp [results, Tryz.results147, go_sem, *]) rfl ⟨by rw [E.out]; rfl, ?_⟩
        exact bal (bal (bal (Below.refl _ _) _) _) _)

/-- all together, one after the other; too many are told -/
def mergeAll : GAgg → List GAgg → GAgg × Int
  | acc, [] => (acc, 0)
  | acc, x :: xs => if 100000 < (gMerge acc x).cnt then (zAgg, 6) else mergeAll (gMerge acc x) xs

theorem AggP.tiny {a : GAgg} (h : AggP a) : a.small := by
  have := h.small
  unfold GAgg.small
  omega

theorem mul_le_min {c m n : Int} (hc : 1 ≤ c) : c * min m n ≤ c * m ∧ c * min m n ≤ c * n := ⟨Int.mul_le_mul_of_nonneg_left (by omega) (by omega), Int.mul_le_mul_of_nonneg_left (by omega) (by omega)⟩

theorem mul_le_max {c m n : Int} (hc : 1 ≤ c) : c * m ≤ c * max m n ∧ c * n ≤ c * max m n := ⟨Int.mul_le_mul_of_nonneg_left (by omega) (by omega), Int.mul_le_mul_of_nonneg_left (by omega) (by omega)⟩

theorem AggP.merge {a b : GAgg} (ha : AggP a) (hb : AggP b) (hc : (gMerge a b).cnt ≤ 100000) : AggP (gMerge a b) := by
  by_cases h0 : a.cnt = 0
  · have e : gMerge a b = b := by simp [gMerge, h0]
    rw [e]; exact hb
  by_cases k0 : b.cnt = 0
  · have e : gMerge a b = a := by simp [gMerge, h0, k0]
    rw [e]; exact ha
  have e : gMerge a b = ⟨a.cnt + b.cnt, a.sum + b.sum, min a.mn b.mn, max a.mx b.mx, a.fst, b.lst⟩ := by simp [gMerge, h0, k0]
  rw [e] at hc ⊢
  rcases ha with ha | ⟨a1, a2, a3, a4, a5, a6, a7, a8, a9, a10, a11, a12⟩
  · rw [ha] at h0; exact absurd rfl h0
  rcases hb with hb | ⟨b1, b2, b3, b4, b5, b6, b7, b8, b9, b10, b11, b12⟩
  · rw [hb] at k0; exact absurd rfl k0
  dsimp only at hc
  have l1 := (mul_le_min (c := a.cnt) (m := a.mn) (n := b.mn) a1).1
  have l2 := (mul_le_min (c := b.cnt) (m := a.mn) (n := b.mn) b1).2
  have l3 := (mul_le_max (c := a.cnt) (m := a.mx) (n := b.mx) a1).1
  have l4 := (mul_le_max (c := b.cnt) (m := a.mx) (n := b.mx) b1).2
  refine Or.inr ⟨by show 1 ≤ a.cnt + b.cnt; omega, hc, by show _ ≤ min a.mn b.mn; omega, by show min a.mn b.mn ≤ _; omega, by show _ ≤ max a.mx b.mx; omega, by show max a.mx b.mx ≤ _; omega, by show min a.mn b.mn ≤ a.fst; omega, by show a.fst ≤ max a.mx b.mx; omega, by show min a.mn b.mn ≤ b.lst; omega, by show b.lst ≤ max a.mx b.mx; omega, ?_, ?_⟩
  · show (a.cnt + b.cnt) * min a.mn b.mn ≤ a.sum + b.sum
    rw [Int.add_mul]; omega
  · show a.sum + b.sum ≤ (a.cnt + b.cnt) * max a.mx b.mx
    rw [Int.add_mul]; omega

/-- a slice of aggregates -/
def AggsAt (w : World) (B : Nat) (A : Option Addr) (xs : List GAgg) : Prop := Sl GAgg.vals 6 w B A xs

theorem AggsAt.agg {w : World} {B : Nat} {A : Option Addr} {xs : List GAgg} (h : AggsAt w B A xs) {k : Nat} (hk : k < xs.length) :
    ∃ b off, A = some ⟨b, off, none⟩ ∧ b < B ∧ w.cell? ⟨b, off + k * 6, none⟩ = some (.int .i64 xs[k].cnt) ∧ w.cell? ⟨b, off + k * 6 + 1, none⟩ = some (.int .i64 xs[k].sum) ∧ w.cell? ⟨b, off + k * 6 + 2, none⟩ = some (.int .i64 xs[k].mn) ∧ w.cell? ⟨b, off + k * 6 + 3, none⟩ = some (.int .i64 xs[k].mx) ∧ w.cell? ⟨b, off + k * 6 + 4, none⟩ = some (.int .i64 xs[k].fst) ∧ w.cell? ⟨b, off + k * 6 + 5, none⟩ = some (.int .i64 xs[k].lst) := by
  obtain ⟨b, off, e, hb, hc⟩ := Sl.at_ h hk
  exact ⟨b, off, e, hb, hc 0 _ rfl, hc 1 _ rfl, hc 2 _ rfl, hc 3 _ rfl, hc 4 _ rfl, hc 5 _ rfl⟩

end Go.Proofs.YtpackpocnonpiaaGreatDoor
