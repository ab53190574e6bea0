/-
  Contracts of impl.ruleOf: the rule of a kind, its three functions. No conditions.
-/
import Derived.Test.YtpfanmcjlfdaiaaGreatDoorRN9
namespace Go.Proofs.YtpfanmcjlfdaiaaGreatDoorR
open Go.ChangeShapes Go.WideShapes Go.ChangeAt Go.RowKit Go.Deep Go.Joins
set_option linter.unusedVariables false
set_option linter.unusedSimpArgs false

/-- the functions of a kind's rule -/
def ruleV (n : Int) : Value := if n = 1 then .agg #[.func (.func 93) #[] #[], .func (.func 94) #[] #[], .func (.func 95) #[] #[]] else if n = 2 then .agg #[.func (.func 96) #[] #[], .func (.func 97) #[] #[], .func (.func 98) #[] #[]] else if n = 3 then .agg #[.func (.func 99) #[] #[], .func (.func 100) #[] #[], .func (.func 95) #[] #[]] else if n = 4 then .agg #[.func (.func 101) #[] #[], .func (.func 102) #[] #[], .func (.func 103) #[] #[]] else .agg #[.func (.func 104) #[] #[], .func (.func 105) #[] #[], .func (.func 106) #[] #[]]

set_option maxRecDepth 100000 in
set_option maxHeartbeats 4000000 in
theorem ruleOf_in (n : Int) (hn : 1 ≤ n ∧ n ≤ 5) (w : World) : Calls Tryz.prog 66 #[.int .i64 n] w fun e w' => e = .returned (.tuple #[ruleV n, .bool true]) ∧ Below w.heap.size w w' := by
  have d : inB n 1 5 = true := inB_iff.2 hn
  go_enter Tryz.func66, Tryz.ntmps66
  go_wp2_with fail
  obtain ⟨W, hW⟩ : ∃ W, W = (w.alloc (.cells #[.nilFunc, .nilFunc, .nilFunc] 116)).alloc (.cells #[.nilFunc, .nilFunc, .nilFunc, .func (.func 93) #[] #[], .func (.func 94) #[] #[], .func (.func 95) #[] #[], .func (.func 96) #[] #[], .func (.func 97) #[] #[], .func (.func 98) #[] #[], .func (.func 99) #[] #[], .func (.func 100) #[] #[], .func (.func 95) #[] #[], .func (.func 101) #[] #[], .func (.func 102) #[] #[], .func (.func 103) #[] #[], .func (.func 104) #[] #[], .func (.func 105) #[] #[], .func (.func 106) #[] #[]] 145) := ⟨_, rfl⟩
  have CC : Hid (Cells W (w.heap.size + 1) 0 [.nilFunc, .nilFunc, .nilFunc, .func (.func 93) #[] #[], .func (.func 94) #[] #[], .func (.func 95) #[] #[], .func (.func 96) #[] #[], .func (.func 97) #[] #[], .func (.func 98) #[] #[], .func (.func 99) #[] #[], .func (.func 100) #[] #[], .func (.func 95) #[] #[], .func (.func 101) #[] #[], .func (.func 102) #[] #[], .func (.func 103) #[] #[], .func (.func 104) #[] #[], .func (.func 105) #[] #[], .func (.func 106) #[] #[]]) := Lib.hid (by
    rw [hW]
    have := Cells.new (w.alloc (.cells #[.nilFunc, .nilFunc, .nilFunc] 116)) [.nilFunc, .nilFunc, .nilFunc, .func (.func 93) #[] #[], .func (.func 94) #[] #[], .func (.func 95) #[] #[], .func (.func 96) #[] #[], .func (.func 97) #[] #[], .func (.func 98) #[] #[], .func (.func 99) #[] #[], .func (.func 100) #[] #[], .func (.func 95) #[] #[], .func (.func 101) #[] #[], .func (.func 102) #[] #[], .func (.func 103) #[] #[], .func (.func 104) #[] #[], .func (.func 105) #[] #[], .func (.func 106) #[] #[]] 145
    simpa using this)
  have cz : Cells W w.heap.size 0 [.nilFunc, .nilFunc, .nilFunc] := by
    rw [hW]; exact (Cells.new w [.nilFunc, .nilFunc, .nilFunc] 116).below (bal (Below.refl _ _) _) (by simp)
  have fz : ∀ i, W.frozen? ⟨w.heap.size, i, none⟩ = false := fun i => by
    rw [hW]; have := free_alloc w #[.nilFunc, .nilFunc, .nilFunc] 116 0
    exact (Free.below this (bal (Below.refl _ _) _) (fun b e => by simp [blk] at e; subst e; simp)) _ rfl i
  have b0 : Below w.heap.size w W := by rw [hW]; exact bal (bal (Below.refl _ _) _) _
  have s0 : w.heap.size + 1 < W.heap.size := by rw [hW]; simp
  rw [← hW]
  clear hW
  have z0 := cz 0 _ rfl
  have z1 := cz 1 _ rfl
  have z2 := cz 2 _ rfl
  simp only [Nat.zero_add] at z0 z1 z2
  have y0 := fz 0
  have y1 := fz 1
  have y2 := fz 2
  clear cz fz
  generalize Value.agg #[.nilFunc, .nilFunc, .nilFunc, .func (.func 93) #[] #[], .func (.func 94) #[] #[], .func (.func 95) #[] #[], .func (.func 96) #[] #[], .func (.func 97) #[] #[], .func (.func 98) #[] #[], .func (.func 99) #[] #[], .func (.func 100) #[] #[], .func (.func 95) #[] #[], .func (.func 101) #[] #[], .func (.func 102) #[] #[], .func (.func 103) #[] #[], .func (.func 104) #[] #[], .func (.func 105) #[] #[], .func (.func 106) #[] #[]] = U0
  generalize Value.agg #[.func (.func 93) #[] #[], .func (.func 94) #[] #[], .func (.func 95) #[] #[]] = U1
  generalize Value.agg #[.func (.func 96) #[] #[], .func (.func 97) #[] #[], .func (.func 98) #[] #[]] = U2
  generalize Value.agg #[.func (.func 99) #[] #[], .func (.func 100) #[] #[], .func (.func 95) #[] #[]] = U3
  generalize Value.agg #[.func (.func 101) #[] #[], .func (.func 102) #[] #[], .func (.func 103) #[] #[]] = U4
  generalize Value.agg #[.func (.func 104) #[] #[], .func (.func 105) #[] #[], .func (.func 106) #[] #[]] = U5
  refine (within_any n 1 5 _).mono ?_
  rintro e w' ⟨rfl, rfl⟩
  rw [d]
  clear d
  rcases (show n = 1 ∨ n = 2 ∨ n = 3 ∨ n = 4 ∨ n = 5 by omega) with rfl | rfl | rfl | rfl | rfl
  · obtain ⟨q0, q1, q2⟩ : W.cell? ⟨w.heap.size + 1, 3, none⟩ = some (.func (.func 93) #[] #[]) ∧ W.cell? ⟨w.heap.size + 1, 4, none⟩ = some (.func (.func 94) #[] #[]) ∧ W.cell? ⟨w.heap.size + 1, 5, none⟩ = some (.func (.func 95) #[] #[]) := by
      have h0 := CC.out 3 _ rfl
      have h1 := CC.out 4 _ rfl
      have h2 := CC.out 5 _ rfl
      simp only [Nat.zero_add] at h0 h1 h2
      exact ⟨h0, h1, h2⟩
    clear CC
    go_wp2
    refine bodyPost_ret (v := .tuple #[.agg #[.func (.func 93) #[] #[], .func (.func 94) #[] #[], .func (.func 95) #[] #[]], .bool true]) (by simp [results, Tryz.results66, go_sem, *]) rfl ⟨rfl, ?_⟩
    exact ((b0.setCell (Nat.le_refl _) _).setCell (Nat.le_refl _) _).setCell (Nat.le_refl _) _
  · obtain ⟨q0, q1, q2⟩ : W.cell? ⟨w.heap.size + 1, 6, none⟩ = some (.func (.func 96) #[] #[]) ∧ W.cell? ⟨w.heap.size + 1, 7, none⟩ = some (.func (.func 97) #[] #[]) ∧ W.cell? ⟨w.heap.size + 1, 8, none⟩ = some (.func (.func 98) #[] #[]) := by
      have h0 := CC.out 6 _ rfl
      have h1 := CC.out 7 _ rfl
      have h2 := CC.out 8 _ rfl
      simp only [Nat.zero_add] at h0 h1 h2
      exact ⟨h0, h1, h2⟩
    clear CC
    go_wp2
    refine bodyPost_ret (v := .tuple #[.agg #[.func (.func 96) #[] #[], .func (.func 97) #[] #[], .func (.func 98) #[] #[]], .bool true]) (by simp [results, Tryz.results66, go_sem, *]) rfl ⟨rfl, ?_⟩
    exact ((b0.setCell (Nat.le_refl _) _).setCell (Nat.le_refl _) _).setCell (Nat.le_refl _) _
  · obtain ⟨q0, q1, q2⟩ : W.cell? ⟨w.heap.size + 1, 9, none⟩ = some (.func (.func 99) #[] #[]) ∧ W.cell? ⟨w.heap.size + 1, 10, none⟩ = some (.func (.func 100) #[] #[]) ∧ W.cell? ⟨w.heap.size + 1, 11, none⟩ = some (.func (.func 95) #[] #[]) := by
      have h0 := CC.out 9 _ rfl
      have h1 := CC.out 10 _ rfl
      have h2 := CC.out 11 _ rfl
      simp only [Nat.zero_add] at h0 h1 h2
      exact ⟨h0, h1, h2⟩
    clear CC
    go_wp2
    refine bodyPost_ret (v := .tuple #[.agg #[.func (.func 99) #[] #[], .func (.func 100) #[] #[], .func (.func 95) #[] #[]], .bool true]) (by simp [results, Tryz.results66, go_sem, *]) rfl ⟨rfl, ?_⟩
    exact ((b0.setCell (Nat.le_refl _) _).setCell (Nat.le_refl _) _).setCell (Nat.le_refl _) _
  · obtain ⟨q0, q1, q2⟩ : W.cell? ⟨w.heap.size + 1, 12, none⟩ = some (.func (.func 101) #[] #[]) ∧ W.cell? ⟨w.heap.size + 1, 13, none⟩ = some (.func (.func 102) #[] #[]) ∧ W.cell? ⟨w.heap.size + 1, 14, none⟩ = some (.func (.func 103) #[] #[]) := by
      have h0 := CC.out 12 _ rfl
      have h1 := CC.out 13 _ rfl
      have h2 := CC.out 14 _ rfl
      simp only [Nat.zero_add] at h0 h1 h2
      exact ⟨h0, h1, h2⟩
    clear CC
    go_wp2
    refine bodyPost_ret (v := .tuple #[.agg #[.func (.func 101) #[] #[], .func (.func 102) #[] #[], .func (.func 103) #[] #[]], .bool true]) (by simp [results, Tryz.results66, go_sem, *]) rfl ⟨rfl, ?_⟩
    exact ((b0.setCell (Nat.le_refl _) _).setCell (Nat.le_refl _) _).setCell (Nat.le_refl _) _
  · obtain ⟨q0, q1, q2⟩ : W.cell? ⟨w.heap.size + 1, 15, none⟩ = some (.func (.func 104) #[] #[]) ∧ W.cell? ⟨w.heap.size + 1, 16, none⟩ = some (.func (.func 105) #[] #[]) ∧ W.cell? ⟨w.heap.size + 1, 17, none⟩ = some (.func (.func 106) #[] #[]) := by
      have h0 := CC.out 15 _ rfl
      have h1 := CC.out 16 _ rfl
      have h2 := CC.out 17 _ rfl
      simp only [Nat.zero_add] at h0 h1 h2
      exact ⟨h0, h1, h2⟩
    clear CC
    go_wp2
    refine bodyPost_ret (v := .tuple #[.agg #[.func (.func 104) #[] #[], .func (.func 105) #[] #[], .func (.func 106) #[] #[]], .bool true]) (by simp [results, Tryz.results66, go_sem, *]) rfl ⟨rfl, ?_⟩
    exact ((b0.setCell (Nat.le_refl _) _).setCell (Nat.le_refl _) _).setCell (Nat.le_refl _) _

theorem ruleOf_1 (w : World) : Calls Tryz.prog 66 #[.int .i64 1] w fun e w' => e = .returned (.tuple #[.agg #[.func (.func 93) #[] #[], .func (.func 94) #[] #[], .func (.func 95) #[] #[]], .bool true]) ∧ Below w.heap.size w w' := ruleOf_in 1 (by omega) w

theorem ruleOf_2 (w : World) : Calls Tryz.prog 66 #[.int .i64 2] w fun e w' => e = .returned (.tuple #[.agg #[.func (.func 96) #[] #[], .func (.func 97) #[] #[], .func (.func 98) #[] #[]], .bool true]) ∧ Below w.heap.size w w' := ruleOf_in 2 (by omega) w

theorem ruleOf_3 (w : World) : Calls Tryz.prog 66 #[.int .i64 3] w fun e w' => e = .returned (.tuple #[.agg #[.func (.func 99) #[] #[], .func (.func 100) #[] #[], .func (.func 95) #[] #[]], .bool true]) ∧ Below w.heap.size w w' := ruleOf_in 3 (by omega) w

theorem ruleOf_4 (w : World) : Calls Tryz.prog 66 #[.int .i64 4] w fun e w' => e = .returned (.tuple #[.agg #[.func (.func 101) #[] #[], .func (.func 102) #[] #[], .func (.func 103) #[] #[]], .bool true]) ∧ Below w.heap.size w w' := ruleOf_in 4 (by omega) w

theorem ruleOf_5 (w : World) : Calls Tryz.prog 66 #[.int .i64 5] w fun e w' => e = .returned (.tuple #[.agg #[.func (.func 104) #[] #[], .func (.func 105) #[] #[], .func (.func 106) #[] #[]], .bool true]) ∧ Below w.heap.size w w' := ruleOf_in 5 (by omega) w

set_option maxRecDepth 100000 in
set_option maxHeartbeats 4000000 in
theorem ruleOf_no (n : Int) (hn : ¬ (1 ≤ n ∧ n ≤ 5)) (w : World) : Calls Tryz.prog 66 #[.int .i64 n] w fun e w' => e = .returned (.tuple #[.agg #[.nilFunc, .nilFunc, .nilFunc], .bool false]) ∧ Below w.heap.size w w' := by
  have d : inB n 1 5 = false := inB_no hn
  clear hn
  go_enter Tryz.func66, Tryz.ntmps66
  go_wp2_with fail
  obtain ⟨W, hW⟩ : ∃ W, W = (w.alloc (.cells #[.nilFunc, .nilFunc, .nilFunc] 116)).alloc (.cells #[.nilFunc, .nilFunc, .nilFunc, .func (.func 93) #[] #[], .func (.func 94) #[] #[], .func (.func 95) #[] #[], .func (.func 96) #[] #[], .func (.func 97) #[] #[], .func (.func 98) #[] #[], .func (.func 99) #[] #[], .func (.func 100) #[] #[], .func (.func 95) #[] #[], .func (.func 101) #[] #[], .func (.func 102) #[] #[], .func (.func 103) #[] #[], .func (.func 104) #[] #[], .func (.func 105) #[] #[], .func (.func 106) #[] #[]] 145) := ⟨_, rfl⟩
  have cz : Cells W w.heap.size 0 [.nilFunc, .nilFunc, .nilFunc] := by
    rw [hW]; exact (Cells.new w [.nilFunc, .nilFunc, .nilFunc] 116).below (bal (Below.refl _ _) _) (by simp)
  have fz : ∀ i, W.frozen? ⟨w.heap.size, i, none⟩ = false := fun i => by
    rw [hW]; have := free_alloc w #[.nilFunc, .nilFunc, .nilFunc] 116 0
    exact (Free.below this (bal (Below.refl _ _) _) (fun b e => by simp [blk] at e; subst e; simp)) _ rfl i
  have b0 : Below w.heap.size w W := by rw [hW]; exact bal (bal (Below.refl _ _) _) _
  have s0 : w.heap.size + 1 < W.heap.size := by rw [hW]; simp
  rw [← hW]
  clear hW
  have z0 := cz 0 _ rfl
  have z1 := cz 1 _ rfl
  have z2 := cz 2 _ rfl
  simp only [Nat.zero_add] at z0 z1 z2
  have y0 := fz 0
  have y1 := fz 1
  have y2 := fz 2
  clear cz fz
  generalize Value.agg #[.nilFunc, .nilFunc, .nilFunc, .func (.func 93) #[] #[], .func (.func 94) #[] #[], .func (.func 95) #[] #[], .func (.func 96) #[] #[], .func (.func 97) #[] #[], .func (.func 98) #[] #[], .func (.func 99) #[] #[], .func (.func 100) #[] #[], .func (.func 95) #[] #[], .func (.func 101) #[] #[], .func (.func 102) #[] #[], .func (.func 103) #[] #[], .func (.func 104) #[] #[], .func (.func 105) #[] #[], .func (.func 106) #[] #[]] = U0
  generalize Value.agg #[.func (.func 93) #[] #[], .func (.func 94) #[] #[], .func (.func 95) #[] #[]] = U1
  generalize Value.agg #[.func (.func 96) #[] #[], .func (.func 97) #[] #[], .func (.func 98) #[] #[]] = U2
  generalize Value.agg #[.func (.func 99) #[] #[], .func (.func 100) #[] #[], .func (.func 95) #[] #[]] = U3
  generalize Value.agg #[.func (.func 101) #[] #[], .func (.func 102) #[] #[], .func (.func 103) #[] #[]] = U4
  generalize Value.agg #[.func (.func 104) #[] #[], .func (.func 105) #[] #[], .func (.func 106) #[] #[]] = U5
  refine (within_any n 1 5 _).mono ?_
  rintro e w' ⟨rfl, rfl⟩
  rw [d]
  go_wp2
  refine bodyPost_ret (v := .tuple #[.agg #[.nilFunc, .nilFunc, .nilFunc], .bool false]) (by simp [results, Tryz.results66, go_sem, *]) rfl ⟨rfl, ?_⟩
  exact ((b0.setCell (Nat.le_refl _) _).setCell (Nat.le_refl _) _).setCell (Nat.le_refl _) _

end Go.Proofs.YtpfanmcjlfdaiaaGreatDoorR
