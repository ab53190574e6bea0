/-
  Contracts of WidthOf, KeepOf and AlignDown of both packages: what each answers at every tier and time. Conditions: the program's tables of widths and keeps hold what its text lays there.
-/
import Derived.Test.YtnglfambcophpaaDoorAgg
import Derived.Lib.Hide
namespace Go.Proofs.YtnglfambcophpaaDoor
open Go.ChangeShapes Go.WideShapes Go.ChangeAt Go.RowKit
set_option linter.unusedVariables false

/-- a tier's width -/
def wid (k : Nat) : Int := ([1, 5, 20] : List Int).getD k 0

/-- how long a tier is kept -/
def kep (k : Nat) : Int := ([40, 100, 400] : List Int).getD k 0

/-- a table of three numbers lies in a variable -/
def Tab3 (g : Nat) (f : Nat → Int) (w : World) : Prop := ∀ i, i < 3 → w.cell? ⟨g, i, none⟩ = some (.int .i64 (f i))

theorem Tab3.below {g : Nat} {f : Nat → Int} {w w' : World} (h : Tab3 g f w) (hb : Below w.heap.size w w') (hz : g < w.heap.size) : Tab3 g f w' := fun i hi => (hb.cell (p := ⟨g, i, none⟩) hz).trans (h i hi)

theorem isTier_any (n : Int) (w : World) : Calls Tryd.prog 17 #[.int .i64 n] w fun e w' => e = .returned (.bool (inB n 0 2)) ∧ w = w' := by
  go_enter Tryd.func17, Tryd.ntmps17
  go_wp2_with (go_at_call 20; refine (within_any _ _ _ _).mono ?_; rintro e w' ⟨rfl, rfl⟩)
  go_ret
  exact ⟨rfl, rfl⟩

theorem l04Tier_any (n : Int) (w : World) : Calls Tryd.prog 18 #[.int .i64 n] w fun e w' => e = .returned (.bool (inB n 0 2)) ∧ w = w' := by
  go_enter Tryd.func18, Tryd.ntmps18
  go_wp2_with (go_at_call 25; refine (inL_any _ _ _ _).mono ?_; rintro e w' ⟨rfl, rfl⟩)
  go_ret
  exact ⟨rfl, rfl⟩

theorem three {k : Nat} (h : k < 3) : k = 0 ∨ k = 1 ∨ k = 2 := by omega

theorem inB_tier {k : Nat} (h : k < 3) : inB (k : Int) 0 2 = true := inB_iff.2 ⟨by omega, by omega⟩

theorem inB_no {n lo hi : Int} (h : ¬ (lo ≤ n ∧ n ≤ hi)) : inB n lo hi = false := by
  cases e : inB n lo hi
  · rfl
  · exact absurd (inB_iff.1 e) h

theorem widthOf_in (k : Nat) (hk : k < 3) (w : World) (ht : Tab3 0 wid w) : Calls Tryd.prog 9 #[.int .i64 k] w fun e w' => e = .returned (.tuple #[.int .i64 (wid k), .int .i64 0]) ∧ w = w' := by
  have d := inB_tier hk
  have hc := ht k hk
  clear ht
  go_enter Tryd.func9, Tryd.ntmps9
  go_wp2_with (go_at_call 17; refine (isTier_any _ _).mono ?_; rintro e w' ⟨rfl, rfl⟩)
  refine bodyPost_ret (v := .tuple #[.int .i64 (wid k), .int .i64 0]) (by simp [results, Tryd.results9, go_sem, *]) rfl ⟨rfl, rfl⟩

theorem widthOf_out (n : Int) (hn : ¬ (0 ≤ n ∧ n ≤ 2)) (w : World) : Calls Tryd.prog 9 #[.int .i64 n] w fun e w' => e = .returned (.tuple #[.int .i64 0, .int .i64 4]) ∧ w = w' := by
  have d := inB_no hn
  clear hn
  go_enter Tryd.func9, Tryd.ntmps9
  go_wp2_with (go_at_call 17; refine (isTier_any _ _).mono ?_; rintro e w' ⟨rfl, rfl⟩)
  refine bodyPost_ret (v := .tuple #[.int .i64 0, .int .i64 4]) (by simp [results, Tryd.results9, go_sem, *]) rfl ⟨rfl, rfl⟩

theorem keepOf_in (k : Nat) (hk : k < 3) (w : World) (ht : Tab3 1 kep w) : Calls Tryd.prog 10 #[.int .i64 k] w fun e w' => e = .returned (.tuple #[.int .i64 (kep k), .int .i64 0]) ∧ w = w' := by
  have d := inB_tier hk
  have hc := ht k hk
  clear ht
  go_enter Tryd.func10, Tryd.ntmps10
  go_wp2_with (go_at_call 17; refine (isTier_any _ _).mono ?_; rintro e w' ⟨rfl, rfl⟩)
  refine bodyPost_ret (v := .tuple #[.int .i64 (kep k), .int .i64 0]) (by simp [results, Tryd.results10, go_sem, *]) rfl ⟨rfl, rfl⟩

theorem keepOf_out (n : Int) (hn : ¬ (0 ≤ n ∧ n ≤ 2)) (w : World) : Calls Tryd.prog 10 #[.int .i64 n] w fun e w' => e = .returned (.tuple #[.int .i64 0, .int .i64 4]) ∧ w = w' := by
  have d := inB_no hn
  clear hn
  go_enter Tryd.func10, Tryd.ntmps10
  go_wp2_with (go_at_call 17; refine (isTier_any _ _).mono ?_; rintro e w' ⟨rfl, rfl⟩)
  refine bodyPost_ret (v := .tuple #[.int .i64 0, .int .i64 4]) (by simp [results, Tryd.results10, go_sem, *]) rfl ⟨rfl, rfl⟩

theorem l04Width_in (k : Nat) (hk : k < 3) (w : World) : Calls Tryd.prog 24 #[.int .i64 k] w fun e w' => e = .returned (.int .i64 (wid k)) ∧ Below w.heap.size w w' := by
  rcases three hk with rfl | rfl | rfl
  all_goals go_enter Tryd.func24, Tryd.ntmps24
  all_goals go_wp2
  all_goals go_ret
  all_goals exact ⟨rfl, bal (Below.refl _ _) _⟩

theorem l04Keep_in (k : Nat) (hk : k < 3) (w : World) : Calls Tryd.prog 19 #[.int .i64 k] w fun e w' => e = .returned (.int .i64 (kep k)) ∧ Below w.heap.size w w' := by
  rcases three hk with rfl | rfl | rfl
  all_goals go_enter Tryd.func19, Tryd.ntmps19
  all_goals go_wp2
  all_goals go_ret
  all_goals exact ⟨rfl, bal (Below.refl _ _) _⟩

theorem specWidthOf_in (k : Nat) (hk : k < 3) (w : World) : Calls Tryd.prog 15 #[.int .i64 k] w fun e w' => e = .returned (.tuple #[.int .i64 (wid k), .int .i64 0]) ∧ Below w.heap.size w w' := by
  have d := inB_tier hk
  go_enter Tryd.func15, Tryd.ntmps15
  go_wp2_with (first | (go_at_call 18; refine (l04Tier_any _ _).mono ?_; rintro e w' ⟨rfl, rfl⟩) | (go_at_call 24; refine (l04Width_in k hk _).mono ?_; rintro e w1 ⟨rfl, hb1⟩))
  refine bodyPost_ret (v := .tuple #[.int .i64 (wid k), .int .i64 0]) (by simp [results, Tryd.results15, go_sem, *]) rfl ⟨rfl, hb1⟩

theorem specWidthOf_out (n : Int) (hn : ¬ (0 ≤ n ∧ n ≤ 2)) (w : World) : Calls Tryd.prog 15 #[.int .i64 n] w fun e w' => e = .returned (.tuple #[.int .i64 0, .int .i64 4]) ∧ Below w.heap.size w w' := by
  have d := inB_no hn
  clear hn
  go_enter Tryd.func15, Tryd.ntmps15
  go_wp2_with (go_at_call 18; refine (l04Tier_any _ _).mono ?_; rintro e w' ⟨rfl, rfl⟩)
  refine bodyPost_ret (v := .tuple #[.int .i64 0, .int .i64 4]) (by simp [results, Tryd.results15, go_sem, *]) rfl ⟨rfl, Below.refl _ _⟩

theorem specKeepOf_in (k : Nat) (hk : k < 3) (w : World) : Calls Tryd.prog 11 #[.int .i64 k] w fun e w' => e = .returned (.tuple #[.int .i64 (kep k), .int .i64 0]) ∧ Below w.heap.size w w' := by
  have d := inB_tier hk
  go_enter Tryd.func11, Tryd.ntmps11
  go_wp2_with (first | (go_at_call 18; refine (l04Tier_any _ _).mono ?_; rintro e w' ⟨rfl, rfl⟩) | (go_at_call 19; refine (l04Keep_in k hk _).mono ?_; rintro e w1 ⟨rfl, hb1⟩))
  refine bodyPost_ret (v := .tuple #[.int .i64 (kep k), .int .i64 0]) (by simp [results, Tryd.results11, go_sem, *]) rfl ⟨rfl, hb1⟩

theorem specKeepOf_out (n : Int) (hn : ¬ (0 ≤ n ∧ n ≤ 2)) (w : World) : Calls Tryd.prog 11 #[.int .i64 n] w fun e w' => e = .returned (.tuple #[.int .i64 0, .int .i64 4]) ∧ Below w.heap.size w w' := by
  have d := inB_no hn
  clear hn
  go_enter Tryd.func11, Tryd.ntmps11
  go_wp2_with (go_at_call 18; refine (l04Tier_any _ _).mono ?_; rintro e w' ⟨rfl, rfl⟩)
  refine bodyPost_ret (v := .tuple #[.int .i64 0, .int .i64 4]) (by simp [results, Tryd.results11, go_sem, *]) rfl ⟨rfl, Below.refl _ _⟩

/-- where a time's window begins -/
def alg (t : Int) (k : Nat) : Int := t - t % wid k

theorem wid_pos {k : Nat} (hk : k < 3) : 1 ≤ wid k ∧ wid k ≤ 20 := by
  rcases three hk with rfl | rfl | rfl <;> decide

theorem alg_ok {t : Int} {k : Nat} (hk : k < 3) (h0 : 0 ≤ t) (h1 : t ≤ 100000) : t.tmod (wid k) = t % wid k ∧ 0 ≤ t % wid k ∧ t % wid k < wid k ∧ t % wid k ≤ t := by
  have hw := wid_pos hk
  refine ⟨Int.tmod_eq_emod_of_nonneg h0, Int.emod_nonneg _ (by omega), Int.emod_lt_of_pos _ (by omega), ?_⟩
  have h2 := Int.emod_add_mul_ediv t (wid k)
  have h3 : 0 ≤ wid k * (t / wid k) := Int.mul_nonneg (by omega) (Int.ediv_nonneg h0 (by omega))
  omega

set_option maxRecDepth 100000 in
theorem alignDown_in (t : Int) (k : Nat) (hk : k < 3) (h0 : 0 ≤ t) (h1 : t ≤ 100000) (w : World) (ht : Tab3 0 wid w) : Calls Tryd.prog 12 #[.int .i64 t, .int .i64 k] w fun e w' => e = .returned (.tuple #[.int .i64 (alg t k), .int .i64 0]) ∧ w = w' := by
  obtain ⟨m1, m2, m3, m4⟩ := alg_ok hk h0 h1
  have hw := wid_pos hk
  have E := Lib.hid (show alg t k = t - t % wid k from rfl)
  have C := Lib.hid (widthOf_in k hk w ht)
  have d : inB t 0 100000 = true := inB_iff.2 ⟨h0, h1⟩
  clear ht
  generalize hr : t % wid k = r at *
  generalize wid k = W at *
  have d3 : (W == 0) = false := by simp; omega
  go_enter Tryd.func12, Tryd.ntmps12
  go_wp2_with (first | (go_at_call 9; refine C.out.mono ?_; rintro e w' ⟨rfl, rfl⟩) | (go_at_call 20; refine (within_any _ _ _ _).mono ?_; rintro e w' ⟨rfl, rfl⟩))
  refine bodyPost_ret (v := .tuple #[.int .i64 (t - r), .int .i64 0]) (by simp [results, Tryd.results12, go_sem, *]) rfl ⟨by rw [E.out], rfl⟩

theorem alignDown_tier (t n : Int) (hn : ¬ (0 ≤ n ∧ n ≤ 2)) (w : World) : Calls Tryd.prog 12 #[.int .i64 t, .int .i64 n] w fun e w' => e = .returned (.tuple #[.int .i64 0, .int .i64 4]) ∧ w = w' := by
  have C := Lib.hid (widthOf_out n hn w)
  clear hn
  go_enter Tryd.func12, Tryd.ntmps12
  go_wp2_with (go_at_call 9; refine C.out.mono ?_; rintro e w' ⟨rfl, rfl⟩)
  refine bodyPost_ret (v := .tuple #[.int .i64 0, .int .i64 4]) (by simp [results, Tryd.results12, go_sem, *]) rfl ⟨rfl, rfl⟩

theorem alignDown_time (t : Int) (k : Nat) (hk : k < 3) (h0 : ¬ (0 ≤ t ∧ t ≤ 100000)) (w : World) (ht : Tab3 0 wid w) : Calls Tryd.prog 12 #[.int .i64 t, .int .i64 k] w fun e w' => e = .returned (.tuple #[.int .i64 0, .int .i64 4]) ∧ w = w' := by
  have C := Lib.hid (widthOf_in k hk w ht)
  have d := inB_no h0
  clear ht h0
  generalize wid k = W at *
  go_enter Tryd.func12, Tryd.ntmps12
  go_wp2_with (first | (go_at_call 9; refine C.out.mono ?_; rintro e w' ⟨rfl, rfl⟩) | (go_at_call 20; refine (within_any _ _ _ _).mono ?_; rintro e w' ⟨rfl, rfl⟩))
  refine bodyPost_ret (v := .tuple #[.int .i64 0, .int .i64 4]) (by simp [results, Tryd.results12, go_sem, *]) rfl ⟨rfl, rfl⟩

set_option maxRecDepth 100000 in
theorem specAlignDown_in (t : Int) (k : Nat) (hk : k < 3) (h0 : 0 ≤ t) (h1 : t ≤ 100000) (w : World) : Calls Tryd.prog 16 #[.int .i64 t, .int .i64 k] w fun e w' => e = .returned (.tuple #[.int .i64 (alg t k), .int .i64 0]) ∧ Below w.heap.size w w' := by
  obtain ⟨m1, m2, m3, m4⟩ := alg_ok hk h0 h1
  have hw := wid_pos hk
  have E := Lib.hid (show alg t k = t - t % wid k from rfl)
  have C := Lib.hid (fun w => l04Width_in k hk w)
  have d : inB t 0 100000 = true := inB_iff.2 ⟨h0, h1⟩
  have d2 := inB_tier hk
  generalize hr : t % wid k = r at *
  generalize wid k = W at *
  have d3 : (W == 0) = false := by simp; omega
  go_enter Tryd.func16, Tryd.ntmps16
  go_wp2_with (first | (go_at_call 18; refine (l04Tier_any _ _).mono ?_; rintro e w' ⟨rfl, rfl⟩) | (go_at_call 25; refine (inL_any _ _ _ _).mono ?_; rintro e w' ⟨rfl, rfl⟩) | (go_at_call 24; refine (C.out _).mono ?_; rintro e w1 ⟨rfl, hb1⟩))
  refine bodyPost_ret (v := .tuple #[.int .i64 (t - r), .int .i64 0]) (by simp [results, Tryd.results16, go_sem, *]) rfl ⟨by rw [E.out], hb1⟩

theorem specAlignDown_out (t n : Int) (hn : ¬ ((0 ≤ n ∧ n ≤ 2) ∧ (0 ≤ t ∧ t ≤ 100000))) (w : World) : Calls Tryd.prog 16 #[.int .i64 t, .int .i64 n] w fun e w' => e = .returned (.tuple #[.int .i64 0, .int .i64 4]) ∧ Below w.heap.size w w' := by
  by_cases h1 : 0 ≤ n ∧ n ≤ 2
  · have d1 : inB n 0 2 = true := inB_iff.2 h1
    have d2 : inB t 0 100000 = false := inB_no (fun h => hn ⟨h1, h⟩)
    clear hn h1
    go_enter Tryd.func16, Tryd.ntmps16
    go_wp2_with (first | (go_at_call 18; refine (l04Tier_any _ _).mono ?_; rintro e w' ⟨rfl, rfl⟩) | (go_at_call 25; refine (inL_any _ _ _ _).mono ?_; rintro e w' ⟨rfl, rfl⟩))
    refine bodyPost_ret (v := .tuple #[.int .i64 0, .int .i64 4]) (by simp [results, Tryd.results16, go_sem, *]) rfl ⟨rfl, Below.refl _ _⟩
  · have d1 := inB_no h1
    clear hn h1
    go_enter Tryd.func16, Tryd.ntmps16
    go_wp2_with (first | (go_at_call 18; refine (l04Tier_any _ _).mono ?_; rintro e w' ⟨rfl, rfl⟩) | (go_at_call 25; refine (inL_any _ _ _ _).mono ?_; rintro e w' ⟨rfl, rfl⟩))
    refine bodyPost_ret (v := .tuple #[.int .i64 0, .int .i64 4]) (by simp [results, Tryd.results16, go_sem, *]) rfl ⟨rfl, Below.refl _ _⟩

/-- a tier, and where it lies -/
theorem tier_cases (n : Int) : (∃ k : Nat, k < 3 ∧ n = (k : Int)) ∨ ¬ (0 ≤ n ∧ n ≤ 2) := by
  by_cases h : 0 ≤ n ∧ n ≤ 2
  · exact Or.inl ⟨n.toNat, by omega, by omega⟩
  · exact Or.inr h

end Go.Proofs.YtnglfambcophpaaDoor
