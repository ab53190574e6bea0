/-
  Contracts of AggOK of both packages: each answers true just of a right aggregate; nothing old has turned. No conditions.
-/
import Derived.Test.YtpackpocnonpiaaGreatDoorAgg
namespace Go.Proofs.YtpackpocnonpiaaGreatDoor
open Go.ChangeShapes Go.WideShapes Go.ChangeAt Go.RowKit
set_option linter.unusedVariables false

theorem mul_in {c m : Int} (h1 : 1 ≤ c) (h2 : c ≤ 100000) (h3 : -1000000 ≤ m) (h4 : m ≤ 1000000) : -100000000000 ≤ c * m ∧ c * m ≤ 100000000000 := by
  have a : c * -1000000 ≤ c * m := Int.mul_le_mul_of_nonneg_left h3 (by omega)
  have b : c * m ≤ c * 1000000 := Int.mul_le_mul_of_nonneg_left h4 (by omega)
  omega

theorem mul_wrap {c m : Int} (h1 : 1 ≤ c) (h2 : c ≤ 100000) (h3 : -1000000 ≤ m) (h4 : m ≤ 1000000) : wrap64 (c * m) = c * m := by
  have := mul_in h1 h2 h3 h4
  unfold wrap64; omega

theorem aggOK_any (a : GAgg) (w : World) : Calls Tryz.prog 204 #[.agg #[.int .i64 a.cnt, .int .i64 a.sum, .int .i64 a.mn, .int .i64 a.mx, .int .i64 a.fst, .int .i64 a.lst]] w (IsBB (AggP a) w) := by
  obtain ⟨cnt, sum, mn, mx, fst, lst⟩ := a
  dsimp only
  by_cases c0 : cnt = 0
  · subst c0
    go_enter Tryz.func204, Tryz.ntmps204
    go_wp2
    all_goals go_ret
    all_goals refine ⟨_, ?_, rfl, bal (Below.refl _ _) _⟩
    all_goals (simp [AggP, zAgg]; try omega)
  · have d0 : (cnt == 0) = false := by simpa using c0
    by_cases hv : 1 ≤ cnt ∧ cnt ≤ 100000 ∧ -1000000 ≤ mn ∧ mn ≤ 1000000 ∧ -1000000 ≤ mx ∧ mx ≤ 1000000
    · obtain ⟨v1, v2, v3, v4, v5, v6⟩ := hv
      have m1 := mul_wrap v1 v2 v3 v4
      have m2 := mul_wrap v1 v2 v5 v6
      have d1 : inB cnt 1 100000 = true := inB_iff.2 ⟨v1, v2⟩
      have d2 : inB mn (-1000000) 1000000 = true := inB_iff.2 ⟨v3, v4⟩
      have d3 : inB mx (-1000000) 1000000 = true := inB_iff.2 ⟨v5, v6⟩
      have hi : AggP ⟨cnt, sum, mn, mx, fst, lst⟩ ↔ inB fst mn mx = true ∧ inB lst mn mx = true ∧ inB sum (cnt * mn) (cnt * mx) = true := by
        simp only [AggP, zAgg, inB_iff, GAgg.mk.injEq]
        omega
      have Hi := Lib.hid hi; clear hi v1 v2 v3 v4 v5 v6 c0
      go_enter Tryz.func204, Tryz.ntmps204
      go_wp2_with (first | (go_at_call 87; refine (within_any _ _ _ _).mono ?_; rintro e w' ⟨rfl, rfl⟩) | (go_at_call 200; refine (isValue_any _ _).mono ?_; rintro e w' ⟨rfl, rfl⟩))
      all_goals go_ret
      all_goals refine ⟨_, Iff.trans ?_ Hi.out.symm, rfl, bal (Below.refl _ _) _⟩
      all_goals simp_all
    · have hi : ¬ AggP ⟨cnt, sum, mn, mx, fst, lst⟩ := fun h => by
        rcases h with h | h
        · simp only [zAgg, GAgg.mk.injEq] at h; exact c0 h.1
        · dsimp only at h; omega
      have Hi := Lib.hid hi; clear hi c0
      have hx : ¬ (inB cnt 1 100000 = true ∧ inB mn (-1000000) 1000000 = true ∧ inB mx (-1000000) 1000000 = true) := by
        simp only [inB_iff]; omega
      have Hx := Lib.hid hx; clear hx hv
      cases e1 : inB cnt 1 100000
      · go_enter Tryz.func204, Tryz.ntmps204
        go_wp2_with (first | (go_at_call 87; refine (within_any _ _ _ _).mono ?_; rintro e w' ⟨rfl, rfl⟩) | (go_at_call 200; refine (isValue_any _ _).mono ?_; rintro e w' ⟨rfl, rfl⟩))
        go_ret
        exact IsBB.no Hi.out (bal (Below.refl _ _) _)
      · cases e2 : inB mn (-1000000) 1000000
        · go_enter Tryz.func204, Tryz.ntmps204
          go_wp2_with (first | (go_at_call 87; refine (within_any _ _ _ _).mono ?_; rintro e w' ⟨rfl, rfl⟩) | (go_at_call 200; refine (isValue_any _ _).mono ?_; rintro e w' ⟨rfl, rfl⟩))
          go_ret
          exact IsBB.no Hi.out (bal (Below.refl _ _) _)
        · cases e3 : inB mx (-1000000) 1000000
          · go_enter Tryz.func204, Tryz.ntmps204
            go_wp2_with (first | (go_at_call 87; refine (within_any _ _ _ _).mono ?_; rintro e w' ⟨rfl, rfl⟩) | (go_at_call 200; refine (isValue_any _ _).mono ?_; rintro e w' ⟨rfl, rfl⟩))
            go_ret
            exact IsBB.no Hi.out (bal (Below.refl _ _) _)
          · exact absurd ⟨e1, e2, e3⟩ Hx.out

theorem specAggOK_any (a : GAgg) (w : World) : Calls Tryz.prog 194 #[.agg #[.int .i64 a.cnt, .int .i64 a.sum, .int .i64 a.mn, .int .i64 a.mx, .int .i64 a.fst, .int .i64 a.lst]] w (IsBB (AggP a) w) := by
  obtain ⟨cnt, sum, mn, mx, fst, lst⟩ := a
  dsimp only
  by_cases c0 : cnt = 0
  · subst c0
    go_enter Tryz.func194, Tryz.ntmps194
    go_wp2
    all_goals go_ret
    all_goals refine ⟨_, ?_, rfl, bal (Below.refl _ _) _⟩
    all_goals (simp [AggP, zAgg]; try omega)
  · have d0 : (cnt == 0) = false := by simpa using c0
    by_cases hv : 1 ≤ cnt ∧ cnt ≤ 100000 ∧ -1000000 ≤ mn ∧ mn ≤ 1000000 ∧ -1000000 ≤ mx ∧ mx ≤ 1000000
    · obtain ⟨v1, v2, v3, v4, v5, v6⟩ := hv
      have m1 := mul_wrap v1 v2 v3 v4
      have m2 := mul_wrap v1 v2 v5 v6
      have d1 : inB cnt 1 100000 = true := inB_iff.2 ⟨v1, v2⟩
      have d2 : inB mn (-1000000) 1000000 = true := inB_iff.2 ⟨v3, v4⟩
      have d3 : inB mx (-1000000) 1000000 = true := inB_iff.2 ⟨v5, v6⟩
      have hi : AggP ⟨cnt, sum, mn, mx, fst, lst⟩ ↔ inB fst mn mx = true ∧ inB lst mn mx = true ∧ inB sum (cnt * mn) (cnt * mx) = true := by
        simp only [AggP, zAgg, inB_iff, GAgg.mk.injEq]
        omega
      have Hi := Lib.hid hi; clear hi v1 v2 v3 v4 v5 v6 c0
      go_enter Tryz.func194, Tryz.ntmps194
      go_wp2_with (first | (go_at_call 80; refine (inL_any _ _ _ _).mono ?_; rintro e w' ⟨rfl, rfl⟩) | (go_at_call 223; refine (l02Value_any _ _).mono ?_; rintro e w' ⟨rfl, rfl⟩))
      all_goals go_ret
      all_goals refine ⟨_, Iff.trans ?_ Hi.out.symm, rfl, bal (Below.refl _ _) _⟩
      all_goals simp_all
    · have hi : ¬ AggP ⟨cnt, sum, mn, mx, fst, lst⟩ := fun h => by
        rcases h with h | h
        · simp only [zAgg, GAgg.mk.injEq] at h; exact c0 h.1
        · dsimp only at h; omega
      have Hi := Lib.hid hi; clear hi c0
      have hx : ¬ (inB cnt 1 100000 = true ∧ inB mn (-1000000) 1000000 = true ∧ inB mx (-1000000) 1000000 = true) := by
        simp only [inB_iff]; omega
      have Hx := Lib.hid hx; clear hx hv
      cases e1 : inB cnt 1 100000
      · go_enter Tryz.func194, Tryz.ntmps194
        go_wp2_with (first | (go_at_call 80; refine (inL_any _ _ _ _).mono ?_; rintro e w' ⟨rfl, rfl⟩) | (go_at_call 223; refine (l02Value_any _ _).mono ?_; rintro e w' ⟨rfl, rfl⟩))
        go_ret
        exact IsBB.no Hi.out (bal (Below.refl _ _) _)
      · cases e2 : inB mn (-1000000) 1000000
        · go_enter Tryz.func194, Tryz.ntmps194
          go_wp2_with (first | (go_at_call 80; refine (inL_any _ _ _ _).mono ?_; rintro e w' ⟨rfl, rfl⟩) | (go_at_call 223; refine (l02Value_any _ _).mono ?_; rintro e w' ⟨rfl, rfl⟩))
          go_ret
          exact IsBB.no Hi.out (bal (Below.refl _ _) _)
        · cases e3 : inB mx (-1000000) 1000000
          · go_enter Tryz.func194, Tryz.ntmps194
            go_wp2_with (first | (go_at_call 80; refine (inL_any _ _ _ _).mono ?_; rintro e w' ⟨rfl, rfl⟩) | (go_at_call 223; refine (l02Value_any _ _).mono ?_; rintro e w' ⟨rfl, rfl⟩))
            go_ret
            exact IsBB.no Hi.out (bal (Below.refl _ _) _)
          · exact absurd ⟨e1, e2, e3⟩ Hx.out

end Go.Proofs.YtpackpocnonpiaaGreatDoor
