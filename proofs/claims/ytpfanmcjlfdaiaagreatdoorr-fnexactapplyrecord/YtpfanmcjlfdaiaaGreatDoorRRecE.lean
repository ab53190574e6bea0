/-
  What a right entry and a right record are; contracts of what asks whether one is right, in both packages. Conditions: the program's table of paths is as its text lays it; a text's length.
-/
import Derived.Test.YtpfanmcjlfdaiaaGreatDoorRN9
import Derived.Deep.DeepCutAuto
namespace Go.Proofs.YtpfanmcjlfdaiaaGreatDoorR
open Go.ChangeShapes Go.WideShapes Go.ChangeAt Go.RowKit Go.Deep Go.Joins
set_option linter.unusedVariables false
set_option linter.unusedSimpArgs false

/-- what a kind that has no use for them leaves at zero -/
def plB (ti bg fi : Int) : Bool := (ti == 0) && ((bg == 0) && (fi == 0))

theorem plB_iff (ti bg fi : Int) : plB ti bg fi = true ↔ ti = 0 ∧ bg = 0 ∧ fi = 0 := by simp [plB]

theorem ent_pos {e : GEnt} : EntP e ∧ 0 ≤ e.tier ↔ EntP e := ⟨fun h => h.1, fun h => ⟨h, h.tier.1⟩⟩

theorem ent_pos1 {e : GEnt} : EntP e ∧ 1 ≤ e.tier ↔ EntP e ∧ e.tier ≠ 0 := ⟨fun h => ⟨h.1, by omega⟩, fun h => ⟨h.1, by have := h.1.tier; omega⟩⟩

theorem toKey_b (key : ByteArray) (w : World) (hk : key.size ≤ 1048576) : Calls Tryz.prog 57 #[.string key] w fun e w' => ∃ t n m b, e = .returned (.tuple #[.int .i64 t, .int .i64 n, .int .i64 m, .bool b]) ∧ (b = true ↔ AnyKey key) ∧ Below w.heap.size w w' :=
  (toKey_any key w hk).mono fun e w' ⟨t, n, m, b, he, hK, hB⟩ => ⟨t, n, m, b, he, by
    rcases hK with ⟨rfl, h⟩ | ⟨rfl, _, _, _, h⟩
    · simp only [true_iff]; exact ⟨t, n, m, h⟩
    · simp only [Bool.false_eq_true, false_iff]; exact fun ⟨t, n, m, h'⟩ => h t n m h', hB⟩

set_option maxRecDepth 100000 in
set_option maxHeartbeats 4000000 in
theorem specRecordOK_1 (tk ti bg fi : Int) (ky : ByteArray) (w : World) (hk : ky.size ≤ 1048576) : Calls Tryz.prog 23 #[.agg #[.int .i64 1, .int .i64 tk, .int .i64 ti, .int .i64 bg, .int .i64 fi, .string ky]] w (IsBB (RecP ⟨1, tk, ti, bg, fi, ky⟩) w) := by
  go_enter Tryz.func23, Tryz.ntmps23
  go_upto_region 1 with fail
  go_cut [3] (fun p wx => p = .bool (plB ti bg fi) ∧ wx = w.alloc (.cells #[.int .i64 1, .int .i64 tk, .int .i64 ti, .int .i64 bg, .int .i64 fi, .string ky] 38))
  case first =>
    have e : plB ti bg fi = ((ti == 0) && ((bg == 0) && (fi == 0))) := rfl
    have E := Lib.hid e; clear e
    cases d1 : (ti == 0) <;> cases d2 : (bg == 0) <;> cases d3 : (fi == 0)
    all_goals (
      rw [d1, d2, d3] at E
      go_wp2
      go_meet
      exact ⟨by rw [E.out]; rfl, rfl⟩)
  case rest =>
    obtain ⟨rfl, rfl⟩ := hcut
    have HPL := Lib.hid (plB_iff ti bg fi)
    generalize plB ti bg fi = pl at *
    have b0 : Below w.heap.size w (w.alloc (.cells #[.int .i64 1, .int .i64 tk, .int .i64 ti, .int .i64 bg, .int .i64 fi, .string ky] 38)) := bal (Below.refl _ _) _
    have RA : Hid (RecAt (w.alloc (.cells #[.int .i64 1, .int .i64 tk, .int .i64 ti, .int .i64 bg, .int .i64 fi, .string ky] 38)) w.heap.size ⟨1, tk, ti, bg, fi, ky⟩) := Lib.hid (RecAt.new w ⟨1, tk, ti, bg, fi, ky⟩ 38)
    have s0 : w.heap.size < (w.alloc (.cells #[.int .i64 1, .int .i64 tk, .int .i64 ti, .int .i64 bg, .int .i64 fi, .string ky] 38)).heap.size := by simp
    generalize w.alloc (.cells #[.int .i64 1, .int .i64 tk, .int .i64 ti, .int .i64 bg, .int .i64 fi, .string ky] 38) = W at *
    have c0 : W.cell? ⟨w.heap.size, 0, none⟩ = some (.int .i64 1) := RA.out 0 _ rfl
    have c1 : W.cell? ⟨w.heap.size, 1, none⟩ = some (.int .i64 tk) := RA.out 1 _ rfl
    have c2 : W.cell? ⟨w.heap.size, 2, none⟩ = some (.int .i64 ti) := RA.out 2 _ rfl
    have c3 : W.cell? ⟨w.heap.size, 3, none⟩ = some (.int .i64 bg) := RA.out 3 _ rfl
    have c4 : W.cell? ⟨w.heap.size, 4, none⟩ = some (.int .i64 fi) := RA.out 4 _ rfl
    have c5 : W.cell? ⟨w.heap.size, 5, none⟩ = some (.string ky) := RA.out 5 _ rfl
    cases d0 : (tk == 0)
    · have HN : Hid (¬ RecP ⟨1, tk, ti, bg, fi, ky⟩) := Lib.hid (fun h => by simp_all [RecP])
      go_wp2_with (go_at_call 54; refine (inL_any _ _ _ _).mono ?_; rintro e w' ⟨rfl, rfl⟩)
      go_ret
      exact IsBB.no HN.out b0
    cases d1 : (ti == 0)
    · have HN : Hid (¬ RecP ⟨1, tk, ti, bg, fi, ky⟩) := Lib.hid (fun h => by simp_all [RecP])
      go_wp2_with (go_at_call 54; refine (inL_any _ _ _ _).mono ?_; rintro e w' ⟨rfl, rfl⟩)
      go_ret
      exact IsBB.no HN.out b0
    have HI : Hid (RecP ⟨1, tk, ti, bg, fi, ky⟩ ↔ (EntP ⟨ti, bg, fi, ky⟩ ∧ 0 ≤ ti)) := Lib.hid (by rw [ent_pos]; simp_all [RecP, GRec.ent])
    go_wp2_with (go_at_call 54; refine (inL_any _ _ _ _).mono ?_; rintro e w' ⟨rfl, rfl⟩)
    refine (l06Tiered_any ⟨1, tk, ti, bg, fi, ky⟩ 0 _ hk).mono ?_
    rintro e w1 ⟨b1, hb1, rfl, hB1⟩
    have b1w : Below w.heap.size w w1 := b0.trans (hB1.mono b0.size)
    have Hb := Lib.hid (hb1.trans HI.out.symm); clear hb1 hB1 HI c0 c1 c2 c3 c4 c5
    go_wp2
    go_ret
    exact ⟨b1, Hb.out, rfl, b1w⟩

set_option maxRecDepth 100000 in
set_option maxHeartbeats 4000000 in
theorem specRecordOK_2 (tk ti bg fi : Int) (ky : ByteArray) (w : World) (hk : ky.size ≤ 1048576) : Calls Tryz.prog 23 #[.agg #[.int .i64 2, .int .i64 tk, .int .i64 ti, .int .i64 bg, .int .i64 fi, .string ky]] w (IsBB (RecP ⟨2, tk, ti, bg, fi, ky⟩) w) := by
  go_enter Tryz.func23, Tryz.ntmps23
  go_upto_region 1 with fail
  go_cut [3] (fun p wx => p = .bool (plB ti bg fi) ∧ wx = w.alloc (.cells #[.int .i64 2, .int .i64 tk, .int .i64 ti, .int .i64 bg, .int .i64 fi, .string ky] 38))
  case first =>
    have e : plB ti bg fi = ((ti == 0) && ((bg == 0) && (fi == 0))) := rfl
    have E := Lib.hid e; clear e
    cases d1 : (ti == 0) <;> cases d2 : (bg == 0) <;> cases d3 : (fi == 0)
    all_goals (
      rw [d1, d2, d3] at E
      go_wp2
      go_meet
      exact ⟨by rw [E.out]; rfl, rfl⟩)
  case rest =>
    obtain ⟨rfl, rfl⟩ := hcut
    have HPL := Lib.hid (plB_iff ti bg fi)
    generalize plB ti bg fi = pl at *
    have b0 : Below w.heap.size w (w.alloc (.cells #[.int .i64 2, .int .i64 tk, .int .i64 ti, .int .i64 bg, .int .i64 fi, .string ky] 38)) := bal (Below.refl _ _) _
    have RA : Hid (RecAt (w.alloc (.cells #[.int .i64 2, .int .i64 tk, .int .i64 ti, .int .i64 bg, .int .i64 fi, .string ky] 38)) w.heap.size ⟨2, tk, ti, bg, fi, ky⟩) := Lib.hid (RecAt.new w ⟨2, tk, ti, bg, fi, ky⟩ 38)
    have s0 : w.heap.size < (w.alloc (.cells #[.int .i64 2, .int .i64 tk, .int .i64 ti, .int .i64 bg, .int .i64 fi, .string ky] 38)).heap.size := by simp
    generalize w.alloc (.cells #[.int .i64 2, .int .i64 tk, .int .i64 ti, .int .i64 bg, .int .i64 fi, .string ky] 38) = W at *
    have c0 : W.cell? ⟨w.heap.size, 0, none⟩ = some (.int .i64 2) := RA.out 0 _ rfl
    have c1 : W.cell? ⟨w.heap.size, 1, none⟩ = some (.int .i64 tk) := RA.out 1 _ rfl
    have c2 : W.cell? ⟨w.heap.size, 2, none⟩ = some (.int .i64 ti) := RA.out 2 _ rfl
    have c3 : W.cell? ⟨w.heap.size, 3, none⟩ = some (.int .i64 bg) := RA.out 3 _ rfl
    have c4 : W.cell? ⟨w.heap.size, 4, none⟩ = some (.int .i64 fi) := RA.out 4 _ rfl
    have c5 : W.cell? ⟨w.heap.size, 5, none⟩ = some (.string ky) := RA.out 5 _ rfl
    have HI : Hid (RecP ⟨2, tk, ti, bg, fi, ky⟩ ↔ (inB tk 1 999999 = true ∧ pl = true ∧ (ky.toList == (⟨#[]⟩ : ByteArray).toList) = true)) := Lib.hid (by rw [nil_list, HPL.out]; simp [RecP, and_assoc])
    cases pl
    all_goals go_wp2_with (go_at_call 54; refine (inL_any _ _ _ _).mono ?_; rintro e w' ⟨rfl, rfl⟩)
    all_goals go_ret
    all_goals refine ⟨_, Iff.trans ?_ HI.out.symm, rfl, b0⟩
    all_goals simp_all

set_option maxRecDepth 100000 in
set_option maxHeartbeats 4000000 in
theorem specRecordOK_3 (tk ti bg fi : Int) (ky : ByteArray) (w : World) (hk : ky.size ≤ 1048576) : Calls Tryz.prog 23 #[.agg #[.int .i64 3, .int .i64 tk, .int .i64 ti, .int .i64 bg, .int .i64 fi, .string ky]] w (IsBB (RecP ⟨3, tk, ti, bg, fi, ky⟩) w) := by
  go_enter Tryz.func23, Tryz.ntmps23
  go_upto_region 1 with fail
  go_cut [3] (fun p wx => p = .bool (plB ti bg fi) ∧ wx = w.alloc (.cells #[.int .i64 3, .int .i64 tk, .int .i64 ti, .int .i64 bg, .int .i64 fi, .string ky] 38))
  case first =>
    have e : plB ti bg fi = ((ti == 0) && ((bg == 0) && (fi == 0))) := rfl
    have E := Lib.hid e; clear e
    cases d1 : (ti == 0) <;> cases d2 : (bg == 0) <;> cases d3 : (fi == 0)
    all_goals (
      rw [d1, d2, d3] at E
      go_wp2
      go_meet
      exact ⟨by rw [E.out]; rfl, rfl⟩)
  case rest =>
    obtain ⟨rfl, rfl⟩ := hcut
    have HPL := Lib.hid (plB_iff ti bg fi)
    generalize plB ti bg fi = pl at *
    have b0 : Below w.heap.size w (w.alloc (.cells #[.int .i64 3, .int .i64 tk, .int .i64 ti, .int .i64 bg, .int .i64 fi, .string ky] 38)) := bal (Below.refl _ _) _
    have RA : Hid (RecAt (w.alloc (.cells #[.int .i64 3, .int .i64 tk, .int .i64 ti, .int .i64 bg, .int .i64 fi, .string ky] 38)) w.heap.size ⟨3, tk, ti, bg, fi, ky⟩) := Lib.hid (RecAt.new w ⟨3, tk, ti, bg, fi, ky⟩ 38)
    have s0 : w.heap.size < (w.alloc (.cells #[.int .i64 3, .int .i64 tk, .int .i64 ti, .int .i64 bg, .int .i64 fi, .string ky] 38)).heap.size := by simp
    generalize w.alloc (.cells #[.int .i64 3, .int .i64 tk, .int .i64 ti, .int .i64 bg, .int .i64 fi, .string ky] 38) = W at *
    have c0 : W.cell? ⟨w.heap.size, 0, none⟩ = some (.int .i64 3) := RA.out 0 _ rfl
    have c1 : W.cell? ⟨w.heap.size, 1, none⟩ = some (.int .i64 tk) := RA.out 1 _ rfl
    have c2 : W.cell? ⟨w.heap.size, 2, none⟩ = some (.int .i64 ti) := RA.out 2 _ rfl
    have c3 : W.cell? ⟨w.heap.size, 3, none⟩ = some (.int .i64 bg) := RA.out 3 _ rfl
    have c4 : W.cell? ⟨w.heap.size, 4, none⟩ = some (.int .i64 fi) := RA.out 4 _ rfl
    have c5 : W.cell? ⟨w.heap.size, 5, none⟩ = some (.string ky) := RA.out 5 _ rfl
    cases d0 : inB tk 1 999999
    · have HN : Hid (¬ RecP ⟨3, tk, ti, bg, fi, ky⟩) := Lib.hid (fun h => by simp_all [RecP])
      go_wp2_with (go_at_call 54; refine (inL_any _ _ _ _).mono ?_; rintro e w' ⟨rfl, rfl⟩)
      go_ret
      exact IsBB.no HN.out b0
    have HI : Hid (RecP ⟨3, tk, ti, bg, fi, ky⟩ ↔ (EntP ⟨ti, bg, fi, ky⟩ ∧ 1 ≤ ti)) := Lib.hid (by rw [ent_pos1]; simp_all [RecP, GRec.ent, and_comm])
    go_wp2_with (go_at_call 54; refine (inL_any _ _ _ _).mono ?_; rintro e w' ⟨rfl, rfl⟩)
    refine (l06Tiered_any ⟨3, tk, ti, bg, fi, ky⟩ 1 _ hk).mono ?_
    rintro e w1 ⟨b1, hb1, rfl, hB1⟩
    have b1w : Below w.heap.size w w1 := b0.trans (hB1.mono b0.size)
    have Hb := Lib.hid (hb1.trans HI.out.symm); clear hb1 hB1 HI c0 c1 c2 c3 c4 c5
    go_wp2
    go_ret
    exact ⟨b1, Hb.out, rfl, b1w⟩

set_option maxRecDepth 100000 in
set_option maxHeartbeats 4000000 in
theorem specRecordOK_4 (tk ti bg fi : Int) (ky : ByteArray) (w : World) (hk : ky.size ≤ 1048576) : Calls Tryz.prog 23 #[.agg #[.int .i64 4, .int .i64 tk, .int .i64 ti, .int .i64 bg, .int .i64 fi, .string ky]] w (IsBB (RecP ⟨4, tk, ti, bg, fi, ky⟩) w) := by
  go_enter Tryz.func23, Tryz.ntmps23
  go_upto_region 1 with fail
  go_cut [3] (fun p wx => p = .bool (plB ti bg fi) ∧ wx = w.alloc (.cells #[.int .i64 4, .int .i64 tk, .int .i64 ti, .int .i64 bg, .int .i64 fi, .string ky] 38))
  case first =>
    have e : plB ti bg fi = ((ti == 0) && ((bg == 0) && (fi == 0))) := rfl
    have E := Lib.hid e; clear e
    cases d1 : (ti == 0) <;> cases d2 : (bg == 0) <;> cases d3 : (fi == 0)
    all_goals (
      rw [d1, d2, d3] at E
      go_wp2
      go_meet
      exact ⟨by rw [E.out]; rfl, rfl⟩)
  case rest =>
    obtain ⟨rfl, rfl⟩ := hcut
    have HPL := Lib.hid (plB_iff ti bg fi)
    generalize plB ti bg fi = pl at *
    have b0 : Below w.heap.size w (w.alloc (.cells #[.int .i64 4, .int .i64 tk, .int .i64 ti, .int .i64 bg, .int .i64 fi, .string ky] 38)) := bal (Below.refl _ _) _
    have RA : Hid (RecAt (w.alloc (.cells #[.int .i64 4, .int .i64 tk, .int .i64 ti, .int .i64 bg, .int .i64 fi, .string ky] 38)) w.heap.size ⟨4, tk, ti, bg, fi, ky⟩) := Lib.hid (RecAt.new w ⟨4, tk, ti, bg, fi, ky⟩ 38)
    have s0 : w.heap.size < (w.alloc (.cells #[.int .i64 4, .int .i64 tk, .int .i64 ti, .int .i64 bg, .int .i64 fi, .string ky] 38)).heap.size := by simp
    generalize w.alloc (.cells #[.int .i64 4, .int .i64 tk, .int .i64 ti, .int .i64 bg, .int .i64 fi, .string ky] 38) = W at *
    have c0 : W.cell? ⟨w.heap.size, 0, none⟩ = some (.int .i64 4) := RA.out 0 _ rfl
    have c1 : W.cell? ⟨w.heap.size, 1, none⟩ = some (.int .i64 tk) := RA.out 1 _ rfl
    have c2 : W.cell? ⟨w.heap.size, 2, none⟩ = some (.int .i64 ti) := RA.out 2 _ rfl
    have c3 : W.cell? ⟨w.heap.size, 3, none⟩ = some (.int .i64 bg) := RA.out 3 _ rfl
    have c4 : W.cell? ⟨w.heap.size, 4, none⟩ = some (.int .i64 fi) := RA.out 4 _ rfl
    have c5 : W.cell? ⟨w.heap.size, 5, none⟩ = some (.string ky) := RA.out 5 _ rfl
    cases d0 : inB tk 1 999999
    · have HN : Hid (¬ RecP ⟨4, tk, ti, bg, fi, ky⟩) := Lib.hid (fun h => by simp_all [RecP])
      go_wp2_with (go_at_call 54; refine (inL_any _ _ _ _).mono ?_; rintro e w' ⟨rfl, rfl⟩)
      go_ret
      exact IsBB.no HN.out b0
    have HI : Hid (RecP ⟨4, tk, ti, bg, fi, ky⟩ ↔ (EntP ⟨ti, bg, fi, ky⟩ ∧ 0 ≤ ti)) := Lib.hid (by rw [ent_pos]; simp_all [RecP, GRec.ent])
    go_wp2_with (go_at_call 54; refine (inL_any _ _ _ _).mono ?_; rintro e w' ⟨rfl, rfl⟩)
    refine (l06Tiered_any ⟨4, tk, ti, bg, fi, ky⟩ 0 _ hk).mono ?_
    rintro e w1 ⟨b1, hb1, rfl, hB1⟩
    have b1w : Below w.heap.size w w1 := b0.trans (hB1.mono b0.size)
    have Hb := Lib.hid (hb1.trans HI.out.symm); clear hb1 hB1 HI c0 c1 c2 c3 c4 c5
    go_wp2
    go_ret
    exact ⟨b1, Hb.out, rfl, b1w⟩

set_option maxRecDepth 100000 in
set_option maxHeartbeats 4000000 in
theorem specRecordOK_5 (tk ti bg fi : Int) (ky : ByteArray) (w : World) (hk : ky.size ≤ 1048576) : Calls Tryz.prog 23 #[.agg #[.int .i64 5, .int .i64 tk, .int .i64 ti, .int .i64 bg, .int .i64 fi, .string ky]] w (IsBB (RecP ⟨5, tk, ti, bg, fi, ky⟩) w) := by
  go_enter Tryz.func23, Tryz.ntmps23
  go_upto_region 1 with fail
  go_cut [3] (fun p wx => p = .bool (plB ti bg fi) ∧ wx = w.alloc (.cells #[.int .i64 5, .int .i64 tk, .int .i64 ti, .int .i64 bg, .int .i64 fi, .string ky] 38))
  case first =>
    have e : plB ti bg fi = ((ti == 0) && ((bg == 0) && (fi == 0))) := rfl
    have E := Lib.hid e; clear e
    cases d1 : (ti == 0) <;> cases d2 : (bg == 0) <;> cases d3 : (fi == 0)
    all_goals (
      rw [d1, d2, d3] at E
      go_wp2
      go_meet
      exact ⟨by rw [E.out]; rfl, rfl⟩)
  case rest =>
    obtain ⟨rfl, rfl⟩ := hcut
    have HPL := Lib.hid (plB_iff ti bg fi)
    generalize plB ti bg fi = pl at *
    have b0 : Below w.heap.size w (w.alloc (.cells #[.int .i64 5, .int .i64 tk, .int .i64 ti, .int .i64 bg, .int .i64 fi, .string ky] 38)) := bal (Below.refl _ _) _
    have RA : Hid (RecAt (w.alloc (.cells #[.int .i64 5, .int .i64 tk, .int .i64 ti, .int .i64 bg, .int .i64 fi, .string ky] 38)) w.heap.size ⟨5, tk, ti, bg, fi, ky⟩) := Lib.hid (RecAt.new w ⟨5, tk, ti, bg, fi, ky⟩ 38)
    have s0 : w.heap.size < (w.alloc (.cells #[.int .i64 5, .int .i64 tk, .int .i64 ti, .int .i64 bg, .int .i64 fi, .string ky] 38)).heap.size := by simp
    generalize w.alloc (.cells #[.int .i64 5, .int .i64 tk, .int .i64 ti, .int .i64 bg, .int .i64 fi, .string ky] 38) = W at *
    have c0 : W.cell? ⟨w.heap.size, 0, none⟩ = some (.int .i64 5) := RA.out 0 _ rfl
    have c1 : W.cell? ⟨w.heap.size, 1, none⟩ = some (.int .i64 tk) := RA.out 1 _ rfl
    have c2 : W.cell? ⟨w.heap.size, 2, none⟩ = some (.int .i64 ti) := RA.out 2 _ rfl
    have c3 : W.cell? ⟨w.heap.size, 3, none⟩ = some (.int .i64 bg) := RA.out 3 _ rfl
    have c4 : W.cell? ⟨w.heap.size, 4, none⟩ = some (.int .i64 fi) := RA.out 4 _ rfl
    have c5 : W.cell? ⟨w.heap.size, 5, none⟩ = some (.string ky) := RA.out 5 _ rfl
    have HI : Hid (RecP ⟨5, tk, ti, bg, fi, ky⟩ ↔ ((tk == 0) = true ∧ pl = true ∧ AnyKey ky)) := Lib.hid (by rw [HPL.out]; simp [RecP, and_assoc])
    go_wp2_with fail
    refine (toKey_b ky _ hk).mono ?_
    rintro e w1 ⟨t, n, m, b1, rfl, hb1, hB1⟩
    have c1' : w1.cell? ⟨w.heap.size, 1, none⟩ = some (.int .i64 tk) := (hB1.cell s0).trans c1
    have b1w : Below w.heap.size w w1 := b0.trans (hB1.mono b0.size)
    have HJ : Hid (RecP ⟨5, tk, ti, bg, fi, ky⟩ ↔ ((tk == 0) = true ∧ pl = true ∧ b1 = true)) := Lib.hid (by rw [HI.out, hb1])
    clear hb1 hB1 HI c0 c1 c2 c3 c4 c5 HPL RA
    cases pl
    all_goals go_wp2
    all_goals go_ret
    all_goals refine ⟨_, Iff.trans ?_ HJ.out.symm, rfl, b1w⟩
    all_goals simp_all

set_option maxRecDepth 100000 in
set_option maxHeartbeats 4000000 in
theorem specRecordOK_any (r : GRec) (w : World) (hk : r.key.size ≤ 1048576) : Calls Tryz.prog 23 #[.agg #[.int .i64 r.kind, .int .i64 r.tok, .int .i64 r.tier, .int .i64 r.beg, .int .i64 r.fin, .string r.key]] w (IsBB (RecP r) w) := by
  obtain ⟨kd, tk, ti, bg, fi, ky⟩ := r
  dsimp only at *
  by_cases h15 : 1 ≤ kd ∧ kd ≤ 5
  rotate_left
  · have HN : Hid (¬ RecP ⟨kd, tk, ti, bg, fi, ky⟩) := Lib.hid (fun h => by simp only [RecP] at h; omega)
    have d1 : (kd == 1) = false := by simp; omega
    have d2 : (kd == 2) = false := by simp; omega
    have d3 : (kd == 3) = false := by simp; omega
    have d4 : (kd == 4) = false := by simp; omega
    have d5 : (kd == 5) = false := by simp; omega
    clear h15
    go_enter Tryz.func23, Tryz.ntmps23
    go_wp2
    all_goals go_ret
    all_goals exact IsBB.no HN.out (bal (Below.refl _ _) _)
  rcases (show kd = 1 ∨ kd = 2 ∨ kd = 3 ∨ kd = 4 ∨ kd = 5 by omega) with rfl | rfl | rfl | rfl | rfl
  · exact specRecordOK_1 tk ti bg fi ky w hk
  · exact specRecordOK_2 tk ti bg fi ky w hk
  · exact specRecordOK_3 tk ti bg fi ky w hk
  · exact specRecordOK_4 tk ti bg fi ky w hk
  · exact specRecordOK_5 tk ti bg fi ky w hk

end Go.Proofs.YtpfanmcjlfdaiaaGreatDoorR
