/-
  Contracts of the model's l03Key and DataKey. No conditions.
-/
import Derived.Test.YtpfanmcjlfdaiaaGreatDoorRN6
import Derived.Deep.RegionWith
namespace Go.Proofs.YtpfanmcjlfdaiaaGreatDoorR
open Go.ChangeShapes Go.WideShapes Go.ChangeAt Go.RowKit
set_option linter.unusedVariables false
set_option linter.unusedSimpArgs false

set_option maxRecDepth 100000 in
set_option maxHeartbeats 4000000 in
theorem l03Key_0 (n m : Nat) (hn : n ≤ 999999) (hm : m ≤ 999999) (w : World) : Calls Tryz.prog 88 #[.int .i64 0, .int .i64 n, .int .i64 m] w fun e w' => e = .returned (.string (keyT 0 n m)) ∧ Below w.heap.size w w' := by
  have Wn := Lib.hid (wide_any n hn)
  have Wm := Lib.hid (wide_any m hm)
  have HC := Lib.hid (fun (W w1 : World) => six_new W w1 0 ⟨#[114, 97, 119]⟩ ⟨#[114, 97, 119]⟩ ⟨#[116, 49]⟩ ⟨#[116, 50]⟩ 9 rfl)
  have HD := Lib.hid (fun (W w1 : World) => six_newD W w1 0 ⟨#[114, 97, 119]⟩ ⟨#[114, 97, 119]⟩ ⟨#[116, 49]⟩ ⟨#[116, 50]⟩ 9 rfl)
  have E := Lib.hid (show keyT 0 n m = ⟨#[114, 97, 119]⟩ ++ ⟨#[47]⟩ ++ sixT n ++ ⟨#[45]⟩ ++ sixT m from by unfold keyT pathT; rfl)
  have s1 := sixT_size n
  have s2 := sixT_size m
  generalize sixT n = N at *
  generalize sixT m = M at *
  go_enter Tryz.func88, Tryz.ntmps88
  go_wp2_with fail
  have K := Lib.hid ((Below.refl w.heap.size w).drew)
  go_region_with (go_at_call 109; (first | (with_reducible (refine (Wn.out _).mono ?_)) | (with_reducible (refine (Wm.out _).mono ?_))); rintro e w7 ⟨rfl, hb7⟩; (first | (with_reducible (replace K := Lib.hid (six_bD _ _ _ hb7))) | (with_reducible (replace K := Lib.hid (bnext K.out hb7))) | (with_reducible (replace K := Lib.hid (bnext (bal K.out _) hb7)))); (first | (with_reducible (have hc := HD.out _ _ hb7; have hlt := six_ltD _ _ _ hb7)) | (with_reducible (have hc := HC.out _ _ hb7; have hlt := six_lt _ _ _ hb7)) | (with_reducible (have hc' := (hb7.cell hlt).trans hc)) | skip); clear hb7)
  all_goals clear HC HD Wn Wm
  all_goals go_wp2
  all_goals go_ret
  all_goals refine ⟨by rw [E.out]; rfl, ?_⟩
  all_goals first | exact K.out | exact bal K.out _

set_option maxRecDepth 100000 in
set_option maxHeartbeats 4000000 in
theorem l03Key_1 (n m : Nat) (hn : n ≤ 999999) (hm : m ≤ 999999) (w : World) : Calls Tryz.prog 88 #[.int .i64 1, .int .i64 n, .int .i64 m] w fun e w' => e = .returned (.string (keyT 1 n m)) ∧ Below w.heap.size w w' := by
  have Wn := Lib.hid (wide_any n hn)
  have Wm := Lib.hid (wide_any m hm)
  have HC := Lib.hid (fun (W w1 : World) => six_new W w1 1 ⟨#[116, 49]⟩ ⟨#[114, 97, 119]⟩ ⟨#[116, 49]⟩ ⟨#[116, 50]⟩ 9 rfl)
  have HD := Lib.hid (fun (W w1 : World) => six_newD W w1 1 ⟨#[116, 49]⟩ ⟨#[114, 97, 119]⟩ ⟨#[116, 49]⟩ ⟨#[116, 50]⟩ 9 rfl)
  have E := Lib.hid (show keyT 1 n m = ⟨#[116, 49]⟩ ++ ⟨#[47]⟩ ++ sixT n ++ ⟨#[45]⟩ ++ sixT m from by unfold keyT pathT; rfl)
  have s1 := sixT_size n
  have s2 := sixT_size m
  generalize sixT n = N at *
  generalize sixT m = M at *
  go_enter Tryz.func88, Tryz.ntmps88
  go_wp2_with fail
  have K := Lib.hid ((Below.refl w.heap.size w).drew)
  go_region_with (go_at_call 109; (first | (with_reducible (refine (Wn.out _).mono ?_)) | (with_reducible (refine (Wm.out _).mono ?_))); rintro e w7 ⟨rfl, hb7⟩; (first | (with_reducible (replace K := Lib.hid (six_bD _ _ _ hb7))) | (with_reducible (replace K := Lib.hid (bnext K.out hb7))) | (with_reducible (replace K := Lib.hid (bnext (bal K.out _) hb7)))); (first | (with_reducible (have hc := HD.out _ _ hb7; have hlt := six_ltD _ _ _ hb7)) | (with_reducible (have hc := HC.out _ _ hb7; have hlt := six_lt _ _ _ hb7)) | (with_reducible (have hc' := (hb7.cell hlt).trans hc)) | skip); clear hb7)
  all_goals clear HC HD Wn Wm
  all_goals go_wp2
  all_goals go_ret
  all_goals refine ⟨by rw [E.out]; rfl, ?_⟩
  all_goals first | exact K.out | exact bal K.out _

set_option maxRecDepth 100000 in
set_option maxHeartbeats 4000000 in
theorem l03Key_2 (n m : Nat) (hn : n ≤ 999999) (hm : m ≤ 999999) (w : World) : Calls Tryz.prog 88 #[.int .i64 2, .int .i64 n, .int .i64 m] w fun e w' => e = .returned (.string (keyT 2 n m)) ∧ Below w.heap.size w w' := by
  have Wn := Lib.hid (wide_any n hn)
  have Wm := Lib.hid (wide_any m hm)
  have HC := Lib.hid (fun (W w1 : World) => six_new W w1 2 ⟨#[116, 50]⟩ ⟨#[114, 97, 119]⟩ ⟨#[116, 49]⟩ ⟨#[116, 50]⟩ 9 rfl)
  have HD := Lib.hid (fun (W w1 : World) => six_newD W w1 2 ⟨#[116, 50]⟩ ⟨#[114, 97, 119]⟩ ⟨#[116, 49]⟩ ⟨#[116, 50]⟩ 9 rfl)
  have E := Lib.hid (show keyT 2 n m = ⟨#[116, 50]⟩ ++ ⟨#[47]⟩ ++ sixT n ++ ⟨#[45]⟩ ++ sixT m from by unfold keyT pathT; rfl)
  have s1 := sixT_size n
  have s2 := sixT_size m
  generalize sixT n = N at *
  generalize sixT m = M at *
  go_enter Tryz.func88, Tryz.ntmps88
  go_wp2_with fail
  have K := Lib.hid ((Below.refl w.heap.size w).drew)
  go_region_with (go_at_call 109; (first | (with_reducible (refine (Wn.out _).mono ?_)) | (with_reducible (refine (Wm.out _).mono ?_))); rintro e w7 ⟨rfl, hb7⟩; (first | (with_reducible (replace K := Lib.hid (six_bD _ _ _ hb7))) | (with_reducible (replace K := Lib.hid (bnext K.out hb7))) | (with_reducible (replace K := Lib.hid (bnext (bal K.out _) hb7)))); (first | (with_reducible (have hc := HD.out _ _ hb7; have hlt := six_ltD _ _ _ hb7)) | (with_reducible (have hc := HC.out _ _ hb7; have hlt := six_lt _ _ _ hb7)) | (with_reducible (have hc' := (hb7.cell hlt).trans hc)) | skip); clear hb7)
  all_goals clear HC HD Wn Wm
  all_goals go_wp2
  all_goals go_ret
  all_goals refine ⟨by rw [E.out]; rfl, ?_⟩
  all_goals first | exact K.out | exact bal K.out _

theorem l03Key_any (t n m : Int) (h : KeyNP t n m) (w : World) : Calls Tryz.prog 88 #[.int .i64 t, .int .i64 n, .int .i64 m] w fun e w' => e = .returned (.string (keyT t.toNat n.toNat m.toNat)) ∧ Below w.heap.size w w' := by
  obtain ⟨h1, h2, h3, h4, h5, h6⟩ := h
  obtain ⟨a, rfl⟩ := Int.eq_ofNat_of_zero_le h3
  obtain ⟨b, rfl⟩ := Int.eq_ofNat_of_zero_le h5
  rcases (show t = 0 ∨ t = 1 ∨ t = 2 by omega) with rfl | rfl | rfl
  · exact l03Key_0 a b (by omega) (by omega) w
  · exact l03Key_1 a b (by omega) (by omega) w
  · exact l03Key_2 a b (by omega) (by omega) w

end Go.Proofs.YtpfanmcjlfdaiaaGreatDoorR
