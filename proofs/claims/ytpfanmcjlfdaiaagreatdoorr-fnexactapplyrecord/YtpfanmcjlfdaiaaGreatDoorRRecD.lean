/-
  What a right entry and a right record are; contracts of what asks whether one is right, in both packages. Conditions: the program's table of paths is as its text lays it; a text's length.
-/
import Derived.Test.YtpfanmcjlfdaiaaGreatDoorRN9
import Derived.Test.YtpfanmcjlfdaiaaGreatDoorRRecC
namespace Go.Proofs.YtpfanmcjlfdaiaaGreatDoorR
open Go.ChangeShapes Go.WideShapes Go.ChangeAt Go.RowKit Go.Deep Go.Joins
set_option linter.unusedVariables false
set_option linter.unusedSimpArgs false

set_option maxRecDepth 100000 in
theorem recordOK_any (r : GRec) (w : World) (hk : r.key.size ≤ 2 ^ 63 - 1) (hp : Paths w) (hz : 1 < w.heap.size) : Calls Tryz.prog 30 #[.agg #[.int .i64 r.kind, .int .i64 r.tok, .int .i64 r.tier, .int .i64 r.beg, .int .i64 r.fin, .string r.key]] w (IsBB (RecP r) w) := by
  have HP : Hid (∀ w', Below w.heap.size w w' → Paths w' ∧ 1 < w'.heap.size) := Lib.hid (fun w' h => ⟨hp.below h hz, Nat.lt_of_lt_of_le hz h.size⟩)
  clear hp
  obtain ⟨kd, tk, ti, bg, fi, ky⟩ := r
  dsimp only at *
  by_cases h15 : 1 ≤ kd ∧ kd ≤ 5
  rotate_left
  · have HN : Hid (¬ RecP ⟨kd, tk, ti, bg, fi, ky⟩) := Lib.hid (fun h => by simp only [RecP] at h; omega)
    go_enter Tryz.func30, Tryz.ntmps30
    go_wp2_with fail
    refine (ruleOf_no kd h15 _).mono ?_
    rintro e w1 ⟨rfl, hb1⟩
    have b0 : Below w.heap.size w w1 := (bal (Below.refl _ _) _).trans (hb1.mono (by simp))
    clear hb1
    go_wp2
    go_ret
    exact IsBB.no HN.out (bal b0 _)
  rcases (show kd = 1 ∨ kd = 2 ∨ kd = 3 ∨ kd = 4 ∨ kd = 5 by omega) with rfl | rfl | rfl | rfl | rfl
  all_goals clear h15
  · have HI : Hid (RecP ⟨1, tk, ti, bg, fi, ky⟩ ↔ (tk = 0 ∧ ti = 0 ∧ EntP ⟨ti, bg, fi, ky⟩)) := Lib.hid (by simp [RecP, GRec.ent])
    go_enter Tryz.func30, Tryz.ntmps30
    go_wp2_with fail
    refine (ruleOf_1 _).mono ?_
    rintro e w1 ⟨rfl, hb1⟩
    obtain ⟨c0, c1, c2, c3, c4, c5⟩ : w1.cell? ⟨w.heap.size, 0, none⟩ = some (.int .i64 1) ∧ w1.cell? ⟨w.heap.size, 1, none⟩ = some (.int .i64 tk) ∧ w1.cell? ⟨w.heap.size, 2, none⟩ = some (.int .i64 ti) ∧ w1.cell? ⟨w.heap.size, 3, none⟩ = some (.int .i64 bg) ∧ w1.cell? ⟨w.heap.size, 4, none⟩ = some (.int .i64 fi) ∧ w1.cell? ⟨w.heap.size, 5, none⟩ = some (.string ky) := (RecAt.below (RecAt.new w ⟨1, tk, ti, bg, fi, ky⟩ 38) hb1 (by simp)).cells
    have b0 : Below w.heap.size w w1 := (bal (Below.refl _ _) _).trans (hb1.mono (by simp))
    have hx : w.heap.size < w1.heap.size := by have := hb1.size; simp at this; omega
    clear hb1
    go_wp2_with fail
    have b1 : Below w.heap.size w (w1.alloc (.cells #[.func (.func 93) #[] #[], .func (.func 94) #[] #[], .func (.func 95) #[] #[]] 116)) := bal b0 _
    refine (rightAdd_any ⟨1, tk, ti, bg, fi, ky⟩ _ hk (HP.out _ b1).1 (HP.out _ b1).2).mono ?_
    rintro e w2 ⟨b, hb, rfl, hb2⟩
    have b2 := bnext b1 hb2
    have Hb := Lib.hid (hb.trans HI.out.symm); clear hb hb2 HI
    go_wp2
    go_ret
    exact ⟨b, Hb.out, rfl, b2⟩
  · have HI : Hid (RecP ⟨2, tk, ti, bg, fi, ky⟩ ↔ (inB tk 1 999999 = true ∧ ti = 0 ∧ bg = 0 ∧ fi = 0 ∧ ky = ⟨#[]⟩)) := Lib.hid (by simp [RecP, GRec.ent])
    go_enter Tryz.func30, Tryz.ntmps30
    go_wp2_with fail
    refine (ruleOf_2 _).mono ?_
    rintro e w1 ⟨rfl, hb1⟩
    obtain ⟨c0, c1, c2, c3, c4, c5⟩ : w1.cell? ⟨w.heap.size, 0, none⟩ = some (.int .i64 2) ∧ w1.cell? ⟨w.heap.size, 1, none⟩ = some (.int .i64 tk) ∧ w1.cell? ⟨w.heap.size, 2, none⟩ = some (.int .i64 ti) ∧ w1.cell? ⟨w.heap.size, 3, none⟩ = some (.int .i64 bg) ∧ w1.cell? ⟨w.heap.size, 4, none⟩ = some (.int .i64 fi) ∧ w1.cell? ⟨w.heap.size, 5, none⟩ = some (.string ky) := (RecAt.below (RecAt.new w ⟨2, tk, ti, bg, fi, ky⟩ 38) hb1 (by simp)).cells
    have b0 : Below w.heap.size w w1 := (bal (Below.refl _ _) _).trans (hb1.mono (by simp))
    have hx : w.heap.size < w1.heap.size := by have := hb1.size; simp at this; omega
    clear hb1
    go_wp2_with fail
    have b1 : Below w.heap.size w (w1.alloc (.cells #[.func (.func 96) #[] #[], .func (.func 97) #[] #[], .func (.func 98) #[] #[]] 116)) := bal b0 _
    refine (rightClaim_any ⟨2, tk, ti, bg, fi, ky⟩ _).mono ?_
    rintro e w2 ⟨b, hb, rfl, hb2⟩
    have b2 := bnext b1 hb2
    have Hb := Lib.hid (hb.trans HI.out.symm); clear hb hb2 HI
    go_wp2
    go_ret
    exact ⟨b, Hb.out, rfl, b2⟩
  · have HI : Hid (RecP ⟨3, tk, ti, bg, fi, ky⟩ ↔ (inB tk 1 999999 = true ∧ ti ≠ 0 ∧ EntP ⟨ti, bg, fi, ky⟩)) := Lib.hid (by simp [RecP, GRec.ent])
    go_enter Tryz.func30, Tryz.ntmps30
    go_wp2_with fail
    refine (ruleOf_3 _).mono ?_
    rintro e w1 ⟨rfl, hb1⟩
    obtain ⟨c0, c1, c2, c3, c4, c5⟩ : w1.cell? ⟨w.heap.size, 0, none⟩ = some (.int .i64 3) ∧ w1.cell? ⟨w.heap.size, 1, none⟩ = some (.int .i64 tk) ∧ w1.cell? ⟨w.heap.size, 2, none⟩ = some (.int .i64 ti) ∧ w1.cell? ⟨w.heap.size, 3, none⟩ = some (.int .i64 bg) ∧ w1.cell? ⟨w.heap.size, 4, none⟩ = some (.int .i64 fi) ∧ w1.cell? ⟨w.heap.size, 5, none⟩ = some (.string ky) := (RecAt.below (RecAt.new w ⟨3, tk, ti, bg, fi, ky⟩ 38) hb1 (by simp)).cells
    have b0 : Below w.heap.size w w1 := (bal (Below.refl _ _) _).trans (hb1.mono (by simp))
    have hx : w.heap.size < w1.heap.size := by have := hb1.size; simp at this; omega
    clear hb1
    go_wp2_with fail
    have b1 : Below w.heap.size w (w1.alloc (.cells #[.func (.func 99) #[] #[], .func (.func 100) #[] #[], .func (.func 95) #[] #[]] 116)) := bal b0 _
    refine (rightPublish_any ⟨3, tk, ti, bg, fi, ky⟩ _ hk (HP.out _ b1).1 (HP.out _ b1).2).mono ?_
    rintro e w2 ⟨b, hb, rfl, hb2⟩
    have b2 := bnext b1 hb2
    have Hb := Lib.hid (hb.trans HI.out.symm); clear hb hb2 HI
    go_wp2
    go_ret
    exact ⟨b, Hb.out, rfl, b2⟩
  · have HI : Hid (RecP ⟨4, tk, ti, bg, fi, ky⟩ ↔ (inB tk 1 999999 = true ∧ EntP ⟨ti, bg, fi, ky⟩)) := Lib.hid (by simp [RecP, GRec.ent])
    go_enter Tryz.func30, Tryz.ntmps30
    go_wp2_with fail
    refine (ruleOf_4 _).mono ?_
    rintro e w1 ⟨rfl, hb1⟩
    obtain ⟨c0, c1, c2, c3, c4, c5⟩ : w1.cell? ⟨w.heap.size, 0, none⟩ = some (.int .i64 4) ∧ w1.cell? ⟨w.heap.size, 1, none⟩ = some (.int .i64 tk) ∧ w1.cell? ⟨w.heap.size, 2, none⟩ = some (.int .i64 ti) ∧ w1.cell? ⟨w.heap.size, 3, none⟩ = some (.int .i64 bg) ∧ w1.cell? ⟨w.heap.size, 4, none⟩ = some (.int .i64 fi) ∧ w1.cell? ⟨w.heap.size, 5, none⟩ = some (.string ky) := (RecAt.below (RecAt.new w ⟨4, tk, ti, bg, fi, ky⟩ 38) hb1 (by simp)).cells
    have b0 : Below w.heap.size w w1 := (bal (Below.refl _ _) _).trans (hb1.mono (by simp))
    have hx : w.heap.size < w1.heap.size := by have := hb1.size; simp at this; omega
    clear hb1
    go_wp2_with fail
    have b1 : Below w.heap.size w (w1.alloc (.cells #[.func (.func 101) #[] #[], .func (.func 102) #[] #[], .func (.func 103) #[] #[]] 116)) := bal b0 _
    refine (rightRetire_any ⟨4, tk, ti, bg, fi, ky⟩ _ hk (HP.out _ b1).1 (HP.out _ b1).2).mono ?_
    rintro e w2 ⟨b, hb, rfl, hb2⟩
    have b2 := bnext b1 hb2
    have Hb := Lib.hid (hb.trans HI.out.symm); clear hb hb2 HI
    go_wp2
    go_ret
    exact ⟨b, Hb.out, rfl, b2⟩
  · have HI : Hid (RecP ⟨5, tk, ti, bg, fi, ky⟩ ↔ (tk = 0 ∧ ti = 0 ∧ bg = 0 ∧ fi = 0 ∧ AnyKey ky)) := Lib.hid (by simp [RecP, GRec.ent])
    go_enter Tryz.func30, Tryz.ntmps30
    go_wp2_with fail
    refine (ruleOf_5 _).mono ?_
    rintro e w1 ⟨rfl, hb1⟩
    obtain ⟨c0, c1, c2, c3, c4, c5⟩ : w1.cell? ⟨w.heap.size, 0, none⟩ = some (.int .i64 5) ∧ w1.cell? ⟨w.heap.size, 1, none⟩ = some (.int .i64 tk) ∧ w1.cell? ⟨w.heap.size, 2, none⟩ = some (.int .i64 ti) ∧ w1.cell? ⟨w.heap.size, 3, none⟩ = some (.int .i64 bg) ∧ w1.cell? ⟨w.heap.size, 4, none⟩ = some (.int .i64 fi) ∧ w1.cell? ⟨w.heap.size, 5, none⟩ = some (.string ky) := (RecAt.below (RecAt.new w ⟨5, tk, ti, bg, fi, ky⟩ 38) hb1 (by simp)).cells
    have b0 : Below w.heap.size w w1 := (bal (Below.refl _ _) _).trans (hb1.mono (by simp))
    have hx : w.heap.size < w1.heap.size := by have := hb1.size; simp at this; omega
    clear hb1
    go_wp2_with fail
    have b1 : Below w.heap.size w (w1.alloc (.cells #[.func (.func 104) #[] #[], .func (.func 105) #[] #[], .func (.func 106) #[] #[]] 116)) := bal b0 _
    refine (rightPurge_any ⟨5, tk, ti, bg, fi, ky⟩ _ hk (HP.out _ b1).1 (HP.out _ b1).2).mono ?_
    rintro e w2 ⟨b, hb, rfl, hb2⟩
    have b2 := bnext b1 hb2
    have Hb := Lib.hid (hb.trans HI.out.symm); clear hb hb2 HI
    go_wp2
    go_ret
    exact ⟨b, Hb.out, rfl, b2⟩

end Go.Proofs.YtpfanmcjlfdaiaaGreatDoorR
