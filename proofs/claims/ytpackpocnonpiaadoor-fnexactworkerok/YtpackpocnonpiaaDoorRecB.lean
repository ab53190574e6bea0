/-
  What a right entry and a right record are; contracts of what asks whether one is right, in both packages. Conditions: the program's table of paths is as its text lays it; a text's length.
-/
import Derived.Test.YtpackpocnonpiaaDoorRecI
namespace Go.Proofs.YtpackpocnonpiaaDoor
open Go.ChangeShapes Go.WideShapes Go.ChangeAt Go.RowKit Go.Deep Go.Joins
set_option linter.unusedVariables false
set_option linter.unusedSimpArgs false

set_option maxRecDepth 100000 in
theorem rightAdd_any (r : GRec) (w : World) (hk : r.key.size ≤ 2 ^ 63 - 1) (hp : Paths w) (hz : 1 < w.heap.size) : Calls Tryd.prog 52 #[.agg #[.int .i64 r.kind, .int .i64 r.tok, .int .i64 r.tier, .int .i64 r.beg, .int .i64 r.fin, .string r.key]] w (IsBB (r.tok = 0 ∧ r.tier = 0 ∧ EntP r.ent) w) := by
  have HP : Hid (∀ w', Below w.heap.size w w' → Paths w' ∧ 1 < w'.heap.size) := Lib.hid (fun w' h => ⟨hp.below h hz, Nat.lt_of_lt_of_le hz h.size⟩)
  clear hp
  obtain ⟨P, hP⟩ : ∃ P, P = (r.tok = 0 ∧ r.tier = 0 ∧ EntP r.ent) := ⟨_, rfl⟩
  rw [← hP]
  have HPP := Lib.hid hP; clear hP
  cases d0 : (r.tok == 0)
  · have HN : Hid (¬ P) := Lib.hid (by rw [HPP.out]; intro h; have := h.1; simp_all)
    go_enter Tryd.func52, Tryd.ntmps52
    go_wp2_with fail
    go_ret
    exact IsBB.no HN.out (bal (Below.refl _ _) _)
  cases d1 : (r.tier == 0)
  · have HN : Hid (¬ P) := Lib.hid (by rw [HPP.out]; intro h; have := h.2.1; simp_all)
    go_enter Tryd.func52, Tryd.ntmps52
    go_wp2_with fail
    go_ret
    exact IsBB.no HN.out (bal (Below.refl _ _) _)
  have HI : Hid (P ↔ EntP r.ent) := Lib.hid (by rw [HPP.out]; simp_all)
  go_enter Tryd.func52, Tryd.ntmps52
  go_wp2_with fail
  refine (entry_any r _).mono ?_
  rintro e w1 ⟨rfl, hb1⟩
  have b1 : Below w.heap.size w w1 := bnext (bal (Below.refl _ _) _) hb1
  clear hb1
  go_wp2_with fail
  refine (entRight_any r.ent w1 hk (HP.out _ b1).1 (HP.out _ b1).2).mono ?_
  rintro e w2 ⟨b, hb, rfl, hb2⟩
  have b2 := bnext b1 hb2
  have Hb := Lib.hid (hb.trans HI.out.symm); clear hb hb2 HI
  go_wp2
  go_ret
  exact ⟨b, Hb.out, rfl, b2⟩

set_option maxRecDepth 100000 in
theorem rightPublish_any (r : GRec) (w : World) (hk : r.key.size ≤ 2 ^ 63 - 1) (hp : Paths w) (hz : 1 < w.heap.size) : Calls Tryd.prog 58 #[.agg #[.int .i64 r.kind, .int .i64 r.tok, .int .i64 r.tier, .int .i64 r.beg, .int .i64 r.fin, .string r.key]] w (IsBB (inB r.tok 1 999999 = true ∧ r.tier ≠ 0 ∧ EntP r.ent) w) := by
  have HP : Hid (∀ w', Below w.heap.size w w' → Paths w' ∧ 1 < w'.heap.size) := Lib.hid (fun w' h => ⟨hp.below h hz, Nat.lt_of_lt_of_le hz h.size⟩)
  clear hp
  obtain ⟨P, hP⟩ : ∃ P, P = (inB r.tok 1 999999 = true ∧ r.tier ≠ 0 ∧ EntP r.ent) := ⟨_, rfl⟩
  rw [← hP]
  have HPP := Lib.hid hP; clear hP
  cases d0 : inB r.tok 1 999999
  · have HN : Hid (¬ P) := Lib.hid (by rw [HPP.out]; intro h; have := h.1; simp_all)
    go_enter Tryd.func58, Tryd.ntmps58
    go_wp2_with (go_at_call 39; refine (isToken_any _ _).mono ?_; rintro e w' ⟨rfl, rfl⟩)
    go_ret
    exact IsBB.no HN.out (bal (Below.refl _ _) _)
  cases d1 : (r.tier != 0)
  · have HN : Hid (¬ P) := Lib.hid (by rw [HPP.out]; intro h; have := h.2.1; simp_all)
    go_enter Tryd.func58, Tryd.ntmps58
    go_wp2_with (go_at_call 39; refine (isToken_any _ _).mono ?_; rintro e w' ⟨rfl, rfl⟩)
    go_ret
    exact IsBB.no HN.out (bal (Below.refl _ _) _)
  have HI : Hid (P ↔ EntP r.ent) := Lib.hid (by rw [HPP.out]; simp_all)
  go_enter Tryd.func58, Tryd.ntmps58
  go_wp2_with (go_at_call 39; refine (isToken_any _ _).mono ?_; rintro e w' ⟨rfl, rfl⟩)
  refine (entry_any r _).mono ?_
  rintro e w1 ⟨rfl, hb1⟩
  have b1 : Below w.heap.size w w1 := bnext (bal (Below.refl _ _) _) hb1
  clear hb1
  go_wp2_with fail
  refine (entRight_any r.ent w1 hk (HP.out _ b1).1 (HP.out _ b1).2).mono ?_
  rintro e w2 ⟨b, hb, rfl, hb2⟩
  have b2 := bnext b1 hb2
  have Hb := Lib.hid (hb.trans HI.out.symm); clear hb hb2 HI
  go_wp2
  go_ret
  exact ⟨b, Hb.out, rfl, b2⟩

set_option maxRecDepth 100000 in
theorem rightRetire_any (r : GRec) (w : World) (hk : r.key.size ≤ 2 ^ 63 - 1) (hp : Paths w) (hz : 1 < w.heap.size) : Calls Tryd.prog 60 #[.agg #[.int .i64 r.kind, .int .i64 r.tok, .int .i64 r.tier, .int .i64 r.beg, .int .i64 r.fin, .string r.key]] w (IsBB (inB r.tok 1 999999 = true ∧ EntP r.ent) w) := by
  have HP : Hid (∀ w', Below w.heap.size w w' → Paths w' ∧ 1 < w'.heap.size) := Lib.hid (fun w' h => ⟨hp.below h hz, Nat.lt_of_lt_of_le hz h.size⟩)
  clear hp
  obtain ⟨P, hP⟩ : ∃ P, P = (inB r.tok 1 999999 = true ∧ EntP r.ent) := ⟨_, rfl⟩
  rw [← hP]
  have HPP := Lib.hid hP; clear hP
  cases d0 : inB r.tok 1 999999
  · have HN : Hid (¬ P) := Lib.hid (by rw [HPP.out]; intro h; have := h.1; simp_all)
    go_enter Tryd.func60, Tryd.ntmps60
    go_wp2_with (go_at_call 39; refine (isToken_any _ _).mono ?_; rintro e w' ⟨rfl, rfl⟩)
    go_ret
    exact IsBB.no HN.out (bal (Below.refl _ _) _)
  have HI : Hid (P ↔ EntP r.ent) := Lib.hid (by rw [HPP.out]; simp_all)
  go_enter Tryd.func60, Tryd.ntmps60
  go_wp2_with (go_at_call 39; refine (isToken_any _ _).mono ?_; rintro e w' ⟨rfl, rfl⟩)
  refine (entry_any r _).mono ?_
  rintro e w1 ⟨rfl, hb1⟩
  have b1 : Below w.heap.size w w1 := bnext (bal (Below.refl _ _) _) hb1
  clear hb1
  go_wp2_with fail
  refine (entRight_any r.ent w1 hk (HP.out _ b1).1 (HP.out _ b1).2).mono ?_
  rintro e w2 ⟨b, hb, rfl, hb2⟩
  have b2 := bnext b1 hb2
  have Hb := Lib.hid (hb.trans HI.out.symm); clear hb hb2 HI
  go_wp2
  go_ret
  exact ⟨b, Hb.out, rfl, b2⟩

theorem rightClaim_any (r : GRec) (w : World) : Calls Tryd.prog 55 #[.agg #[.int .i64 r.kind, .int .i64 r.tok, .int .i64 r.tier, .int .i64 r.beg, .int .i64 r.fin, .string r.key]] w (IsBB (inB r.tok 1 999999 = true ∧ r.tier = 0 ∧ r.beg = 0 ∧ r.fin = 0 ∧ r.key = ⟨#[]⟩) w) := by
  have HI : Hid ((inB r.tok 1 999999 = true ∧ r.tier = 0 ∧ r.beg = 0 ∧ r.fin = 0 ∧ r.key = ⟨#[]⟩) ↔ (inB r.tok 1 999999 = true ∧ (r.tier == 0) = true ∧ (r.beg == 0) = true ∧ (r.fin == 0) = true ∧ (r.key.toList == (⟨#[]⟩ : ByteArray).toList) = true)) := Lib.hid (by rw [nil_list]; simp)
  go_enter Tryd.func55, Tryd.ntmps55
  go_wp2_with (go_at_call 39; refine (isToken_any _ _).mono ?_; rintro e w' ⟨rfl, rfl⟩)
  all_goals go_ret
  all_goals refine ⟨_, Iff.trans ?_ HI.out.symm, rfl, bal (Below.refl _ _) _⟩
  all_goals simp_all

theorem rightPurge_any (r : GRec) (w : World) (hk : r.key.size ≤ 2 ^ 63 - 1) (hp : Paths w) (hz : 1 < w.heap.size) : Calls Tryd.prog 63 #[.agg #[.int .i64 r.kind, .int .i64 r.tok, .int .i64 r.tier, .int .i64 r.beg, .int .i64 r.fin, .string r.key]] w (IsBB (r.tok = 0 ∧ r.tier = 0 ∧ r.beg = 0 ∧ r.fin = 0 ∧ AnyKey r.key) w) := by
  have HI : Hid ((r.tok = 0 ∧ r.tier = 0 ∧ r.beg = 0 ∧ r.fin = 0 ∧ AnyKey r.key) ↔ (AnyKey r.key ∧ (r.tok == 0) = true ∧ (r.tier == 0) = true ∧ (r.beg == 0) = true ∧ (r.fin == 0) = true)) := Lib.hid (by simp only [beq_iff_eq]; constructor <;> (rintro ⟨a, b, c, d, e⟩; exact ⟨by assumption, by assumption, by assumption, by assumption, by assumption⟩))
  have Hp := Lib.hid hp; clear hp
  go_enter Tryd.func63, Tryd.ntmps63
  go_wp2_with fail
  refine (isDataKey_any r.key _ hk (Hp.out.below (bal (Below.refl _ _) _) hz) (by simp <;> omega)).mono ?_
  rintro e w1 ⟨b, hb, rfl, hB⟩
  obtain ⟨c0, c1, c2, c3, c4, c5⟩ : w1.cell? ⟨w.heap.size, 0, none⟩ = some (.int .i64 r.kind) ∧ w1.cell? ⟨w.heap.size, 1, none⟩ = some (.int .i64 r.tok) ∧ w1.cell? ⟨w.heap.size, 2, none⟩ = some (.int .i64 r.tier) ∧ w1.cell? ⟨w.heap.size, 3, none⟩ = some (.int .i64 r.beg) ∧ w1.cell? ⟨w.heap.size, 4, none⟩ = some (.int .i64 r.fin) ∧ w1.cell? ⟨w.heap.size, 5, none⟩ = some (.string r.key) := (RecAt.below (RecAt.new w r 31) hB (by simp)).cells
  have hbw : Below w.heap.size w w1 := (bal (Below.refl _ _) _).trans (hB.mono (by simp))
  clear hB
  cases b
  · have HN : Hid (¬ AnyKey r.key) := Lib.hid (fun h => by have := hb.2 h; cases this)
    clear hb
    go_wp2
    go_ret
    exact IsBB.no (fun h => HN.out h.2.2.2.2) hbw
  · have HY : Hid ((r.tok = 0 ∧ r.tier = 0 ∧ r.beg = 0 ∧ r.fin = 0 ∧ AnyKey r.key) ↔ ((r.tok == 0) = true ∧ (r.tier == 0) = true ∧ (r.beg == 0) = true ∧ (r.fin == 0) = true)) := Lib.hid (by simp [hb.1 rfl])
    clear hb HI
    go_wp2
    all_goals go_ret
    all_goals refine ⟨_, Iff.trans ?_ HY.out.symm, rfl, hbw⟩
    all_goals simp_all

end Go.Proofs.YtpackpocnonpiaaDoor
