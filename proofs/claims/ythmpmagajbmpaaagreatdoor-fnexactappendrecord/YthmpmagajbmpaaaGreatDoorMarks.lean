/-
  Contracts of the laws' marking helpers: mark writes its marks into every element of a slice of objects, held finds them there.
-/
import Derived.Test.YthmpmagajbmpaaaGreatDoorObjs
namespace Go.Proofs.YthmpmagajbmpaaaGreatDoor
open Go.ChangeShapes Go.WideShapes Go.ChangeAt Go.RowKit
set_option linter.unusedVariables false

def mkObj (k : Int) : GObj := ⟨mtx k, k + 1, mtx (k + 2)⟩

def marks (k : Int) (n : Nat) : List GObj := (List.range n).map fun i : Nat => mkObj (k + 3 * (i : Int))

theorem length_marks (k : Int) (n : Nat) : (marks k n).length = n := by simp [marks]

theorem marks_succ (k : Int) (n : Nat) : marks k (n + 1) = marks k n ++ [mkObj (k + 3 * (n : Int))] := by simp [marks, List.range_succ]

theorem marks_at (k : Int) (n i : Nat) (h : i < (marks k n).length) : (marks k n)[i] = mkObj (k + 3 * (i : Int)) := by simp [marks]

theorem vals_length (o : GObj) : o.vals.length = 3 := rfl

set_option maxRecDepth 100000 in
theorem markObjectS_any (A : Option Addr) (c : Nat) (k : Int) (xs : List GObj) (B : Nat) (w : World) (h : ObjsAt w B A xs) (hf : Free w A) (hB : B ≤ w.heap.size) (hl : xs.length ≤ 16777216) (hk0 : 0 ≤ k) (hk : k ≤ 16777216) :
    Calls Tryz.prog 55 #[.slice A xs.length c, .int .i64 k] w fun e w' => e = .returned (.int .i64 (k + 3 * xs.length)) ∧ ObjsAt w' B A (marks k xs.length) ∧ w.grownBy w' (blk A) ∧ Free w' A := by
  have H := Lib.hid h; clear h
  have Hf := Lib.hid hf; clear hf
  go_enter Tryz.func55, Tryz.ntmps55
  go_wp2_with fail
  go_loopw [1, 5] (fun t i wr => ∃ j : Nat, j ≤ xs.length ∧ i = .int .i64 j ∧ t = .int .i64 (k + 3 * j) ∧ Hid (ObjsAt wr B A (marks k j ++ xs.drop j)) ∧ w.grownBy wr (blk A) ∧ Hid (Free wr A)) (fun _ i _ => xs.length - (intOf i).toNat)
  case atStart => exact ⟨0, by omega, rfl, by simp, Lib.hid (by simpa [marks] using H.out), World.grownBy.refl _ _, Hf⟩
  case round =>
    obtain ⟨j, hj, rfl, rfl, Hr, hg, Hfr⟩ := hrel
    by_cases hlt : j < xs.length
    · have hjl : j < (marks k j ++ xs.drop j).length := by simp [length_marks]; omega
      obtain ⟨b, off, rfl, hb, p0, p1, p2⟩ := ObjsAt.obj Hr.out hjl
      have hbs : b < wr.heap.size := by have := hg.size; omega
      obtain ⟨v0, q0⟩ : ∃ v, wr.cell? ⟨b, off + j * 3, none⟩ = some v := ⟨_, p0⟩
      obtain ⟨v1, q1⟩ : ∃ v, wr.cell? ⟨b, off + j * 3 + 1, none⟩ = some v := ⟨_, p1⟩
      obtain ⟨v2, q2⟩ : ∃ v, wr.cell? ⟨b, off + j * 3 + 2, none⟩ = some v := ⟨_, p2⟩
      clear p0 p1 p2
      have fz : ∀ i, wr.frozen? ⟨b, i, none⟩ = false := Hfr.out b rfl
      have Fz := Lib.hid fz; clear fz
      go_wp2_with fail
      refine (markText_any _ _ (by omega)).mono ?_
      rintro e w1 ⟨rfl, hb1⟩
      have c0 : w1.cell? ⟨b, off + j * 3, none⟩ = some v0 := (hb1.cell hbs).trans q0
      have c1 : w1.cell? ⟨b, off + j * 3 + 1, none⟩ = some v1 := (hb1.cell hbs).trans q1
      have c2 : w1.cell? ⟨b, off + j * 3 + 2, none⟩ = some v2 := (hb1.cell hbs).trans q2
      have f0 : w1.frozen? ⟨b, off + j * 3, none⟩ = false := (hb1.frozen hbs).trans (Fz.out _)
      have f1 : w1.frozen? ⟨b, off + j * 3 + 1, none⟩ = false := (hb1.frozen hbs).trans (Fz.out _)
      have f2 : w1.frozen? ⟨b, off + j * 3 + 2, none⟩ = false := (hb1.frozen hbs).trans (Fz.out _)
      have hg1 : w.grownBy w1 (some b) := grown_trans hg (grown_of_below hb1 _)
      have fr1 : ∀ i, w1.frozen? ⟨b, i, none⟩ = false := fun i => (hb1.frozen hbs).trans (Fz.out i)
      have ol1 : ∀ i, w1.cell? ⟨b, i, none⟩ = wr.cell? ⟨b, i, none⟩ := fun i => hb1.cell hbs
      have Fr1 := Lib.hid fr1; clear fr1
      have Ol1 := Lib.hid ol1; clear ol1
      go_wp2_with fail
      obtain ⟨w2, hw2⟩ : ∃ w2, w2 = (w1.setCell ⟨b, off + j * 3, none⟩ (.string (mtx (k + 3 * (j : Int))))).setCell ⟨b, off + j * 3 + 1, none⟩ (.int .i64 (k + 3 * (j : Int) + 1)) := ⟨_, rfl⟩
      have d0 : w2.cell? ⟨b, off + j * 3, none⟩ = some (.string (mtx (k + 3 * (j : Int)))) := by
        rw [hw2, cset_ne _ _ _ _ _ (by omega), cset_eq _ _ _ _ c0]
      have d1 : w2.cell? ⟨b, off + j * 3 + 1, none⟩ = some (.int .i64 (k + 3 * (j : Int) + 1)) := by
        rw [hw2]; exact cset_eq _ _ _ _ ((cset_ne _ _ _ _ _ (by omega)).trans c1)
      have dO : ∀ i, i ≠ off + j * 3 → i ≠ off + j * 3 + 1 → w2.cell? ⟨b, i, none⟩ = wr.cell? ⟨b, i, none⟩ := fun i h0 h1 => by
        rw [hw2, cset_ne _ _ _ _ _ (by omega), cset_ne _ _ _ _ _ (by omega)]; exact Ol1.out i
      have dF : ∀ i, w2.frozen? ⟨b, i, none⟩ = false := fun i => by rw [hw2, frozen_setCell, frozen_setCell]; exact Fr1.out i
      have dG : w.grownBy w2 (some b) := by rw [hw2]; exact grown_setCell (grown_setCell hg1 _ (.inl rfl) _) _ (.inl rfl) _
      rw [← hw2]
      clear hw2 c0 c1 c2 f0 f1 f2 hg1 Fr1 Ol1 hb1
      have DO := Lib.hid dO; clear dO
      have DF := Lib.hid dF; clear dF
      have D0 := Lib.hid d0; clear d0
      have D1 := Lib.hid d1; clear d1
      have hb2s : b < w2.heap.size := by have := dG.size; omega
      rw [show k + 3 * (j : Int) + 1 + 1 = k + 3 * (j : Int) + 2 from by omega]
      refine (markText_any _ _ (by omega)).mono ?_
      rintro e w3 ⟨rfl, hb3⟩
      have c2 : w3.cell? ⟨b, off + j * 3 + 2, none⟩ = some v2 := (hb3.cell hb2s).trans ((DO.out _ (by omega) (by omega)).trans q2)
      have f2 : w3.frozen? ⟨b, off + j * 3 + 2, none⟩ = false := (hb3.frozen hb2s).trans (DF.out _)
      have hn : ObjsAt (w3.setCell ⟨b, off + j * 3 + 2, none⟩ (.string (mtx (k + 3 * (j : Int) + 2)))) B (some ⟨b, off, none⟩) (marks k (j + 1) ++ xs.drop (j + 1)) := by
        rw [marks_succ, ← set_mid (marks k j) xs j (mkObj (k + 3 * (j : Int))) (length_marks k j) hlt]
        refine Sl.set Hr.out vals_length hjl _ ?_ ?_
        · intro i v hv
          match i, hv with
          | 0, hv =>
            simp [GObj.vals, mkObj] at hv; subst hv
            rw [cset_ne _ _ _ _ _ (by omega)]; exact (hb3.cell hb2s).trans D0.out
          | 1, hv =>
            simp [GObj.vals, mkObj] at hv; subst hv
            rw [cset_ne _ _ _ _ _ (by omega)]; exact (hb3.cell hb2s).trans D1.out
          | 2, hv =>
            simp [GObj.vals, mkObj] at hv; subst hv
            exact cset_eq _ _ _ _ c2
          | i + 3, hv => simp [GObj.vals] at hv
        · intro i hi
          rw [cset_ne _ _ _ _ _ (by omega)]
          exact (hb3.cell hb2s).trans (DO.out i (by omega) (by omega))
      have Hn := Lib.hid hn; clear hn
      have hg3 : w.grownBy (w3.setCell ⟨b, off + j * 3 + 2, none⟩ (.string (mtx (k + 3 * (j : Int) + 2)))) (some b) := grown_setCell (grown_trans dG (grown_of_below hb3 _)) _ (.inl rfl) _
      have hf3 : Free (w3.setCell ⟨b, off + j * 3 + 2, none⟩ (.string (mtx (k + 3 * (j : Int) + 2)))) (some ⟨b, off, none⟩) := fun b' e i => by
        simp [blk] at e; subst e
        rw [frozen_setCell]; exact (hb3.frozen hb2s).trans (DF.out i)
      have Hf3 := Lib.hid hf3; clear hf3
      have Hg3 := Lib.hid hg3; clear hg3
      go_wp2
      go_roundw
      case rel => exact ⟨j + 1, by omega, by go_num, by go_num, Hn, Hg3.out, Hf3⟩
      case measure => simp [intOf]; omega
    · obtain rfl : j = xs.length := by omega
      have hn : ObjsAt wr B A (marks k xs.length) := by simpa using Hr.out
      have Hn := Lib.hid hn; clear hn
      go_wp2
      go_ret
      exact ⟨rfl, Hn.out, hg, Hfr.out⟩

end Go.Proofs.YthmpmagajbmpaaaGreatDoor
