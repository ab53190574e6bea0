/-
  Contracts of the laws' holding helpers: held finds the marks that mark wrote.
-/
import Derived.Test.YthmpmagajbmpaaaGreatDoorMarks
import Derived.Deep.RegionHeld3
namespace Go.Proofs.YthmpmagajbmpaaaGreatDoor
open Go.ChangeShapes Go.WideShapes Go.ChangeAt Go.RowKit
set_option linter.unusedVariables false

set_option maxRecDepth 100000 in
theorem heldObjectS_any (A : Option Addr) (c n : Nat) (k : Int) (B : Nat) (w : World) (h : ObjsAt w B A (marks k n)) (hB : B ≤ w.heap.size) (hl : n ≤ 16777216) (hk0 : 0 ≤ k) (hk : k ≤ 16777216) :
    Calls Tryz.prog 62 #[.slice A n c, .int .i64 k] w fun e w' => e = .returned (.int .i64 (k + 3 * n)) ∧ Below w.heap.size w w' := by
  have H := Lib.hid h; clear h
  go_enter Tryz.func62, Tryz.ntmps62
  go_wp2_with fail
  go_loopw [1, 5] (fun t i wr => ∃ j : Nat, j ≤ n ∧ i = .int .i64 j ∧ t = .int .i64 (k + 3 * j) ∧ Below w.heap.size w wr) (fun _ i _ => n - (intOf i).toNat)
  case atStart => exact ⟨0, by omega, rfl, by simp, Below.refl _ _⟩
  case round =>
    obtain ⟨j, hj, rfl, rfl, hb⟩ := hrel
    by_cases hlt : j < n
    · have hjl : j < (marks k n).length := by rw [length_marks]; exact hlt
      obtain ⟨b, off, rfl, hbB, p0, p1, p2⟩ := ObjsAt.obj (Sl.below H.out hb hB) hjl
      rw [marks_at] at p0 p1 p2
      simp only [mkObj] at p0 p1 p2
      have hbs : b < wr.heap.size := by have := hb.size; omega
      go_wp2_with fail
      go_region_held3 (fun w' => w'.cell? ⟨b, off + j * 3, none⟩ = some (.string (mtx (k + 3 * (j : Int))))) (first | go_keep | (rw [hb1.cell (by simpa using hbs)]; simpa using p0))
        (first | (go_at_call 80; refine (markText_any _ _ (by omega)).mono ?_; rintro e w1 ⟨rfl, hb1⟩))
      have hbd : Below wr.heap.size wr w1 := (Below.refl _ _).drew.trans hb1
      have c1 : w1.cell? ⟨b, off + j * 3 + 1, none⟩ = some (.int .i64 (k + 3 * (j : Int) + 1)) := (hbd.cell hbs).trans p1
      have c2 : w1.cell? ⟨b, off + j * 3 + 2, none⟩ = some (.string (mtx (k + 3 * (j : Int) + 2))) := (hbd.cell hbs).trans p2
      have hbw1 : Below w.heap.size w w1 := hb.trans (hbd.mono hb.size)
      have hbs1 : b < w1.heap.size := by have := hbd.size; omega
      clear p0 p1 p2 hb1 hbd
      go_wp2_with fail
      go_region_held3 (fun w' => w'.cell? ⟨b, off + j * 3 + 2, none⟩ = some (.string (mtx (k + 3 * (j : Int) + 2)))) (first | go_keep | (rw [hb2.cell (by simpa using hbs1)]; simpa using c2))
        (first | (go_at_call 80; rw [show k + 3 * (j : Int) + 1 + 1 = k + 3 * (j : Int) + 2 from by omega]; refine (markText_any _ _ (by omega)).mono ?_; rintro e w2 ⟨rfl, hb2⟩))
      have hbd : Below w1.heap.size w1 w2 := (Below.refl _ _).drew.trans hb2
      have hbw2 : Below w.heap.size w w2 := hbw1.trans (hbd.mono hbw1.size)
      clear c1 c2 hb2 hbd
      go_wp2
      go_roundw
      case rel => exact ⟨j + 1, by omega, by go_num, by go_num, hbw2⟩
      case measure => simp [intOf]; omega
    · obtain rfl : j = n := by omega
      go_wp2
      go_ret
      exact ⟨rfl, hb⟩

end Go.Proofs.YthmpmagajbmpaaaGreatDoor
