/-
  Contracts of the laws' marking helpers on slices of Entrys: mark writes its marks into every element, held finds them there.
-/
import Derived.Test.YtpackpocnonpiaaEnts
import Derived.Deep.RegionHeld3
namespace Go.Proofs.Ytpackpocnonpiaa
open Go.ChangeShapes Go.WideShapes Go.ChangeAt Go.RowKit Go.Deep Go.Joins
set_option linter.unusedVariables false

def mkEnt (k : Int) : GEnt := ⟨k, k + 1, k + 2, mtx (k + 3)⟩

def marksEnt (k : Int) (n : Nat) : List GEnt := (List.range n).map fun i : Nat => mkEnt (k + 4 * (i : Int))

theorem length_marksEnt (k : Int) (n : Nat) : (marksEnt k n).length = n := by simp [marksEnt]

theorem marksEnt_succ (k : Int) (n : Nat) : marksEnt k (n + 1) = marksEnt k n ++ [mkEnt (k + 4 * (n : Int))] := by simp [marksEnt, List.range_succ]

theorem marksEnt_at (k : Int) (n i : Nat) (h : i < (marksEnt k n).length) : (marksEnt k n)[i] = mkEnt (k + 4 * (i : Int)) := by simp [marksEnt]

set_option maxRecDepth 100000 in
theorem markEntryS_any (A : Option Addr) (c : Nat) (k : Int) (xs : List GEnt) (B : Nat) (w : World) (h : EntsAt w B A xs) (hf : Free w A) (hB : B ≤ w.heap.size) (hl : xs.length ≤ 16777216) (hk0 : 0 ≤ k) (hk : k ≤ 67108864) :
    Calls Try.prog 19 #[.slice A xs.length c, .int .i64 k] w fun e w' => e = .returned (.int .i64 (k + 4 * xs.length)) ∧ EntsAt w' B A (marksEnt k xs.length) ∧ w.grownBy w' (blk A) ∧ Free w' A := by
  have H := Lib.hid h; clear h
  have Hf := Lib.hid hf; clear hf
  go_enter Try.func19, Try.ntmps19
  go_wp2_with fail
  go_loopw [1, 5] (fun t i wr => ∃ j : Nat, j ≤ xs.length ∧ i = .int .i64 j ∧ t = .int .i64 (k + 4 * j) ∧ Hid (EntsAt wr B A (marksEnt k j ++ xs.drop j)) ∧ w.grownBy wr (blk A) ∧ Hid (Free wr A)) (fun _ i _ => xs.length - (intOf i).toNat)
  case atStart => exact ⟨0, by omega, rfl, by simp, Lib.hid (by simpa [marksEnt] using H.out), World.grownBy.refl _ _, Hf⟩
  case round =>
    obtain ⟨j, hj, rfl, rfl, Hr, hg, Hfr⟩ := hrel
    by_cases hlt : j < xs.length
    · have hjl : j < (marksEnt k j ++ xs.drop j).length := by simp [length_marksEnt]; omega
      obtain ⟨b, off, rfl, hb, p0, p1, p2, p3⟩ := EntsAt.one Hr.out hjl
      have hbs : b < wr.heap.size := by have := hg.size; omega
      obtain ⟨v0, q0⟩ : ∃ v, wr.cell? ⟨b, off + j * 4, none⟩ = some v := ⟨_, p0⟩
      obtain ⟨v1, q1⟩ : ∃ v, wr.cell? ⟨b, off + j * 4 + 1, none⟩ = some v := ⟨_, p1⟩
      obtain ⟨v2, q2⟩ : ∃ v, wr.cell? ⟨b, off + j * 4 + 2, none⟩ = some v := ⟨_, p2⟩
      obtain ⟨v3, q3⟩ : ∃ v, wr.cell? ⟨b, off + j * 4 + 3, none⟩ = some v := ⟨_, p3⟩
      clear p0 p1 p2 p3
      have fz : ∀ i, wr.frozen? ⟨b, i, none⟩ = false := Hfr.out b rfl
      have Fz := Lib.hid fz; clear fz
      have f0 : wr.frozen? ⟨b, off + j * 4, none⟩ = false := Fz.out _
      have f1 : wr.frozen? ⟨b, off + j * 4 + 1, none⟩ = false := Fz.out _
      have f2 : wr.frozen? ⟨b, off + j * 4 + 2, none⟩ = false := Fz.out _
      go_wp2_with fail
      obtain ⟨w2, hw2⟩ : ∃ w2, w2 = (((wr.setCell ⟨b, off + j * 4, none⟩ (.int .i64 (k + 4 * (j : Int)))).setCell ⟨b, off + j * 4 + 1, none⟩ (.int .i64 (k + 4 * (j : Int) + 1))).setCell ⟨b, off + j * 4 + 2, none⟩ (.int .i64 (k + 4 * (j : Int) + 2))) := ⟨_, rfl⟩
      have d0 : w2.cell? ⟨b, off + j * 4, none⟩ = some (.int .i64 (k + 4 * (j : Int))) := by rw [hw2]; exact (cset_ne _ _ _ _ _ (by omega)).trans ((cset_ne _ _ _ _ _ (by omega)).trans (cset_eq _ _ _ _ q0))
      have d1 : w2.cell? ⟨b, off + j * 4 + 1, none⟩ = some (.int .i64 (k + 4 * (j : Int) + 1)) := by rw [hw2]; exact (cset_ne _ _ _ _ _ (by omega)).trans (cset_eq _ _ _ _ ((cset_ne _ _ _ _ _ (by omega)).trans q1))
      have d2 : w2.cell? ⟨b, off + j * 4 + 2, none⟩ = some (.int .i64 (k + 4 * (j : Int) + 2)) := by rw [hw2]; exact cset_eq _ _ _ _ ((cset_ne _ _ _ _ _ (by omega)).trans ((cset_ne _ _ _ _ _ (by omega)).trans q2))
      have dO : ∀ i, i ≠ off + j * 4 → i ≠ off + j * 4 + 1 → i ≠ off + j * 4 + 2 → w2.cell? ⟨b, i, none⟩ = wr.cell? ⟨b, i, none⟩ := fun i g0 g1 g2 => by rw [hw2, cset_ne _ _ _ _ _ (by omega), cset_ne _ _ _ _ _ (by omega), cset_ne _ _ _ _ _ (by omega)]
      have dF : ∀ i, w2.frozen? ⟨b, i, none⟩ = false := fun i => by rw [hw2, frozen_setCell, frozen_setCell, frozen_setCell]; exact Fz.out i
      have dG : w.grownBy w2 (some b) := by rw [hw2]; exact (grown_setCell (row := some b) (grown_setCell (row := some b) (grown_setCell (row := some b) hg ⟨b, _, none⟩ (.inl rfl) _) ⟨b, _, none⟩ (.inl rfl) _) ⟨b, _, none⟩ (.inl rfl) _)
      try simp only [show k + 4 * (j : Int) + 1 + 1 = k + 4 * (j : Int) + 2 from by omega, show k + 4 * (j : Int) + 2 + 1 = k + 4 * (j : Int) + 3 from by omega]
      rw [← hw2]
      clear hw2 f0 f1 f2
      have DO := Lib.hid dO; clear dO
      have DF := Lib.hid dF; clear dF
      have D0 := Lib.hid d0; clear d0
      have D1 := Lib.hid d1; clear d1
      have D2 := Lib.hid d2; clear d2
      have hb2s : b < w2.heap.size := by have := dG.size; omega
      try rw [show k + 4 * (j : Int) + 1 + 1 + 1 = k + 4 * (j : Int) + 3 from by omega]
      refine (markText_any _ _ (by omega)).mono ?_
      rintro e w3 ⟨rfl, hb3⟩
      have c3 : w3.cell? ⟨b, off + j * 4 + 3, none⟩ = some v3 := (hb3.cell hb2s).trans ((DO.out _ (by omega) (by omega) (by omega)).trans q3)
      have f3 : w3.frozen? ⟨b, off + j * 4 + 3, none⟩ = false := (hb3.frozen hb2s).trans (DF.out _)
      have hn : EntsAt (w3.setCell ⟨b, off + j * 4 + 3, none⟩ (.string (mtx (k + 4 * (j : Int) + 3)))) B (some ⟨b, off, none⟩) (marksEnt k (j + 1) ++ xs.drop (j + 1)) := by
        rw [marksEnt_succ, ← set_mid (marksEnt k j) xs j (mkEnt (k + 4 * (j : Int))) (length_marksEnt k j) hlt]
        refine Sl.set Hr.out len_Ent hjl _ ?_ ?_
        · intro i v hv
          match i, hv with
          | 0, hv =>
            simp [GEnt.vals, mkEnt] at hv; subst hv
            rw [cset_ne _ _ _ _ _ (by omega)]; exact (hb3.cell hb2s).trans D0.out
          | 1, hv =>
            simp [GEnt.vals, mkEnt] at hv; subst hv
            rw [cset_ne _ _ _ _ _ (by omega)]; exact (hb3.cell hb2s).trans D1.out
          | 2, hv =>
            simp [GEnt.vals, mkEnt] at hv; subst hv
            rw [cset_ne _ _ _ _ _ (by omega)]; exact (hb3.cell hb2s).trans D2.out
          | 3, hv =>
            simp [GEnt.vals, mkEnt] at hv; subst hv
            exact cset_eq _ _ _ _ c3
          | i + 4, hv => simp [GEnt.vals] at hv
        · intro i hi
          rw [cset_ne _ _ _ _ _ (by omega)]
          exact (hb3.cell hb2s).trans (DO.out i (by omega) (by omega) (by omega))
      have Hn := Lib.hid hn; clear hn
      have hg3 : w.grownBy (w3.setCell ⟨b, off + j * 4 + 3, none⟩ (.string (mtx (k + 4 * (j : Int) + 3)))) (some b) := grown_setCell (grown_trans dG (grown_of_below hb3 _)) _ (.inl rfl) _
      have hf3 : Free (w3.setCell ⟨b, off + j * 4 + 3, none⟩ (.string (mtx (k + 4 * (j : Int) + 3)))) (some ⟨b, off, none⟩) := fun b' e i => by
        simp [blk] at e; subst e
        rw [frozen_setCell]; exact (hb3.frozen hb2s).trans (DF.out i)
      have Hf3 := Lib.hid hf3; clear hf3
      have Hg3 := Lib.hid hg3; clear hg3
      go_wp2
      go_roundw
      case rel => exact ⟨j + 1, by omega, by go_num, by go_num, Hn, Hg3.out, Hf3⟩
      case measure => simp [intOf]; omega
    · obtain rfl : j = xs.length := by omega
      have hn : EntsAt wr B A (marksEnt k xs.length) := by simpa using Hr.out
      have Hn := Lib.hid hn; clear hn
      go_wp2
      go_ret
      exact ⟨rfl, Hn.out, hg, Hfr.out⟩

set_option maxRecDepth 100000 in
theorem heldEntryS_any (A : Option Addr) (c n : Nat) (k : Int) (B : Nat) (w : World) (h : EntsAt w B A (marksEnt k n)) (hB : B ≤ w.heap.size) (hl : n ≤ 16777216) (hk0 : 0 ≤ k) (hk : k ≤ 67108864) :
    Calls Try.prog 20 #[.slice A n c, .int .i64 k] w fun e w' => e = .returned (.int .i64 (k + 4 * n)) ∧ Below w.heap.size w w' := by
  have H := Lib.hid h; clear h
  go_enter Try.func20, Try.ntmps20
  go_wp2_with fail
  go_loopw [1, 5] (fun t i wr => ∃ j : Nat, j ≤ n ∧ i = .int .i64 j ∧ t = .int .i64 (k + 4 * j) ∧ Below w.heap.size w wr) (fun _ i _ => n - (intOf i).toNat)
  case atStart => exact ⟨0, by omega, rfl, by simp, Below.refl _ _⟩
  case round =>
    obtain ⟨j, hj, rfl, rfl, hb⟩ := hrel
    by_cases hlt : j < n
    · have hjl : j < (marksEnt k n).length := by rw [length_marksEnt]; exact hlt
      obtain ⟨b, off, rfl, hbB, p0, p1, p2, p3⟩ := EntsAt.one (Sl.below H.out hb hB) hjl
      rw [marksEnt_at] at p0 p1 p2 p3
      simp only [mkEnt] at p0 p1 p2 p3
      have hbs : b < wr.heap.size := by have := hb.size; omega
      go_wp2_with fail
      go_region_held3 (fun w' => w'.cell? ⟨b, off + j * 4 + 3, none⟩ = some (.string (mtx (k + 4 * (j : Int) + 3)))) (first | go_keep | (rw [hb2.cell (by simpa using hbs)]; simpa using p3))
        (first | (go_at_call 29; rw [show k + 4 * (j : Int) + 1 + 1 + 1 = k + 4 * (j : Int) + 3 from by omega]; refine (markText_any _ _ (by omega)).mono ?_; rintro e w2 ⟨rfl, hb2⟩))
      have hbd : Below wr.heap.size wr w2 := (Below.refl _ _).drew.trans hb2
      have hbw2 : Below w.heap.size w w2 := hb.trans (hbd.mono hb.size)
      clear p0 p1 p2 p3 hb2 hbd
      go_wp2
      go_roundw
      case rel => exact ⟨j + 1, by omega, by go_num, by go_num, hbw2⟩
      case measure => simp [intOf]; omega
    · obtain rfl : j = n := by omega
      go_wp2
      go_ret
      exact ⟨rfl, hb⟩

end Go.Proofs.Ytpackpocnonpiaa
