/-
  Contracts of the laws' marking helpers on slices of Tombs: mark writes its marks into every element, held finds them there.
-/
import Derived.Test.YthmpmagajbmpaaaDoorTmbs
import Derived.Deep.RegionHeld3
namespace Go.Proofs.YthmpmagajbmpaaaDoor
open Go.ChangeShapes Go.WideShapes Go.ChangeAt Go.RowKit Go.Deep Go.Joins
set_option linter.unusedVariables false

def mkTmb (k : Int) : GTmb := ⟨k, mtx (k + 1)⟩

def marksTmb (k : Int) (n : Nat) : List GTmb := (List.range n).map fun i : Nat => mkTmb (k + 2 * (i : Int))

theorem length_marksTmb (k : Int) (n : Nat) : (marksTmb k n).length = n := by simp [marksTmb]

theorem marksTmb_succ (k : Int) (n : Nat) : marksTmb k (n + 1) = marksTmb k n ++ [mkTmb (k + 2 * (n : Int))] := by simp [marksTmb, List.range_succ]

theorem marksTmb_at (k : Int) (n i : Nat) (h : i < (marksTmb k n).length) : (marksTmb k n)[i] = mkTmb (k + 2 * (i : Int)) := by simp [marksTmb]

set_option maxRecDepth 100000 in
theorem markTombS_any (A : Option Addr) (c : Nat) (k : Int) (xs : List GTmb) (B : Nat) (w : World) (h : TmbsAt w B A xs) (hf : Free w A) (hB : B ≤ w.heap.size) (hl : xs.length ≤ 16777216) (hk0 : 0 ≤ k) (hk : k ≤ 67108864) :
    Calls Tryd.prog 48 #[.slice A xs.length c, .int .i64 k] w fun e w' => e = .returned (.int .i64 (k + 2 * xs.length)) ∧ TmbsAt w' B A (marksTmb k xs.length) ∧ w.grownBy w' (blk A) ∧ Free w' A := by
  have H := Lib.hid h; clear h
  have Hf := Lib.hid hf; clear hf
  go_enter Tryd.func48, Tryd.ntmps48
  go_wp2_with fail
  go_loopw [1, 5] (fun t i wr => ∃ j : Nat, j ≤ xs.length ∧ i = .int .i64 j ∧ t = .int .i64 (k + 2 * j) ∧ Hid (TmbsAt wr B A (marksTmb k j ++ xs.drop j)) ∧ w.grownBy wr (blk A) ∧ Hid (Free wr A)) (fun _ i _ => xs.length - (intOf i).toNat)
  case atStart => exact ⟨0, by omega, rfl, by simp, Lib.hid (by simpa [marksTmb] using H.out), World.grownBy.refl _ _, Hf⟩
  case round =>
    obtain ⟨j, hj, rfl, rfl, Hr, hg, Hfr⟩ := hrel
    by_cases hlt : j < xs.length
    · have hjl : j < (marksTmb k j ++ xs.drop j).length := by simp [length_marksTmb]; omega
      obtain ⟨b, off, rfl, hb, p0, p1⟩ := TmbsAt.one Hr.out hjl
      have hbs : b < wr.heap.size := by have := hg.size; omega
      obtain ⟨v0, q0⟩ : ∃ v, wr.cell? ⟨b, off + j * 2, none⟩ = some v := ⟨_, p0⟩
      obtain ⟨v1, q1⟩ : ∃ v, wr.cell? ⟨b, off + j * 2 + 1, none⟩ = some v := ⟨_, p1⟩
      clear p0 p1
      have fz : ∀ i, wr.frozen? ⟨b, i, none⟩ = false := Hfr.out b rfl
      have Fz := Lib.hid fz; clear fz
      have f0 : wr.frozen? ⟨b, off + j * 2, none⟩ = false := Fz.out _
      go_wp2_with fail
      obtain ⟨w2, hw2⟩ : ∃ w2, w2 = (wr.setCell ⟨b, off + j * 2, none⟩ (.int .i64 (k + 2 * (j : Int)))) := ⟨_, rfl⟩
      have d0 : w2.cell? ⟨b, off + j * 2, none⟩ = some (.int .i64 (k + 2 * (j : Int))) := by rw [hw2]; exact cset_eq _ _ _ _ q0
      have dO : ∀ i, i ≠ off + j * 2 → w2.cell? ⟨b, i, none⟩ = wr.cell? ⟨b, i, none⟩ := fun i g0 => by rw [hw2, cset_ne _ _ _ _ _ (by omega)]
      have dF : ∀ i, w2.frozen? ⟨b, i, none⟩ = false := fun i => by rw [hw2, frozen_setCell]; exact Fz.out i
      have dG : w.grownBy w2 (some b) := by rw [hw2]; exact (grown_setCell (row := some b) hg ⟨b, _, none⟩ (.inl rfl) _)
      rw [← hw2]
      clear hw2 f0
      have DO := Lib.hid dO; clear dO
      have DF := Lib.hid dF; clear dF
      have D0 := Lib.hid d0; clear d0
      have hb2s : b < w2.heap.size := by have := dG.size; omega
      refine (markText_any _ _ (by omega)).mono ?_
      rintro e w3 ⟨rfl, hb3⟩
      have c1 : w3.cell? ⟨b, off + j * 2 + 1, none⟩ = some v1 := (hb3.cell hb2s).trans ((DO.out _ (by omega)).trans q1)
      have f1 : w3.frozen? ⟨b, off + j * 2 + 1, none⟩ = false := (hb3.frozen hb2s).trans (DF.out _)
      have hn : TmbsAt (w3.setCell ⟨b, off + j * 2 + 1, none⟩ (.string (mtx (k + 2 * (j : Int) + 1)))) B (some ⟨b, off, none⟩) (marksTmb k (j + 1) ++ xs.drop (j + 1)) := by
        rw [marksTmb_succ, ← set_mid (marksTmb k j) xs j (mkTmb (k + 2 * (j : Int))) (length_marksTmb k j) hlt]
        refine Sl.set Hr.out len_Tmb hjl _ ?_ ?_
        · intro i v hv
          match i, hv with
          | 0, hv =>
            simp [GTmb.vals, mkTmb] at hv; subst hv
            rw [cset_ne _ _ _ _ _ (by omega)]; exact (hb3.cell hb2s).trans D0.out
          | 1, hv =>
            simp [GTmb.vals, mkTmb] at hv; subst hv
            exact cset_eq _ _ _ _ c1
          | i + 2, hv => simp [GTmb.vals] at hv
        · intro i hi
          rw [cset_ne _ _ _ _ _ (by omega)]
          exact (hb3.cell hb2s).trans (DO.out i (by omega))
      have Hn := Lib.hid hn; clear hn
      have hg3 : w.grownBy (w3.setCell ⟨b, off + j * 2 + 1, none⟩ (.string (mtx (k + 2 * (j : Int) + 1)))) (some b) := grown_setCell (grown_trans dG (grown_of_below hb3 _)) _ (.inl rfl) _
      have hf3 : Free (w3.setCell ⟨b, off + j * 2 + 1, none⟩ (.string (mtx (k + 2 * (j : Int) + 1)))) (some ⟨b, off, none⟩) := fun b' e i => by
        simp [blk] at e; subst e
        rw [frozen_setCell]; exact (hb3.frozen hb2s).trans (DF.out i)
      have Hf3 := Lib.hid hf3; clear hf3
      have Hg3 := Lib.hid hg3; clear hg3
      go_wp2
      go_roundw
      case rel => exact ⟨j + 1, by omega, by go_num, by go_num, Hn, Hg3.out, Hf3⟩
      case measure => simp [intOf]; omega
    · obtain rfl : j = xs.length := by omega
      have hn : TmbsAt wr B A (marksTmb k xs.length) := by simpa using Hr.out
      have Hn := Lib.hid hn; clear hn
      go_wp2
      go_ret
      exact ⟨rfl, Hn.out, hg, Hfr.out⟩

end Go.Proofs.YthmpmagajbmpaaaDoor
