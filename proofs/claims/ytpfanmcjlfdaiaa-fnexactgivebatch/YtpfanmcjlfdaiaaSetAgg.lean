/-
  An aggregate written into its block, cell by cell. No Go text is walked here.
-/
import Derived.Test.YtpfanmcjlfdaiaaAggLaw
namespace Go.Proofs.Ytpfanmcjlfdaiaa
open Go.RowKit
set_option linter.unusedVariables false

/-- an aggregate written into a block -/
def setAgg (w : World) (b : Nat) (m : GAgg) : World := (((((w.setCell ⟨b, 0, none⟩ (.int .i64 m.cnt)).setCell ⟨b, 1, none⟩ (.int .i64 m.sum)).setCell ⟨b, 2, none⟩ (.int .i64 m.mn)).setCell ⟨b, 3, none⟩ (.int .i64 m.mx)).setCell ⟨b, 4, none⟩ (.int .i64 m.fst)).setCell ⟨b, 5, none⟩ (.int .i64 m.lst)

theorem setAgg_six {w : World} {b : Nat} {a : GAgg} (h : Six w b a) (m : GAgg) : Six (setAgg w b m) b m := by
  obtain ⟨h0, h1, h2, h3, h4, h5⟩ := h
  unfold setAgg
  refine ⟨?_, ?_, ?_, ?_, ?_, ?_⟩
  · rw [cset_ne _ _ _ _ _ (by omega), cset_ne _ _ _ _ _ (by omega), cset_ne _ _ _ _ _ (by omega), cset_ne _ _ _ _ _ (by omega), cset_ne _ _ _ _ _ (by omega), cset_eq _ _ _ _ h0]
  · rw [cset_ne _ _ _ _ _ (by omega), cset_ne _ _ _ _ _ (by omega), cset_ne _ _ _ _ _ (by omega), cset_ne _ _ _ _ _ (by omega), cset_eq _ _ _ _ (by rw [cset_ne _ _ _ _ _ (by omega)]; exact h1)]
  · rw [cset_ne _ _ _ _ _ (by omega), cset_ne _ _ _ _ _ (by omega), cset_ne _ _ _ _ _ (by omega), cset_eq _ _ _ _ (by rw [cset_ne _ _ _ _ _ (by omega), cset_ne _ _ _ _ _ (by omega)]; exact h2)]
  · rw [cset_ne _ _ _ _ _ (by omega), cset_ne _ _ _ _ _ (by omega), cset_eq _ _ _ _ (by rw [cset_ne _ _ _ _ _ (by omega), cset_ne _ _ _ _ _ (by omega), cset_ne _ _ _ _ _ (by omega)]; exact h3)]
  · rw [cset_ne _ _ _ _ _ (by omega), cset_eq _ _ _ _ (by rw [cset_ne _ _ _ _ _ (by omega), cset_ne _ _ _ _ _ (by omega), cset_ne _ _ _ _ _ (by omega), cset_ne _ _ _ _ _ (by omega)]; exact h4)]
  · rw [cset_eq _ _ _ _ (by rw [cset_ne _ _ _ _ _ (by omega), cset_ne _ _ _ _ _ (by omega), cset_ne _ _ _ _ _ (by omega), cset_ne _ _ _ _ _ (by omega), cset_ne _ _ _ _ _ (by omega)]; exact h5)]

theorem setAgg_below {a w : World} {B : Nat} (h : Below B a w) {b : Nat} (hb : B ≤ b) (m : GAgg) : Below B a (setAgg w b m) :=
  (((((h.setCell hb _).setCell hb _).setCell hb _).setCell hb _).setCell hb _).setCell hb _

theorem setAgg_far {w : World} {b : Nat} (m : GAgg) {p : Addr} (hp : b ≠ p.block) : (setAgg w b m).cell? p = w.cell? p := by
  unfold setAgg
  rw [World.cell?_setCell_other _ _ _ _ (fun e => hp (by rw [← e])), World.cell?_setCell_other _ _ _ _ (fun e => hp (by rw [← e])), World.cell?_setCell_other _ _ _ _ (fun e => hp (by rw [← e])), World.cell?_setCell_other _ _ _ _ (fun e => hp (by rw [← e])), World.cell?_setCell_other _ _ _ _ (fun e => hp (by rw [← e])), World.cell?_setCell_other _ _ _ _ (fun e => hp (by rw [← e]))]

theorem setAgg_other {w : World} {b b' : Nat} {a : GAgg} (h : Six w b' a) (hb : b ≠ b') (m : GAgg) : Six (setAgg w b m) b' a := by
  obtain ⟨h0, h1, h2, h3, h4, h5⟩ := h
  exact ⟨(setAgg_far m hb).trans h0, (setAgg_far m hb).trans h1, (setAgg_far m hb).trans h2, (setAgg_far m hb).trans h3, (setAgg_far m hb).trans h4, (setAgg_far m hb).trans h5⟩

theorem setAgg_free {w : World} {A : Option Addr} (h : Free w A) (b : Nat) (m : GAgg) : Free (setAgg w b m) A :=
  (((((h.setCell _ _).setCell _ _).setCell _ _).setCell _ _).setCell _ _).setCell _ _

theorem setAgg_size (w : World) (b : Nat) (m : GAgg) : (setAgg w b m).heap.size = w.heap.size := by simp [setAgg]

end Go.Proofs.Ytpfanmcjlfdaiaa
