/-
  An aggregate stored into a slice of aggregates. No Go text is walked here.
-/
import Derived.Test.YtpackpocnonpiaaGreatDoorMergeAll
namespace Go.Proofs.YtpackpocnonpiaaGreatDoor
open Go.RowKit
set_option linter.unusedVariables false

set_option maxHeartbeats 2000000 in
theorem AggsAt.store {w w1 : World} {B g k : Nat} {ys : List GAgg} (h : AggsAt w B (some ⟨g, 0, none⟩) ys) (hk : k < ys.length) (ho : ∀ i, w1.cell? ⟨g, i, none⟩ = w.cell? ⟨g, i, none⟩) (o : GAgg) :
    AggsAt ((((((w1.setCell ⟨g, k * 6, none⟩ (.int .i64 o.cnt)).setCell ⟨g, k * 6 + 1, none⟩ (.int .i64 o.sum)).setCell ⟨g, k * 6 + 2, none⟩ (.int .i64 o.mn)).setCell ⟨g, k * 6 + 3, none⟩ (.int .i64 o.mx)).setCell ⟨g, k * 6 + 4, none⟩ (.int .i64 o.fst)).setCell ⟨g, k * 6 + 5, none⟩ (.int .i64 o.lst)) B (some ⟨g, 0, none⟩) (ys.set k o) := by
  obtain ⟨b, off, e, hgB, q0, q1, q2, q3, q4, q5⟩ := AggsAt.agg h hk
  injection e with e
  injection e with e1 e2
  subst e1 e2
  rw [← ho] at q0 q1 q2 q3 q4 q5
  rw [Nat.zero_add] at q0 q1 q2 q3 q4 q5
  refine Sl.set h (fun x => rfl) hk o ?_ ?_
  · intro j v hv
    rw [Nat.zero_add]
    match j, hv with
    | 0, hv =>
      simp [GAgg.vals] at hv; subst hv
      exact ((cset_ne _ _ _ _ _ (by omega)).trans ((cset_ne _ _ _ _ _ (by omega)).trans ((cset_ne _ _ _ _ _ (by omega)).trans ((cset_ne _ _ _ _ _ (by omega)).trans ((cset_ne _ _ _ _ _ (by omega)).trans (cset_eq _ _ _ _ q0))))))
    | 1, hv =>
      simp [GAgg.vals] at hv; subst hv
      exact ((cset_ne _ _ _ _ _ (by omega)).trans ((cset_ne _ _ _ _ _ (by omega)).trans ((cset_ne _ _ _ _ _ (by omega)).trans ((cset_ne _ _ _ _ _ (by omega)).trans (cset_eq _ _ _ _ ((cset_ne _ _ _ _ _ (by omega)).trans q1))))))
    | 2, hv =>
      simp [GAgg.vals] at hv; subst hv
      exact ((cset_ne _ _ _ _ _ (by omega)).trans ((cset_ne _ _ _ _ _ (by omega)).trans ((cset_ne _ _ _ _ _ (by omega)).trans (cset_eq _ _ _ _ ((cset_ne _ _ _ _ _ (by omega)).trans ((cset_ne _ _ _ _ _ (by omega)).trans q2))))))
    | 3, hv =>
      simp [GAgg.vals] at hv; subst hv
      exact ((cset_ne _ _ _ _ _ (by omega)).trans ((cset_ne _ _ _ _ _ (by omega)).trans (cset_eq _ _ _ _ ((cset_ne _ _ _ _ _ (by omega)).trans ((cset_ne _ _ _ _ _ (by omega)).trans ((cset_ne _ _ _ _ _ (by omega)).trans q3))))))
    | 4, hv =>
      simp [GAgg.vals] at hv; subst hv
      exact ((cset_ne _ _ _ _ _ (by omega)).trans (cset_eq _ _ _ _ ((cset_ne _ _ _ _ _ (by omega)).trans ((cset_ne _ _ _ _ _ (by omega)).trans ((cset_ne _ _ _ _ _ (by omega)).trans ((cset_ne _ _ _ _ _ (by omega)).trans q4))))))
    | 5, hv =>
      simp [GAgg.vals] at hv; subst hv
      exact (cset_eq _ _ _ _ ((cset_ne _ _ _ _ _ (by omega)).trans ((cset_ne _ _ _ _ _ (by omega)).trans ((cset_ne _ _ _ _ _ (by omega)).trans ((cset_ne _ _ _ _ _ (by omega)).trans ((cset_ne _ _ _ _ _ (by omega)).trans q5))))))
    | j + 6, hv => simp [GAgg.vals] at hv
  · intro i hi
    exact (cset_ne _ _ _ _ _ (by omega)).trans ((cset_ne _ _ _ _ _ (by omega)).trans ((cset_ne _ _ _ _ _ (by omega)).trans ((cset_ne _ _ _ _ _ (by omega)).trans ((cset_ne _ _ _ _ _ (by omega)).trans ((cset_ne _ _ _ _ _ (by omega)).trans (ho i))))))

end Go.Proofs.YtpackpocnonpiaaGreatDoor
