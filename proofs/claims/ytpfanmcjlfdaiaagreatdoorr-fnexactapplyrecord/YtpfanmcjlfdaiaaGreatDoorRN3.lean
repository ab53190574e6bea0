/-
  Several texts as one: contracts that the law leans on; each part says what it proves and its conditions.
-/
import Derived.Test.YtpfanmcjlfdaiaaGreatDoorRN2
import Derived.Deep.RegionHeld3

/- Contracts of the laws' copying helpers over stores: sz (how much room is left), to (a copy in new memory). -/
namespace Go.Proofs.YtpfanmcjlfdaiaaGreatDoorR
open Go.ChangeShapes Go.WideShapes Go.ChangeAt Go.RowKit
set_option linter.unusedVariables false

def GObj.small (o : GObj) : Prop := o.key.size ≤ 1048576 ∧ o.data.size ≤ 1048576

def GObj.fits (o : GObj) : Prop := o.key.size ≤ maxLen ∧ o.data.size ≤ maxLen

/-- a number is answered that, if it is not below 0, is at most what it was and says P; nothing old has turned -/
def Left (P : Prop) (left : Int) (w : World) (e : Ending) (w' : World) : Prop := ∃ v : Int, (0 ≤ v → P ∧ v ≤ left) ∧ -1 ≤ v ∧ v ≤ 1048576 ∧ e = .returned (.int .i64 v) ∧ Below w.heap.size w w'

end Go.Proofs.YtpfanmcjlfdaiaaGreatDoorR

/- Contracts of the laws' copying helpers: to (a copy of a store in new memory). -/
namespace Go.Proofs.YtpfanmcjlfdaiaaGreatDoorR
open Go.ChangeShapes Go.WideShapes Go.ChangeAt Go.RowKit
set_option linter.unusedVariables false

theorem ObjsAt.store {w w1 : World} {B g k : Nat} {ys : List GObj} (h : ObjsAt w B (some ⟨g, 0, none⟩) ys) (hk : k < ys.length) (ho : ∀ i, w1.cell? ⟨g, i, none⟩ = w.cell? ⟨g, i, none⟩) (o : GObj) :
    ObjsAt (((w1.setCell ⟨g, k * 3, none⟩ (.string o.key)).setCell ⟨g, k * 3 + 1, none⟩ (.int .i64 o.ver)).setCell ⟨g, k * 3 + 2, none⟩ (.string o.data)) B (some ⟨g, 0, none⟩) (ys.set k o) := by
  obtain ⟨b, off, e, hgB, q0, q1, q2⟩ := ObjsAt.obj h hk
  injection e with e
  injection e with e1 e2
  subst e1 e2
  rw [← ho] at q0 q1 q2
  rw [Nat.zero_add] at q0 q1 q2
  refine Sl.set h vals_length hk o ?_ ?_
  · intro i v hv
    rw [Nat.zero_add]
    match i, hv with
    | 0, hv =>
      simp [GObj.vals] at hv; subst hv
      rw [cset_ne _ _ _ _ _ (by omega), cset_ne _ _ _ _ _ (by omega)]; exact cset_eq _ _ _ _ q0
    | 1, hv =>
      simp [GObj.vals] at hv; subst hv
      rw [cset_ne _ _ _ _ _ (by omega)]; exact cset_eq _ _ _ _ ((cset_ne _ _ _ _ _ (by omega)).trans q1)
    | 2, hv =>
      simp [GObj.vals] at hv; subst hv
      exact cset_eq _ _ _ _ ((cset_ne _ _ _ _ _ (by omega)).trans ((cset_ne _ _ _ _ _ (by omega)).trans q2))
    | i + 3, hv => simp [GObj.vals] at hv
  · intro i hi
    rw [cset_ne _ _ _ _ _ (by omega), cset_ne _ _ _ _ _ (by omega), cset_ne _ _ _ _ _ (by omega)]
    exact ho i

end Go.Proofs.YtpfanmcjlfdaiaaGreatDoorR
