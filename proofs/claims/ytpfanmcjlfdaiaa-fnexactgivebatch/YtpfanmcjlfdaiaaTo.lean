/-
  Contracts of the laws' copying helpers: to (a copy of a store in new memory).
-/
import Derived.Test.YtpfanmcjlfdaiaaConv
namespace Go.Proofs.Ytpfanmcjlfdaiaa
open Go.ChangeShapes Go.WideShapes Go.ChangeAt Go.RowKit
set_option linter.unusedVariables false

/-- an object of zeros -/
def zObj : GObj := ⟨⟨#[]⟩, 0, ⟨#[]⟩⟩

/-- a slice of objects is answered, in new memory of its own -/
def NewObjs (xs : List GObj) (w : World) (e : Ending) (w' : World) : Prop :=
  ∃ (A : Option Addr) (c : Nat), e = .returned (.slice A xs.length c) ∧ ObjsAt w' w'.heap.size A xs ∧ Free w' A ∧ (∀ b, blk A = some b → w.heap.size ≤ b ∧ b < w'.heap.size) ∧ xs.length ≤ c ∧ Below w.heap.size w w'

theorem ObjsAt.store {w w1 : World} {B g k : Nat} {ys : List GObj} (h : ObjsAt w B (some ⟨g, 0, none⟩) ys) (hk : k < ys.length) (ho : ∀ i, w1.cell? ⟨g, i, none⟩ = w.cell? ⟨g, i, none⟩) (o : GObj) :
    ObjsAt (((w1.setCell ⟨g, k * 3, none⟩ (.string o.key)).setCell ⟨g, k * 3 + 1, none⟩ (.int .i64 o.ver)).setCell ⟨g, k * 3 + 2, none⟩ (.string o.data)) B (some ⟨g, 0, none⟩) (ys.set k o) := by
  obtain ⟨b, off, e, hgB, q0, q1, q2⟩ := ObjsAt.obj h hk
  injection e with e
  injection e with e1 e2
  subst e1 e2
  rw [← ho] at q0 q1 q2
  rw [Nat.zero_add] at q0 q1 q2
  refine Sl.set h vals_length hk o ?_ ?_
  · intro i v hv
    rw [Nat.zero_add]
    match i, hv with
    | 0, hv =>
      simp [GObj.vals] at hv; subst hv
      rw [cset_ne _ _ _ _ _ (by omega), cset_ne _ _ _ _ _ (by omega)]; exact cset_eq _ _ _ _ q0
    | 1, hv =>
      simp [GObj.vals] at hv; subst hv
      rw [cset_ne _ _ _ _ _ (by omega)]; exact cset_eq _ _ _ _ ((cset_ne _ _ _ _ _ (by omega)).trans q1)
    | 2, hv =>
      simp [GObj.vals] at hv; subst hv
      exact cset_eq _ _ _ _ ((cset_ne _ _ _ _ _ (by omega)).trans ((cset_ne _ _ _ _ _ (by omega)).trans q2))
    | i + 3, hv => simp [GObj.vals] at hv
  · intro i hi
    rw [cset_ne _ _ _ _ _ (by omega), cset_ne _ _ _ _ _ (by omega), cset_ne _ _ _ _ _ (by omega)]
    exact ho i

/-- a store is answered, in new memory of its own -/
def NewStoreV (xs : List GObj) (next : Int) (w : World) (e : Ending) (w' : World) : Prop :=
  ∃ (A : Option Addr) (c : Nat), e = .returned (.agg #[.slice A xs.length c, .int .i64 next]) ∧ ObjsAt w' w'.heap.size A xs ∧ Free w' A ∧ (∀ b, blk A = some b → w.heap.size ≤ b ∧ b < w'.heap.size) ∧ xs.length ≤ c ∧ Below w.heap.size w w'

end Go.Proofs.Ytpfanmcjlfdaiaa
