/-
  A set of numbers kept as a Go map from int to bool that the call made: what it holds, looked up, written; and what a store is (the predicate), with the object's own check.
-/
import Derived.Test.YtpfanmcjlfdaiaaGreatDoorRN3
import Derived.Maps.Own
import Derived.Maps.OwnOps
import Derived.Maps.OwnSet
import Derived.WalkLawsBesides
namespace Go.Proofs.YtpfanmcjlfdaiaaGreatDoorR
open Go.ChangeShapes Go.WideShapes Go.ChangeAt Go.RowKit Go.Maps
set_option linter.unusedVariables false

theorem intKeyed : Keyed Tryz.prog 3 := int_keyed Tryz.underlying3

theorem zeroBool (w : World) : (zeroValue 4).run Tryz.prog w = .ok (.bool false) w := by kernel_rfl

/-- block b is a map from int to bool that says true just of the numbers vs -/
def IntSet (w : World) (b : Nat) (vs : List Int) : Prop :=
  ∃ D : DataW Unit, w.ownsMap Tryz.prog 3 (plainElem Tryz.prog 4) b vs.length D ∧ ∀ v, D.atKey (.int .i64 v) (.lit (.bool false)) = .lit (.bool (vs.contains v))

theorem IntSet.made (w : World) : IntSet (w.alloc (.map #[] 0)) w.heap.size [] := ⟨_, World.ownsMap_made _ _ _ _, fun v => rfl⟩

theorem plainElem_bool_inv {P : Program} {e : TypeId} (he : P.underlying e = some .bool) {v : Value} {z : DataW Unit × List MemPlace} (h : plainElem P e v = some z) : ∃ x, v = .bool x ∧ z = (.lit (.bool x), []) := by
  unfold plainElem at h
  rw [he] at h
  cases v <;> simp at h
  exact ⟨_, rfl, h.symm⟩

theorem IntSet.look {w : World} {b : Nat} {vs : List Int} (h : IntSet w b vs) {v : Int} (hv : (Lit.int .i64 v).wf = true) :
    (Instr.lookup 131 (.map (some b)) (.int .i64 v) false).run Tryz.prog w = .ok (.bool (vs.contains v)) w := by
  obtain ⟨D, hown, hat⟩ := h
  obtain ⟨u, ps, hrun, hu⟩ := hown.lookup intKeyed Tryz.underlying131 (zeroBool w) (plainElem_bool Tryz.underlying4 false) (keyOf_int_mk Tryz.underlying3 hv)
  obtain ⟨x, rfl, hx⟩ := plainElem_bool_inv Tryz.underlying4 hu
  rw [hat v] at hx
  simp only [Prod.mk.injEq, DataW.lit.injEq, Lit.bool.injEq] at hx
  rw [hrun, hx.1]

theorem IntSet.lt {w : World} {b : Nat} {vs : List Int} (h : IntSet w b vs) : b < w.heap.size := by obtain ⟨D, hown, _⟩ := h; exact hown.lt

theorem IntSet.grown {w w' : World} {b : Nat} {vs : List Int} (h : IntSet w b vs) {row : Option Nat} (hg : w.grownBy w' row) (hr : some b ≠ row) : IntSet w' b vs := by
  obtain ⟨D, hown, hat⟩ := h
  exact ⟨D, hown.kept hg hr, hat⟩

theorem IntSet.below {w w' : World} {b : Nat} {vs : List Int} (h : IntSet w b vs) (hb : Below w.heap.size w w') : IntSet w' b vs := h.grown (grown_of_below hb none) (by simp)

theorem IntSet.after {w w' : World} {b : Nat} {vs : List Int} {v : Int} {D : DataW Unit} {n : Nat} (hn : n = vs.length + 1) (hat : ∀ u, D.atKey (.int .i64 u) (.lit (.bool false)) = .lit (.bool (vs.contains u))) (hm : IsMap D)
    (h : w'.ownsMap Tryz.prog 3 (plainElem Tryz.prog 4) b n (D.put (.int .i64 v) (.lit (.bool true)))) : IntSet w' b (v :: vs) := by
  refine ⟨_, by subst hn; exact h, fun u => ?_⟩
  by_cases e : u = v
  · subst e
    rw [atKey_put_same hm (by trivial)]
    simp
  · rw [atKey_put_other (by intro h; injection h with _ h; exact e h), hat u]
    simp [e]

/-- the order of texts -/
def bl (a b : ByteArray) : Bool := Op.bytesLess a.toList b.toList

/-- objects as they can lie in memory: texts and numbers fit -/
def GObj.fit (o : GObj) : Prop := o.fits ∧ (Lit.int .i64 o.ver).wf = true

end Go.Proofs.YtpfanmcjlfdaiaaGreatDoorR
