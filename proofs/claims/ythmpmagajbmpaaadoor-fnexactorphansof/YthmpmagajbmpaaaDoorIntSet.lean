/-
  A set of numbers kept as a Go map from int to bool that the call made: what it holds, looked up, written; and what a store is (the predicate), with the object's own check.
-/
import Derived.Test.YthmpmagajbmpaaaDoorTo
import Derived.Maps.Own
import Derived.Maps.OwnOps
import Derived.Maps.OwnSet
import Derived.WalkLawsBesides
namespace Go.Proofs.YthmpmagajbmpaaaDoor
open Go.ChangeShapes Go.WideShapes Go.ChangeAt Go.RowKit Go.Maps
set_option linter.unusedVariables false

theorem intKeyed : Keyed Tryd.prog 3 := int_keyed Tryd.underlying3

theorem zeroBool (w : World) : (zeroValue 4).run Tryd.prog w = .ok (.bool false) w := by kernel_rfl

/-- block b is a map from int to bool that says true just of the numbers vs -/
def IntSet (w : World) (b : Nat) (vs : List Int) : Prop :=
  ∃ D : DataW Unit, w.ownsMap Tryd.prog 3 (plainElem Tryd.prog 4) b vs.length D ∧ ∀ v, D.atKey (.int .i64 v) (.lit (.bool false)) = .lit (.bool (vs.contains v))

theorem run_makeMap_some (t k e : TypeId) (n : Int) (ht : Tryd.prog.underlying t = some (.map k e)) (w : World) :
    (Instr.makeMap t (some (.int .i64 n))).run Tryd.prog w = .ok (.map (some w.heap.size)) (w.alloc (.map #[] 0)) := by
  simp [Instr.makeMap, run_underlying ht]; rfl

theorem IntSet.made (w : World) : IntSet (w.alloc (.map #[] 0)) w.heap.size [] := ⟨_, World.ownsMap_made _ _ _ _, fun v => rfl⟩

theorem plainElem_bool_inv {P : Program} {e : TypeId} (he : P.underlying e = some .bool) {v : Value} {z : DataW Unit × List MemPlace} (h : plainElem P e v = some z) : ∃ x, v = .bool x ∧ z = (.lit (.bool x), []) := by
  unfold plainElem at h
  rw [he] at h
  cases v <;> simp at h
  exact ⟨_, rfl, h.symm⟩

theorem IntSet.lt {w : World} {b : Nat} {vs : List Int} (h : IntSet w b vs) : b < w.heap.size := by obtain ⟨D, hown, _⟩ := h; exact hown.lt

theorem IntSet.grown {w w' : World} {b : Nat} {vs : List Int} (h : IntSet w b vs) {row : Option Nat} (hg : w.grownBy w' row) (hr : some b ≠ row) : IntSet w' b vs := by
  obtain ⟨D, hown, hat⟩ := h
  exact ⟨D, hown.kept hg hr, hat⟩

theorem IntSet.below {w w' : World} {b : Nat} {vs : List Int} (h : IntSet w b vs) (hb : Below w.heap.size w w') : IntSet w' b vs := h.grown (grown_of_below hb none) (by simp)

theorem IntSet.after {w w' : World} {b : Nat} {vs : List Int} {v : Int} {D : DataW Unit} {n : Nat} (hn : n = vs.length + 1) (hat : ∀ u, D.atKey (.int .i64 u) (.lit (.bool false)) = .lit (.bool (vs.contains u))) (hm : IsMap D)
    (h : w'.ownsMap Tryd.prog 3 (plainElem Tryd.prog 4) b n (D.put (.int .i64 v) (.lit (.bool true)))) : IntSet w' b (v :: vs) := by
  refine ⟨_, by subst hn; exact h, fun u => ?_⟩
  by_cases e : u = v
  · subst e
    rw [atKey_put_same hm (by trivial)]
    simp
  · rw [atKey_put_other (by intro h; injection h with _ h; exact e h), hat u]
    simp [e]

/-- the order of texts -/
def bl (a b : ByteArray) : Bool := Op.bytesLess a.toList b.toList

/-- an object of a store whose Next is next -/
def ObjOK (next : Int) (o : GObj) : Prop := KeyP o.key ∧ 1 ≤ o.ver ∧ o.ver < next ∧ o.data.size ≤ 600

/-- the first k objects are right -/
def PreOK (xs : List GObj) (next : Int) (k : Nat) : Prop :=
  (∀ i (h : i < xs.length), i < k → ObjOK next xs[i]) ∧ (∀ i (h : i + 1 < xs.length), i + 1 < k → bl xs[i].key xs[i + 1].key = true) ∧ (∀ i j (h : j < xs.length) (hij : i < j), j < k → xs[i].ver ≠ xs[j].ver)

/-- a store -/
def StoreP (xs : List GObj) (next : Int) : Prop := 1 ≤ next ∧ next ≤ 1000000000 ∧ xs.length ≤ 300 ∧ PreOK xs next xs.length

/-- objects as they can lie in memory: texts and numbers fit -/
def GObj.fit (o : GObj) : Prop := o.fits ∧ (Lit.int .i64 o.ver).wf = true

end Go.Proofs.YthmpmagajbmpaaaDoor
