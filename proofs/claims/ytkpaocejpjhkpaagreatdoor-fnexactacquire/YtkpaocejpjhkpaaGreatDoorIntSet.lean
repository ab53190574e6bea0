/-
  A set of numbers kept as a Go map from int to bool that the call made: what it holds, looked up, written; and what a store is (the predicate), with the object's own check.
-/
import Derived.Test.YtkpaocejpjhkpaaGreatDoorTo
import Derived.Maps.Own
import Derived.Maps.OwnOps
import Derived.Maps.OwnSet
import Derived.WalkLawsBesides
namespace Go.Proofs.YtkpaocejpjhkpaaGreatDoor
open Go.ChangeShapes Go.WideShapes Go.ChangeAt Go.RowKit Go.Maps
set_option linter.unusedVariables false

theorem intKeyed : Keyed Tryz.prog 3 := int_keyed Tryz.underlying3

theorem zeroBool (w : World) : (zeroValue 4).run Tryz.prog w = .ok (.bool false) w := by kernel_rfl

/-- block b is a map from int to bool that says true just of the numbers vs -/
def IntSet (w : World) (b : Nat) (vs : List Int) : Prop :=
  ∃ D : DataW Unit, w.ownsMap Tryz.prog 3 (plainElem Tryz.prog 4) b vs.length D ∧ ∀ v, D.atKey (.int .i64 v) (.lit (.bool false)) = .lit (.bool (vs.contains v))

theorem run_makeMap_some (t k e : TypeId) (n : Int) (ht : Tryz.prog.underlying t = some (.map k e)) (w : World) :
    (Instr.makeMap t (some (.int .i64 n))).run Tryz.prog w = .ok (.map (some w.heap.size)) (w.alloc (.map #[] 0)) := by
  simp [Instr.makeMap, run_underlying ht]; rfl

theorem IntSet.made (w : World) : IntSet (w.alloc (.map #[] 0)) w.heap.size [] := ⟨_, World.ownsMap_made _ _ _ _, fun v => rfl⟩

theorem plainElem_bool_inv {P : Program} {e : TypeId} (he : P.underlying e = some .bool) {v : Value} {z : DataW Unit × List MemPlace} (h : plainElem P e v = some z) : ∃ x, v = .bool x ∧ z = (.lit (.bool x), []) := by
  unfold plainElem at h
  rw [he] at h
  cases v <;> simp at h
  exact ⟨_, rfl, h.symm⟩

theorem IntSet.look {w : World} {b : Nat} {vs : List Int} (h : IntSet w b vs) {v : Int} (hv : (Lit.int .i64 v).wf = true) :
    (Instr.lookup 92 (.map (some b)) (.int .i64 v) false).run Tryz.prog w = .ok (.bool (vs.contains v)) w := by
  obtain ⟨D, hown, hat⟩ := h
  obtain ⟨u, ps, hrun, hu⟩ := hown.lookup intKeyed Tryz.underlying92 (zeroBool w) (plainElem_bool Tryz.underlying4 false) (keyOf_int_mk Tryz.underlying3 hv)
  obtain ⟨x, rfl, hx⟩ := plainElem_bool_inv Tryz.underlying4 hu
  rw [hat v] at hx
  simp only [Prod.mk.injEq, DataW.lit.injEq, Lit.bool.injEq] at hx
  rw [hrun, hx.1]

theorem IntSet.lt {w : World} {b : Nat} {vs : List Int} (h : IntSet w b vs) : b < w.heap.size := by obtain ⟨D, hown, _⟩ := h; exact hown.lt

theorem IntSet.grown {w w' : World} {b : Nat} {vs : List Int} (h : IntSet w b vs) {row : Option Nat} (hg : w.grownBy w' row) (hr : some b ≠ row) : IntSet w' b vs := by
  obtain ⟨D, hown, hat⟩ := h
  exact ⟨D, hown.kept hg hr, hat⟩

theorem IntSet.below {w w' : World} {b : Nat} {vs : List Int} (h : IntSet w b vs) (hb : Below w.heap.size w w') : IntSet w' b vs := h.grown (grown_of_below hb none) (by simp)

theorem IntSet.after {w w' : World} {b : Nat} {vs : List Int} {v : Int} {D : DataW Unit} {n : Nat} (hn : n = vs.length + 1) (hat : ∀ u, D.atKey (.int .i64 u) (.lit (.bool false)) = .lit (.bool (vs.contains u))) (hm : IsMap D)
    (h : w'.ownsMap Tryz.prog 3 (plainElem Tryz.prog 4) b n (D.put (.int .i64 v) (.lit (.bool true)))) : IntSet w' b (v :: vs) := by
  refine ⟨_, by subst hn; exact h, fun u => ?_⟩
  by_cases e : u = v
  · subst e
    rw [atKey_put_same hm (by trivial)]
    simp
  · rw [atKey_put_other (by intro h; injection h with _ h; exact e h), hat u]
    simp [e]

/-- the order of texts -/
def bl (a b : ByteArray) : Bool := Op.bytesLess a.toList b.toList

/-- an object of a store whose Next is next -/
def ObjOK (next : Int) (o : GObj) : Prop := KeyP o.key ∧ 1 ≤ o.ver ∧ o.ver < next ∧ o.data.size ≤ 600

/-- the first k objects are right -/
def PreOK (xs : List GObj) (next : Int) (k : Nat) : Prop :=
  (∀ i (h : i < xs.length), i < k → ObjOK next xs[i]) ∧ (∀ i (h : i + 1 < xs.length), i + 1 < k → bl xs[i].key xs[i + 1].key = true) ∧ (∀ i j (h : j < xs.length) (hij : i < j), j < k → xs[i].ver ≠ xs[j].ver)

/-- a store -/
def StoreP (xs : List GObj) (next : Int) : Prop := 1 ≤ next ∧ next ≤ 1000000000 ∧ xs.length ≤ 300 ∧ PreOK xs next xs.length

/-- objects as they can lie in memory: texts and numbers fit -/
def GObj.fit (o : GObj) : Prop := o.fits ∧ (Lit.int .i64 o.ver).wf = true

theorem objRight_any (o : GObj) (next : Int) (w : World) (ho : o.fits) :
    Calls Tryz.prog 62 #[.agg #[.string o.key, .int .i64 o.ver, .string o.data], .int .i64 next] w (IsBB (ObjOK next o) w) := by
  obtain ⟨ok, od⟩ := ho
  unfold maxLen at od
  go_enter Tryz.func62, Tryz.ntmps62
  go_wp2_with fail
  refine (key_any o.key _ ok).mono ?_
  rintro e w1 ⟨b, hb, rfl, rfl⟩
  have Hb := Lib.hid hb; clear hb
  cases b
  · have hn : ¬ ObjOK next o := fun h => by have := Hb.out.2 h.1; cases this
    have Hn := Lib.hid hn; clear hn Hb
    go_wp2
    go_ret
    exact ⟨false, by simp [Hn.out], rfl, bal (Below.refl _ _) _⟩
  · have hk : KeyP o.key := Hb.out.1 rfl
    have Hk := Lib.hid hk; clear hk Hb
    by_cases c1 : 1 ≤ o.ver
    · by_cases c2 : o.ver < next
      · by_cases c3 : o.data.size ≤ 600
        · have hn : ObjOK next o := ⟨Hk.out, c1, c2, c3⟩
          have Hn := Lib.hid hn; clear hn
          go_wp2
          go_ret
          exact ⟨true, by simp [Hn.out], by simp; omega, bal (Below.refl _ _) _⟩
        · have hn : ¬ ObjOK next o := fun h => c3 h.2.2.2
          have Hn := Lib.hid hn; clear hn
          have d3 : decide ((o.data.size : Int) ≤ 600) = false := by simp; omega
          go_wp2
          go_ret
          exact ⟨false, by simp [Hn.out], rfl, bal (Below.refl _ _) _⟩
      · have hn : ¬ ObjOK next o := fun h => c2 h.2.2.1
        have Hn := Lib.hid hn; clear hn
        have d2 : decide (o.ver < next) = false := by simpa using c2
        go_wp2
        go_ret
        exact ⟨false, by simp [Hn.out], rfl, bal (Below.refl _ _) _⟩
    · have hn : ¬ ObjOK next o := fun h => c1 h.2.1
      have Hn := Lib.hid hn; clear hn
      have d1 : decide (1 ≤ o.ver) = false := by simpa using c1
      go_wp2
      go_ret
      exact ⟨false, by simp [Hn.out], rfl, bal (Below.refl _ _) _⟩

end Go.Proofs.YtkpaocejpjhkpaaGreatDoor
