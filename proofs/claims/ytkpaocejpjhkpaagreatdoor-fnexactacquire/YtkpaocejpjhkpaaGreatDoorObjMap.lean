/-
  A map from texts to objects that the call made: what it holds, looked up, written, struck; the fault that calls on a key look for first; contract of open.
-/
import Derived.Test.YtkpaocejpjhkpaaGreatDoorSpecStoreOK
import Derived.Test.YtkpaocejpjhkpaaGreatDoorStrs
import Derived.Deep.RegionLaw
import Derived.Maps.OwnSet
namespace Go.Proofs.YtkpaocejpjhkpaaGreatDoor
open Go.ChangeShapes Go.WideShapes Go.ChangeAt Go.RowKit Go.Maps
set_option linter.unusedVariables false

theorem strKeyed : Keyed Tryz.prog 9 := string_keyed Tryz.underlying9

/-- an object as a datum -/
def objD (o : GObj) : DataW Unit := .agg [.lit (.string o.key.data.toList), .lit (.int .i64 o.ver), .lit (.string o.data.data.toList)]

/-- how an element reads -/
def objElem (v : Value) : Option (DataW Unit × List MemPlace) :=
  match v with
  | .agg cs => match cs.toList with
    | [.string k, .int .i64 n, .string d] => some (.agg [.lit (.string k.data.toList), .lit (.int .i64 n), .lit (.string d.data.toList)], [])
    | _ => none
  | _ => none

theorem objElem_mk (o : GObj) : objElem (.agg #[.string o.key, .int .i64 o.ver, .string o.data]) = some (objD o, []) := rfl

theorem objD_inj {o p : GObj} (h : objD o = objD p) : o = p := by
  unfold objD at h
  injection h with h
  simp only [List.cons.injEq, DataW.lit.injEq, Lit.string.injEq, Lit.int.injEq, true_and, and_true] at h
  obtain ⟨h0, h1, h2⟩ := h
  obtain ⟨k, v, d⟩ := o
  obtain ⟨k', v', d'⟩ := p
  simp only at h0 h1 h2
  rw [bytes_inj h0, h1, bytes_inj h2]

theorem objElem_inv {v : Value} {o : GObj} {ps : List MemPlace} (h : objElem v = some (objD o, ps)) : v = .agg #[.string o.key, .int .i64 o.ver, .string o.data] := by
  unfold objElem at h
  split at h
  · rename_i cs
    split at h
    · rename_i k n d he
      simp only [Option.some.injEq, Prod.mk.injEq] at h
      have := objD_inj (o := ⟨k, n, d⟩) (p := o) h.1
      subst this
      have : cs = #[.string k, .int .i64 n, .string d] := by
        apply Array.toList_inj.1; rw [he]
      rw [this]
    · cases h
  · cases h

/-- a text as a key's datum -/
def kl (s : ByteArray) : Lit := .string s.data.toList

theorem kl_inj {a b : ByteArray} (h : kl a = kl b) : a = b := by unfold kl at h; injection h with h; exact bytes_inj h

/-- a datum says of each text which object it has -/
def Tells (D : DataW Unit) (f : ByteArray → Option GObj) : Prop := ∀ k, (∀ z, D.atKey (kl k) z = match f k with | some o => objD o | none => z)

theorem Tells.has {D : DataW Unit} {f : ByteArray → Option GObj} (h : Tells D f) (k : ByteArray) : Maps.has D (kl k) = (f k).isSome := by
  have hk := h k
  cases hf : f k with
  | none => rw [hf] at hk; exact has_false_of_atKey hk
  | some o => rw [hf] at hk; exact has_true_of_atKey hk

theorem Tells.empty : Tells (.map []) (fun _ => none) := fun k z => rfl

theorem Tells.put {D : DataW Unit} {f : ByteArray → Option GObj} (h : Tells D f) (hm : IsMap D) (k : ByteArray) (o : GObj) : Tells (D.put (kl k) (objD o)) (fun x => if x = k then some o else f x) := by
  intro x z
  by_cases e : x = k
  · subst e
    simp only [if_true]
    exact atKey_put_same hm (by trivial) _ _
  · simp only [e, if_false]
    rw [atKey_put_other (fun hh => e (kl_inj hh))]
    exact h x z

theorem Tells.del {D : DataW Unit} {f : ByteArray → Option GObj} (h : Tells D f) (k : ByteArray) : Tells (D.del (kl k)) (fun x => if x = k then none else f x) := by
  intro x z
  by_cases e : x = k
  · subst e
    simp only [if_true]
    exact atKey_del_same _
  · simp only [e, if_false]
    rw [atKey_del_other (fun hh => e (kl_inj hh))]
    exact h x z

/-- block b is a map that tells of f, of at most n entries -/
def ObjMap (w : World) (b n : Nat) (f : ByteArray → Option GObj) : Prop := ∃ D : DataW Unit, w.ownsMap Tryz.prog 9 objElem b n D ∧ Tells D f

theorem zeroObjV (w : World) : (zeroValue 69).run Tryz.prog w = .ok (.agg #[.string ⟨#[]⟩, .int .i64 0, .string ⟨#[]⟩]) w := by kernel_rfl

theorem ObjMap.made (w : World) : ObjMap (w.alloc (.map #[] 0)) w.heap.size 0 (fun _ => none) := ⟨_, World.ownsMap_made _ _ _ _, Tells.empty⟩

theorem ObjMap.lt {w : World} {b n : Nat} {f : ByteArray → Option GObj} (h : ObjMap w b n f) : b < w.heap.size := by obtain ⟨D, hown, _⟩ := h; exact hown.lt

theorem ObjMap.grown {w w' : World} {b n : Nat} {f : ByteArray → Option GObj} (h : ObjMap w b n f) {row : Option Nat} (hg : w.grownBy w' row) (hr : some b ≠ row) : ObjMap w' b n f := by
  obtain ⟨D, hown, hat⟩ := h
  exact ⟨D, hown.kept hg hr, hat⟩

theorem ObjMap.below {w w' : World} {b n : Nat} {f : ByteArray → Option GObj} (h : ObjMap w b n f) (hb : Below w.heap.size w w') : ObjMap w' b n f := h.grown (grown_of_below hb none) (by simp)

/-- the object that a look-up answers: the one that is there, or one of zeros -/
def orZero : Option GObj → GObj
  | some o => o
  | none => zObj

theorem ObjMap.look {w : World} {b n : Nat} {f : ByteArray → Option GObj} (h : ObjMap w b n f) {k : ByteArray} (hk : k.size ≤ maxLen) :
    (Instr.lookup 96 (.map (some b)) (.string k) true).run Tryz.prog w = .ok (.tuple #[.agg #[.string (orZero (f k)).key, .int .i64 (orZero (f k)).ver, .string (orZero (f k)).data], .bool (f k).isSome]) w := by
  obtain ⟨D, hown, hat⟩ := h
  obtain ⟨u, ps, hrun, hu⟩ := hown.look_ok strKeyed Tryz.underlying96 (zeroObjV w) (objElem_mk zObj) (WideMaps.keyOf_string_mk Tryz.underlying9 hk)
  have h1 := hat k (objD zObj)
  have hh := hat.has k
  unfold kl at h1 hh
  rw [h1] at hu
  rw [hrun, hh]
  cases hf : f k with
  | none => rw [hf] at hu; rw [objElem_inv hu]; rfl
  | some o => rw [hf] at hu; rw [objElem_inv hu]; rfl

theorem ObjMap.put {w : World} {b n : Nat} {f : ByteArray → Option GObj} (h : ObjMap w b n f) (hn : n < maxLen) {k : ByteArray} (hk : k.size ≤ maxLen) (o : GObj) :
    ∃ w', (Instr.mapUpdate 96 (.map (some b)) (.string k) (.agg #[.string o.key, .int .i64 o.ver, .string o.data])).run Tryz.prog w = .ok () w' ∧ ObjMap w' b (n + 1) (fun x => if x = k then some o else f x) ∧ w.grownBy w' (some b) := by
  obtain ⟨D, hown, hat⟩ := h
  obtain ⟨w', hrun, hown', hg⟩ := hown.update strKeyed Tryz.underlying96 hn (WideMaps.keyOf_string_mk Tryz.underlying9 hk) (objElem_mk o)
  exact ⟨w', hrun, ⟨_, hown', hat.put hown.isMap k o⟩, hg⟩

/-- the first object of a key -/
def look (xs : List GObj) (k : ByteArray) : Option GObj := xs.find? fun o => decide (o.key = k)

/-- what open's map tells behind j rounds: the last object of a key -/
def tell (xs : List GObj) : Nat → ByteArray → Option GObj
  | 0, _ => none
  | j + 1, x => match xs[j]? with
    | some o => if x = o.key then some o else tell xs j x
    | none => tell xs j x

theorem tell_succ (xs : List GObj) (j : Nat) (h : j < xs.length) : tell xs (j + 1) = fun x => if x = xs[j].key then some xs[j] else tell xs j x := by
  funext x
  simp [tell, List.getElem?_eq_getElem h]

end Go.Proofs.YtkpaocejpjhkpaaGreatDoor
