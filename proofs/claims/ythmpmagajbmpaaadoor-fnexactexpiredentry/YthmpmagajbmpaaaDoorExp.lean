/-
  A tier's first entry; which entry is to go. No Go text is walked here.
-/
import Derived.Test.YthmpmagajbmpaaaDoorDue
import Derived.Test.YthmpmagajbmpaaaDoorTierA
namespace Go.Proofs.YthmpmagajbmpaaaDoor
open Go.ChangeShapes Go.WideShapes Go.ChangeAt Go.RowKit Go.Deep Go.Joins Go.Maps
set_option linter.unusedVariables false
set_option linter.unusedSimpArgs false


/-- a tier's first entry -/
def firstE (es : List GEnt) (t : Int) : Option GEnt := es.find? fun e => e.tier == t

/-- none of the first k is of that tier -/
def NoT (es : List GEnt) (t : Int) (k : Nat) : Prop := ∀ j (hj : j < es.length), j < k → (es[j].tier == t) = false

theorem NoT.zero (es : List GEnt) (t : Int) : NoT es t 0 := fun j hj h => by omega

theorem NoT.succ {es : List GEnt} {t : Int} {k : Nat} (h : NoT es t k) (h1 : ∀ hk : k < es.length, (es[k].tier == t) = false) : NoT es t (k + 1) := fun j hj hjk => by
  by_cases e : j = k
  · subst e; exact h1 hj
  · exact h j hj (by omega)

theorem firstE_at {es : List GEnt} {t : Int} {k : Nat} (h : NoT es t k) (hk : k < es.length) (h1 : (es[k].tier == t) = true) : firstE es t = some es[k] := by
  unfold firstE
  rw [List.find?_eq_some_iff_getElem]
  exact ⟨h1, k, hk, rfl, fun j hj => by simp [h j (by omega) hj]⟩

theorem firstE_no {es : List GEnt} {t : Int} {k : Nat} (h : NoT es t k) (hk : es.length ≤ k) : firstE es t = none := by
  unfold firstE
  rw [List.find?_eq_none]
  intro x hx
  obtain ⟨j, hj, rfl⟩ := List.getElem_of_mem hx
  simp [h j hj (by omega)]

theorem firstE_mem {es : List GEnt} {t : Int} {e : GEnt} (h : firstE es t = some e) : e ∈ es ∧ e.tier = t := by
  unfold firstE at h
  exact ⟨List.mem_of_find?_eq_some h, by simpa using List.find?_some h⟩

def upB (s : GSt) (k : Nat) (e : GEnt) : Bool := decide (k = 2) || decide (e.fin ≤ s.hi.at ((k + 1 : Nat) : Int))

/-- old enough, and rolled up -/
def ageB (s : GSt) (now : Int) (k : Nat) (e : GEnt) : Bool := decide (e.fin + kep k ≤ now) && upB s k e

def expAt (s : GSt) (now : Int) (k : Nat) : Option GEnt := match firstE s.ents k with
  | some e => if ageB s now k e = true then some e else none
  | none => none

/-- the entry that is to go -/
def expV (s : GSt) (now : Int) : Option GEnt := match expAt s now 0 with
  | some e => some e
  | none => match expAt s now 1 with
    | some e => some e
    | none => expAt s now 2

theorem expV_at {s : GSt} {now : Int} {k : Nat} {e : GEnt} (hk : k < 3) (h : ∀ j, j < k → expAt s now j = none) (h1 : expAt s now k = some e) : expV s now = some e := by
  unfold expV
  rcases three hk with rfl | rfl | rfl
  · rw [h1]
  · rw [h 0 (by omega), h1]
  · rw [h 0 (by omega), h 1 (by omega)]; exact h1

theorem expV_no {s : GSt} {now : Int} (h : ∀ j, j < 3 → expAt s now j = none) : expV s now = none := by
  unfold expV
  rw [h 0 (by omega), h 1 (by omega)]
  exact h 2 (by omega)

def NowP (now : Int) : Prop := 0 ≤ now ∧ now ≤ 101000

def ExpVal (s : GSt) (now : Int) (e : GEnt) (b : Bool) (z : Int) : Prop :=
  (StP s ∧ NowP now ∧ e = (expV s now).getD zEnt ∧ b = (expV s now).isSome ∧ z = 0) ∨ (¬ StP s ∧ e = zEnt ∧ b = false ∧ z = 1) ∨ (StP s ∧ ¬ NowP now ∧ e = zEnt ∧ b = false ∧ z = 4)

theorem ExpVal.one {s : GSt} {now : Int} {e e' : GEnt} {b b' : Bool} {z z' : Int} (h : ExpVal s now e b z) (h' : ExpVal s now e' b' z') : e' = e ∧ b' = b ∧ z' = z := by
  rcases h with ⟨h0, h1, rfl, rfl, rfl⟩ | ⟨h0, rfl, rfl, rfl⟩ | ⟨h0, h1, rfl, rfl, rfl⟩ <;> rcases h' with ⟨k0, k1, rfl, rfl, rfl⟩ | ⟨k0, rfl, rfl, rfl⟩ | ⟨k0, k1, rfl, rfl, rfl⟩
  all_goals first | exact ⟨rfl, rfl, rfl⟩ | exact absurd h0 k0 | exact absurd k0 h0 | exact absurd h1 k1 | exact absurd k1 h1

/-- an entry, whether there is one, and a code are answered -/
def ExpR (s : GSt) (now : Int) (w : World) (e : Ending) (w' : World) : Prop :=
  ∃ x b z, ExpVal s now x b z ∧ e = .returned (.tuple #[.agg #[.int .i64 x.tier, .int .i64 x.beg, .int .i64 x.fin, .string x.key], .bool b, .int .i64 z]) ∧ Below w.heap.size w w'

end Go.Proofs.YthmpmagajbmpaaaDoor
