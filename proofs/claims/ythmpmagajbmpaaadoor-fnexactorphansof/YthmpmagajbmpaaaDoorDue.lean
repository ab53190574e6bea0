/-
  What a right state's frontiers are bounded by; which window is due. No Go text is walked here.
-/
import Derived.Test.YthmpmagajbmpaaaDoorStp
namespace Go.Proofs.YthmpmagajbmpaaaDoor
open Go.ChangeShapes Go.WideShapes Go.ChangeAt Go.RowKit Go.Deep Go.Joins Go.Maps
set_option linter.unusedVariables false
set_option linter.unusedSimpArgs false

def TriIn (t : GTri) (lo hi : Int) : Prop := (lo ≤ t.a ∧ t.a ≤ hi) ∧ (lo ≤ t.b ∧ t.b ≤ hi) ∧ (lo ≤ t.c ∧ t.c ≤ hi)

theorem TriIn.set {t : GTri} {lo hi i v : Int} (h : TriIn t lo hi) (h0 : lo ≤ v) (h1 : v ≤ hi) : TriIn (t.set i v) lo hi := by
  unfold GTri.set TriIn at *
  split
  · exact ⟨⟨h0, h1⟩, h.2.1, h.2.2⟩
  · split
    · exact ⟨h.1, ⟨h0, h1⟩, h.2.2⟩
    · exact ⟨h.1, h.2.1, ⟨h0, h1⟩⟩

theorem ends_in {lo hi : Int} : ∀ (es : List GEnt) (t : GTri), TriIn t lo hi → (∀ e ∈ es, lo ≤ e.fin ∧ e.fin ≤ hi) → TriIn (endsOf t es) lo hi
  | [], t, h, _ => h
  | e :: es, t, h, he => ends_in es (t.set e.tier e.fin) (h.set (he e (by simp)).1 (he e (by simp)).2) (fun x hx => he x (by simp [hx]))

theorem EntP.rng {e : GEnt} (h : EntP e) : 0 ≤ e.beg ∧ e.beg < e.fin ∧ e.fin ≤ 100000 := by
  have h1 := rngB_iff.1 h.2.2
  have h2 := h.2.1
  omega

theorem StP.ent {s : GSt} (h : StP s) {k : Nat} (hk : k < s.ents.length) : EntP s.ents[k] := (h.2.2.2.1.2.1 k hk hk).1

theorem LowP.tri {t : GTri} (h : LowP t) : TriIn t 0 100000 := by
  have h0 := h 0 (by omega)
  have h1 := h 1 (by omega)
  have h2 := h 2 (by omega)
  simp [GTri.at] at h0 h1 h2
  exact ⟨h0, h1, h2⟩

theorem StP.low {s : GSt} (h : StP s) : TriIn s.lo 0 100000 := h.2.2.2.1.1.tri

theorem StP.high {s : GSt} (h : StP s) : TriIn s.hi 0 100000 := by
  rw [← h.2.2.2.1.2.2]
  refine ends_in _ _ h.low (fun e he => ?_)
  obtain ⟨k, hk, rfl⟩ := List.getElem_of_mem he
  have := (h.ent hk).rng
  omega

/-- the tier whose next window is due, where that begins, whether there is one -/
def dueV (s : GSt) : Int × Int × Bool := if s.hi.b + 5 ≤ s.hi.a then (1, s.hi.b, true) else if s.hi.c + 20 ≤ s.hi.b then (2, s.hi.c, true) else (0, 0, false)

/-- what both answer -/
def DueR (s : GSt) (w : World) (e : Ending) (w' : World) : Prop :=
  ((StP s ∧ e = .returned (.tuple #[.int .i64 (dueV s).1, .int .i64 (dueV s).2.1, .bool (dueV s).2.2, .int .i64 0])) ∨ (¬ StP s ∧ e = .returned (.tuple #[.int .i64 0, .int .i64 0, .bool false, .int .i64 1]))) ∧ Below w.heap.size w w'

def DueVal (s : GSt) (p q : Int) (b : Bool) (z : Int) : Prop := (StP s ∧ p = (dueV s).1 ∧ q = (dueV s).2.1 ∧ b = (dueV s).2.2 ∧ z = 0) ∨ (¬ StP s ∧ p = 0 ∧ q = 0 ∧ b = false ∧ z = 1)

theorem DueVal.one {s : GSt} {p q p' q' z z' : Int} {b b' : Bool} (h : DueVal s p q b z) (h' : DueVal s p' q' b' z') : p' = p ∧ q' = q ∧ b' = b ∧ z' = z := by
  rcases h with ⟨h0, rfl, rfl, rfl, rfl⟩ | ⟨h0, rfl, rfl, rfl, rfl⟩ <;> rcases h' with ⟨k0, rfl, rfl, rfl, rfl⟩ | ⟨k0, rfl, rfl, rfl, rfl⟩
  · exact ⟨rfl, rfl, rfl, rfl⟩
  · exact absurd h0 k0
  · exact absurd k0 h0
  · exact ⟨rfl, rfl, rfl, rfl⟩

theorem DueR.val {s : GSt} {w w' : World} {e : Ending} (h : DueR s w e w') : ∃ p q b z, DueVal s p q b z ∧ e = .returned (.tuple #[.int .i64 p, .int .i64 q, .bool b, .int .i64 z]) ∧ Below w.heap.size w w' := by
  obtain ⟨h0 | h0, hb⟩ := h
  · exact ⟨_, _, _, _, Or.inl ⟨h0.1, rfl, rfl, rfl, rfl⟩, h0.2, hb⟩
  · exact ⟨_, _, _, _, Or.inr ⟨h0.1, rfl, rfl, rfl, rfl⟩, h0.2, hb⟩

end Go.Proofs.YthmpmagajbmpaaaDoor
