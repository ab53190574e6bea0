/-
  Words for slices of Entrys in memory, and contracts of the laws' own helpers on them (eq, sz, to).
-/
import Derived.Test.YtpfanmcjlfdaiaaConv
import Derived.Test.YtpfanmcjlfdaiaaPuts
import Derived.Test.YtpfanmcjlfdaiaaAggLaw
import Derived.Laws.StructEq
namespace Go.Proofs.Ytpfanmcjlfdaiaa
open Go.ChangeShapes Go.WideShapes Go.ChangeAt Go.RowKit Go.Deep Go.Joins
set_option linter.unusedVariables false
set_option linter.unusedSimpArgs false

structure GEnt where
  tier : Int
  beg : Int
  fin : Int
  key : ByteArray
deriving DecidableEq

def GEnt.vals (o : GEnt) : List Value := [.int .i64 o.tier, .int .i64 o.beg, .int .i64 o.fin, .string o.key]

def GEnt.fit (o : GEnt) : Prop := I64 o.tier ∧ I64 o.beg ∧ I64 o.fin ∧ o.key.size ≤ maxLen

def GEnt.small (o : GEnt) : Prop := o.key.size ≤ 1048576

def zEnt : GEnt := ⟨0, 0, 0, ⟨#[]⟩⟩

/-- a slice of them -/
def EntsAt (w : World) (B : Nat) (A : Option Addr) (xs : List GEnt) : Prop := Sl GEnt.vals 4 w B A xs

theorem EntsAt.one {w : World} {B : Nat} {A : Option Addr} {xs : List GEnt} (h : EntsAt w B A xs) {k : Nat} (hk : k < xs.length) :
    ∃ b off, A = some ⟨b, off, none⟩ ∧ b < B ∧ w.cell? ⟨b, off + k * 4, none⟩ = some (.int .i64 xs[k].tier) ∧ w.cell? ⟨b, off + k * 4 + 1, none⟩ = some (.int .i64 xs[k].beg) ∧ w.cell? ⟨b, off + k * 4 + 2, none⟩ = some (.int .i64 xs[k].fin) ∧ w.cell? ⟨b, off + k * 4 + 3, none⟩ = some (.string xs[k].key) := by
  obtain ⟨b, off, e, hb, hc⟩ := Sl.at_ h hk
  exact ⟨b, off, e, hb, hc 0 _ rfl, hc 1 _ rfl, hc 2 _ rfl, hc 3 _ rfl⟩

theorem len_Ent (o : GEnt) : o.vals.length = 4 := rfl

/-- which of two's fields is the first to differ, in the forms that a walk asks -/
theorem ent_cases (o p : GEnt) : (o = p) ∨ (o ≠ p ∧ (o.tier == p.tier) = false) ∨ (o ≠ p ∧ (o.tier == p.tier) = true ∧ (o.beg == p.beg) = false) ∨ (o ≠ p ∧ (o.tier == p.tier) = true ∧ (o.beg == p.beg) = true ∧ (o.fin == p.fin) = false) ∨ (o ≠ p ∧ (o.tier == p.tier) = true ∧ (o.beg == p.beg) = true ∧ (o.fin == p.fin) = true ∧ (o.key.toList == p.key.toList) = false) := by
  by_cases h0 : o.tier = p.tier
  · by_cases h1 : o.beg = p.beg
    · by_cases h2 : o.fin = p.fin
      · by_cases h3 : o.key = p.key
        · exact .inl (by cases o; cases p; simp at h0 h1 h2 h3; simp [h0, h1, h2, h3])
        · exact .inr (.inr (.inr (.inr (⟨fun e => h3 (by rw [e]), by simpa using h0, by simpa using h1, by simpa using h2, ne_list h3⟩))))
      · exact .inr (.inr (.inr (.inl ⟨fun e => h2 (by rw [e]), by simpa using h0, by simpa using h1, by simpa using h2⟩)))
    · exact .inr (.inr (.inl ⟨fun e => h1 (by rw [e]), by simpa using h0, by simpa using h1⟩))
  · exact .inr (.inl ⟨fun e => h0 (by rw [e]), by simpa using h0⟩)

/-- a slice of them is answered, in new memory of its own -/
def NewEnts (xs : List GEnt) (w : World) (e : Ending) (w' : World) : Prop :=
  ∃ (A : Option Addr) (c : Nat), e = .returned (.slice A xs.length c) ∧ EntsAt w' w'.heap.size A xs ∧ Free w' A ∧ (∀ b, blk A = some b → w.heap.size ≤ b ∧ b < w'.heap.size) ∧ xs.length ≤ c ∧ Below w.heap.size w w'

end Go.Proofs.Ytpfanmcjlfdaiaa
