/-
  Words for records, and contracts of the laws' own helpers on them (eq, sz, to). No conditions.
-/
import Derived.Test.YtpfanmcjlfdaiaaEnts
namespace Go.Proofs.Ytpfanmcjlfdaiaa
open Go.ChangeShapes Go.WideShapes Go.ChangeAt Go.RowKit Go.Deep Go.Joins
set_option linter.unusedVariables false
set_option linter.unusedSimpArgs false

/-- a record as data -/
structure GRec where
  kind : Int
  tok : Int
  tier : Int
  beg : Int
  fin : Int
  key : ByteArray
deriving DecidableEq

def GRec.vals (r : GRec) : List Value := [.int .i64 r.kind, .int .i64 r.tok, .int .i64 r.tier, .int .i64 r.beg, .int .i64 r.fin, .string r.key]

def GRec.fit (r : GRec) : Prop := I64 r.kind ∧ I64 r.tok ∧ I64 r.tier ∧ I64 r.beg ∧ I64 r.fin ∧ r.key.size ≤ maxLen

def GRec.small (r : GRec) : Prop := r.key.size ≤ 1048576

def zRec : GRec := ⟨0, 0, 0, 0, 0, ⟨#[]⟩⟩

/-- a record's entry -/
def GRec.ent (r : GRec) : GEnt := ⟨r.tier, r.beg, r.fin, r.key⟩

/-- a record lies in a block of its own -/
def RecAt (w : World) (b : Nat) (r : GRec) : Prop := Cells w b 0 r.vals

theorem RecAt.cells {w : World} {b : Nat} {r : GRec} (h : RecAt w b r) : w.cell? ⟨b, 0, none⟩ = some (.int .i64 r.kind) ∧ w.cell? ⟨b, 1, none⟩ = some (.int .i64 r.tok) ∧ w.cell? ⟨b, 2, none⟩ = some (.int .i64 r.tier) ∧ w.cell? ⟨b, 3, none⟩ = some (.int .i64 r.beg) ∧ w.cell? ⟨b, 4, none⟩ = some (.int .i64 r.fin) ∧ w.cell? ⟨b, 5, none⟩ = some (.string r.key) := ⟨h 0 _ rfl, h 1 _ rfl, h 2 _ rfl, h 3 _ rfl, h 4 _ rfl, h 5 _ rfl⟩

theorem Cells.new (w : World) (vs : List Value) (t : TypeId) : Cells (w.alloc (.cells ⟨vs⟩ t)) w.heap.size 0 vs := fun j v h => by
  rw [World.cell?_alloc_new, Nat.zero_add]
  simpa using h

theorem Cells.below {w w' : World} {b o B : Nat} {vs : List Value} (h : Cells w b o vs) (hb : Below B w w') (hB : b < B) : Cells w' b o vs := fun j v hv => (hb.cell (p := ⟨b, o + j, none⟩) hB).trans (h j v hv)

theorem Cells.far {w : World} {b o : Nat} {vs : List Value} (h : Cells w b o vs) {p : Addr} (hp : b ≠ p.block) (u : Value) : Cells (w.setCell p u) b o vs := fun j v hv =>
  (World.cell?_setCell_other w p ⟨b, o + j, none⟩ u (fun he => hp (by rw [he]))).trans (h j v hv)

theorem RecAt.new (w : World) (r : GRec) (t : TypeId) : RecAt (w.alloc (.cells #[.int .i64 r.kind, .int .i64 r.tok, .int .i64 r.tier, .int .i64 r.beg, .int .i64 r.fin, .string r.key] t)) w.heap.size r := Cells.new w r.vals t

theorem RecAt.below {w w' : World} {b B : Nat} {r : GRec} (h : RecAt w b r) (hb : Below B w w') (hB : b < B) : RecAt w' b r := Cells.below h hb hB

end Go.Proofs.Ytpfanmcjlfdaiaa
