/-
  An aggregate that came in, opened; contracts of the laws' own helpers on aggregates (to, eq).
-/
import Derived.Test.YtpfanmcjlfdaiaaGreatDoorRN2
import Derived.Test.YtpfanmcjlfdaiaaGreatDoorROpenSl
namespace Go.Proofs.YtpfanmcjlfdaiaaGreatDoorR
open Go.ChangeShapes Go.WideShapes Go.ChangeAt Go.RowKit Go.Deep Go.Joins
set_option linter.unusedVariables false

/-- a whole number that fits an int -/
def I64 (n : Int) : Prop := -9223372036854775808 ≤ n ∧ n ≤ 9223372036854775807

def GAgg.fit (a : GAgg) : Prop := I64 a.cnt ∧ I64 a.sum ∧ I64 a.mn ∧ I64 a.mx ∧ I64 a.fst ∧ I64 a.lst

theorem i64_of_wf {n : Int} (h : (Lit.int .i64 n).wf = true) : I64 n := by
  simp only [Lit.wf, Bool.and_eq_true, decide_eq_true_eq] at h
  exact h

def GAgg.vals (a : GAgg) : List Value := [.int .i64 a.cnt, .int .i64 a.sum, .int .i64 a.mn, .int .i64 a.mx, .int .i64 a.fst, .int .i64 a.lst]

/-- an aggregate lies in a block of its own -/
def Six (w : World) (b : Nat) (a : GAgg) : Prop :=
  w.cell? ⟨b, 0, none⟩ = some (.int .i64 a.cnt) ∧ w.cell? ⟨b, 1, none⟩ = some (.int .i64 a.sum) ∧ w.cell? ⟨b, 2, none⟩ = some (.int .i64 a.mn) ∧
  w.cell? ⟨b, 3, none⟩ = some (.int .i64 a.mx) ∧ w.cell? ⟨b, 4, none⟩ = some (.int .i64 a.fst) ∧ w.cell? ⟨b, 5, none⟩ = some (.int .i64 a.lst)

theorem Six.new (w : World) (a : GAgg) (t : TypeId) : Six (w.alloc (.cells #[.int .i64 a.cnt, .int .i64 a.sum, .int .i64 a.mn, .int .i64 a.mx, .int .i64 a.fst, .int .i64 a.lst] t)) w.heap.size a := ⟨by simp, by simp, by simp, by simp, by simp, by simp⟩

theorem Six.below {w w' : World} {b B : Nat} {a : GAgg} (h : Six w b a) (hb : Below B w w') (hB : b < B) : Six w' b a :=
  ⟨(hb.cell (p := ⟨b, 0, none⟩) hB).trans h.1, (hb.cell (p := ⟨b, 1, none⟩) hB).trans h.2.1, (hb.cell (p := ⟨b, 2, none⟩) hB).trans h.2.2.1, (hb.cell (p := ⟨b, 3, none⟩) hB).trans h.2.2.2.1, (hb.cell (p := ⟨b, 4, none⟩) hB).trans h.2.2.2.2.1, (hb.cell (p := ⟨b, 5, none⟩) hB).trans h.2.2.2.2.2⟩

theorem Six.alloc {w : World} {b : Nat} {a : GAgg} (h : Six w b a) (hB : b < w.heap.size) (o : Obj) : Six (w.alloc o) b a := h.below (bal (Below.refl _ _) o) hB

section

variable {H : Type} {enc : TypeId × Value → H} {base : Nat} {spare : Nat → Bool} {held : Bool}

end

end Go.Proofs.YtpfanmcjlfdaiaaGreatDoorR
