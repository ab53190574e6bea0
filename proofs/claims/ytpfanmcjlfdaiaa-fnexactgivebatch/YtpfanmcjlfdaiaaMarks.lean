/-
  Contracts of the laws' marking helpers: mark writes its marks into every element of a slice of objects, held finds them there.
-/
import Derived.Test.YtpfanmcjlfdaiaaObjs
namespace Go.Proofs.Ytpfanmcjlfdaiaa
open Go.ChangeShapes Go.WideShapes Go.ChangeAt Go.RowKit
set_option linter.unusedVariables false

def mkObj (k : Int) : GObj := ⟨mtx k, k + 1, mtx (k + 2)⟩

def marks (k : Int) (n : Nat) : List GObj := (List.range n).map fun i : Nat => mkObj (k + 3 * (i : Int))

theorem length_marks (k : Int) (n : Nat) : (marks k n).length = n := by simp [marks]

theorem marks_succ (k : Int) (n : Nat) : marks k (n + 1) = marks k n ++ [mkObj (k + 3 * (n : Int))] := by simp [marks, List.range_succ]

theorem marks_at (k : Int) (n i : Nat) (h : i < (marks k n).length) : (marks k n)[i] = mkObj (k + 3 * (i : Int)) := by simp [marks]

theorem vals_length (o : GObj) : o.vals.length = 3 := rfl

end Go.Proofs.Ytpfanmcjlfdaiaa
