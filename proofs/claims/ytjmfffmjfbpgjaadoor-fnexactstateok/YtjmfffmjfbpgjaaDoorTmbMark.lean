/-
  Contracts of the laws' marking helpers on slices of Tombs: mark writes its marks into every element, held finds them there.
-/
import Derived.Test.YtjmfffmjfbpgjaaDoorTmbs
import Derived.Deep.RegionHeld3
namespace Go.Proofs.YtjmfffmjfbpgjaaDoor
open Go.ChangeShapes Go.WideShapes Go.ChangeAt Go.RowKit Go.Deep Go.Joins
set_option linter.unusedVariables false

def mkTmb (k : Int) : GTmb := ⟨k, mtx (k + 1)⟩

def marksTmb (k : Int) (n : Nat) : List GTmb := (List.range n).map fun i : Nat => mkTmb (k + 2 * (i : Int))

theorem length_marksTmb (k : Int) (n : Nat) : (marksTmb k n).length = n := by simp [marksTmb]

theorem marksTmb_succ (k : Int) (n : Nat) : marksTmb k (n + 1) = marksTmb k n ++ [mkTmb (k + 2 * (n : Int))] := by simp [marksTmb, List.range_succ]

theorem marksTmb_at (k : Int) (n i : Nat) (h : i < (marksTmb k n).length) : (marksTmb k n)[i] = mkTmb (k + 2 * (i : Int)) := by simp [marksTmb]

end Go.Proofs.YtjmfffmjfbpgjaaDoor
