/-
  Contracts of the laws' marking helpers on slices of Entrys: mark writes its marks into every element, held finds them there.
-/
import Derived.Test.YtpackpocnonpiaaDoorEnts
import Derived.Deep.RegionHeld3
namespace Go.Proofs.YtpackpocnonpiaaDoor
open Go.ChangeShapes Go.WideShapes Go.ChangeAt Go.RowKit Go.Deep Go.Joins
set_option linter.unusedVariables false

def mkEnt (k : Int) : GEnt := ⟨k, k + 1, k + 2, mtx (k + 3)⟩

def marksEnt (k : Int) (n : Nat) : List GEnt := (List.range n).map fun i : Nat => mkEnt (k + 4 * (i : Int))

theorem length_marksEnt (k : Int) (n : Nat) : (marksEnt k n).length = n := by simp [marksEnt]

theorem marksEnt_succ (k : Int) (n : Nat) : marksEnt k (n + 1) = marksEnt k n ++ [mkEnt (k + 4 * (n : Int))] := by simp [marksEnt, List.range_succ]

theorem marksEnt_at (k : Int) (n i : Nat) (h : i < (marksEnt k n).length) : (marksEnt k n)[i] = mkEnt (k + 4 * (i : Int)) := by simp [marksEnt]

end Go.Proofs.YtpackpocnonpiaaDoor
