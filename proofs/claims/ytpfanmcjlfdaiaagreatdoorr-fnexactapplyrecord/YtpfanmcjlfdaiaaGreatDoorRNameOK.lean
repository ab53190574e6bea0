/-
  Contracts of NameOK of both packages: each answers true just of a name, at every text; the world stays as it was. Conditions: none beside the form's own bound of a text's length.
-/
import Derived.Test.YtpfanmcjlfdaiaaGreatDoorRBytes
import Derived.Outline
import Derived.Lib.Hide
namespace Go.Proofs.YtpfanmcjlfdaiaaGreatDoorR
open Go.ChangeShapes Go.WideShapes Go.ChangeAt Go.RowKit
set_option linter.unusedVariables false

/-- a bool is answered that says whether P; the world stays -/
def IsB (P : Prop) (w : World) (e : Ending) (w' : World) : Prop := ∃ b : Bool, (b = true ↔ P) ∧ e = .returned (.bool b) ∧ w = w'

theorem IsB.yes {P : Prop} {w : World} (h : P) : IsB P w (.returned (.bool true)) w := ⟨true, by simp [h], rfl, rfl⟩

theorem IsB.no {P : Prop} {w : World} (h : ¬ P) : IsB P w (.returned (.bool false)) w := ⟨false, by simp [h], rfl, rfl⟩

end Go.Proofs.YtpfanmcjlfdaiaaGreatDoorR
