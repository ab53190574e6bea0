/-
  Contracts of NameOK of both packages: each answers true just of a name, at every text; the world stays as it was. Conditions: none beside the form's own bound of a text's length.
-/
import Derived.Test.YtpfanmcjlfdaiaaBytes
import Derived.Outline
import Derived.Lib.Hide
namespace Go.Proofs.Ytpfanmcjlfdaiaa
open Go.ChangeShapes Go.WideShapes Go.ChangeAt Go.RowKit
set_option linter.unusedVariables false

/-- a bool is answered that says whether P; the world stays -/
def IsB (P : Prop) (w : World) (e : Ending) (w' : World) : Prop := ∃ b : Bool, (b = true ↔ P) ∧ e = .returned (.bool b) ∧ w = w'

theorem IsB.yes {P : Prop} {w : World} (h : P) : IsB P w (.returned (.bool true)) w := ⟨true, by simp [h], rfl, rfl⟩

theorem IsB.no {P : Prop} {w : World} (h : ¬ P) : IsB P w (.returned (.bool false)) w := ⟨false, by simp [h], rfl, rfl⟩

/-- letter or digit -/
def wordB (n : Int) : Bool := lettB n || digB n

def NameP (s : ByteArray) : Prop := 1 ≤ s.size ∧ s.size ≤ 40 ∧ (∀ h : 0 < s.size, lettB (s[0].toNat : Int) = true) ∧ ∀ k, (h : k < s.size) → 1 ≤ k → wordB (s[k].toNat : Int) = true

theorem lett_not_dig (n : Int) (h : lettB n = true) : digB n = false := by
  simp [lettB, digB] at *; omega

end Go.Proofs.Ytpfanmcjlfdaiaa
