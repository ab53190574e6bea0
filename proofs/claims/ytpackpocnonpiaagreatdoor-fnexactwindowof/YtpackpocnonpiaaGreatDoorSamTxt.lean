/-
  Contracts of impl.sampleText, of listText over samples, and of impl.SamplesText. Conditions: the library's table of powers of ten is as its text lays it.
-/
import Derived.Test.YtpackpocnonpiaaGreatDoorNumTxt
import Derived.Test.YtpackpocnonpiaaGreatDoorSamImpl
import Derived.Test.YtpackpocnonpiaaGreatDoorAppS
namespace Go.Proofs.YtpackpocnonpiaaGreatDoor
open Go.ChangeShapes Go.WideShapes Go.ChangeAt Go.RowKit
set_option linter.unusedVariables false
set_option linter.unusedSimpArgs false

/-- the text of a sample -/
def samT (s : GSam) : ByteArray := numT s.t ++ ⟨#[61]⟩ ++ numT s.v

def blank : ByteArray := ⟨#[32]⟩

theorem blank_size : blank.size = 1 := rfl

theorem samT_size {s : GSam} (h : s.fit) : (samT s).size ≤ 43 := by
  unfold samT
  rw [ByteArray.size_append, ByteArray.size_append]
  have h1 := numT_le h.1.1 h.1.2
  have h2 := numT_le h.2.1 h.2.2
  have e1 : (⟨#[61]⟩ : ByteArray).size = 1 := rfl
  omega

/-- what SamplesText answers -/
def SamTextOf (xs : List GSam) (s : ByteArray) (cd : Int) : Prop :=
  (¬ xs.length ≤ 4096 ∧ s = ⟨#[]⟩ ∧ cd = 2) ∨ (xs.length ≤ 4096 ∧ ¬ SamP xs ∧ s = ⟨#[]⟩ ∧ cd = 1) ∨ (SamP xs ∧ ¬ xs.length ≤ 8 ∧ s = ⟨#[]⟩ ∧ cd = 6) ∨ (SamP xs ∧ xs.length ≤ 8 ∧ s = joinT (xs.map samT) blank ∧ cd = 0)

theorem samT_one {xs : List GSam} {s s' : ByteArray} {cd cd' : Int} (h : SamTextOf xs s cd) (h' : SamTextOf xs s' cd') : s = s' ∧ cd = cd' := by
  have k : SamP xs → xs.length ≤ 4096 := fun h => h.1
  rcases h with ⟨h1, rfl, rfl⟩ | ⟨h1, h2, rfl, rfl⟩ | ⟨h1, h2, rfl, rfl⟩ | ⟨h1, h2, rfl, rfl⟩ <;> rcases h' with ⟨g1, rfl, rfl⟩ | ⟨g1, g2, rfl, rfl⟩ | ⟨g1, g2, rfl, rfl⟩ | ⟨g1, g2, rfl, rfl⟩ <;> first | exact ⟨rfl, rfl⟩ | (exfalso; first | exact h1 (k g1) | exact g1 (k h1) | exact h1 g1 | exact h2 g1 | exact g2 h1 | exact h2 g2 | exact g2 h2 | exact g1 h1)

end Go.Proofs.YtpackpocnonpiaaGreatDoor
