/-
  Slices of texts in memory; the length of joined texts; the library's table of powers of ten, held from world to world; contract of strconv.Itoa in these words. Conditions: the table is as the library's text lays it.
-/
import Derived.Test.YtpfanmcjlfdaiaaGreatDoorRN5
import Derived.Lib.Join
import Derived.Lib.Hide
import Derived.BigQuiet
import Derived.Test.YtpfanmcjlfdaiaaGreatDoorRN1
import Derived.Test.YtpfanmcjlfdaiaaGreatDoorRAggLaw
import Derived.Test.YtpfanmcjlfdaiaaGreatDoorRTxtB
import Derived.WalkSmall
import Derived.Lib.SmallJoins
namespace Go.Proofs.YtpfanmcjlfdaiaaGreatDoorR
open Go.ChangeShapes Go.WideShapes Go.ChangeAt Go.RowKit
set_option linter.unusedVariables false

def txV (s : ByteArray) : List Value := [.string s]

/-- a slice of texts -/
def TxtAt (w : World) (B : Nat) (A : Option Addr) (xs : List ByteArray) : Prop := Sl txV 1 w B A xs

theorem TxtAt.at_ {w : World} {B : Nat} {A : Option Addr} {xs : List ByteArray} (h : TxtAt w B A xs) {k : Nat} (hk : k < xs.length) :
    ∃ b off, A = some ⟨b, off, none⟩ ∧ b < B ∧ w.cell? ⟨b, off + k, none⟩ = some (.string xs[k]) := by
  obtain ⟨b, off, e, hb, hc⟩ := Sl.at_ h hk
  have := hc 0 (.string xs[k]) rfl
  simp only [Nat.mul_one, Nat.add_zero] at this
  exact ⟨b, off, e, hb, this⟩

theorem TxtAt.cells {w : World} {B b o : Nat} {xs : List ByteArray} (h : TxtAt w B (some ⟨b, o, none⟩) xs) (j : Nat) (x : ByteArray) (hj : xs[j]? = some x) : w.cell? ⟨b, o + j, none⟩ = some (.string x) := by
  obtain ⟨hlt, rfl⟩ := List.getElem?_eq_some_iff.1 hj
  obtain ⟨b', o', e, _, hc⟩ := TxtAt.at_ h hlt
  injection e with e
  injection e with e1 e2
  subst e1 e2
  exact hc

end Go.Proofs.YtpfanmcjlfdaiaaGreatDoorR
