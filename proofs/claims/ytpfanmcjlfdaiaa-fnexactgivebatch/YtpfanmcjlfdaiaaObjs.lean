/-
  Words for slices of objects in memory, and contracts of the laws' own helpers on them (eq, mark, held, sz, to).
-/
import Derived.Test.YtpfanmcjlfdaiaaKeyOK
import Derived.Test.YtpfanmcjlfdaiaaMem
import Derived.Deep.QuietTactic
import Derived.BigQuiet
import Derived.StillTailTactics
import Derived.Deep.Draws
import Derived.Laws.OwnMore
import Derived.Laws.BytesString
import Derived.Laws.IdiomStrings
namespace Go.Proofs.Ytpfanmcjlfdaiaa
open Go.ChangeShapes Go.WideShapes Go.ChangeAt Go.RowKit
set_option linter.unusedVariables false

/-- an object as data -/
structure GObj where
  key : ByteArray
  ver : Int
  data : ByteArray
deriving DecidableEq

def GObj.val (o : GObj) : Value := .agg #[.string o.key, .int .i64 o.ver, .string o.data]

def GObj.vals (o : GObj) : List Value := [.string o.key, .int .i64 o.ver, .string o.data]

/-- a slice of objects -/
def ObjsAt (w : World) (B : Nat) (A : Option Addr) (xs : List GObj) : Prop := Sl GObj.vals 3 w B A xs

theorem ObjsAt.obj {w : World} {B : Nat} {A : Option Addr} {xs : List GObj} (h : ObjsAt w B A xs) {k : Nat} (hk : k < xs.length) :
    ∃ b off, A = some ⟨b, off, none⟩ ∧ b < B ∧ w.cell? ⟨b, off + k * 3, none⟩ = some (.string xs[k].key) ∧ w.cell? ⟨b, off + k * 3 + 1, none⟩ = some (.int .i64 xs[k].ver) ∧ w.cell? ⟨b, off + k * 3 + 2, none⟩ = some (.string xs[k].data) := by
  obtain ⟨b, off, e, hb, hc⟩ := Sl.at_ h hk
  exact ⟨b, off, e, hb, hc 0 _ rfl, hc 1 _ rfl, hc 2 _ rfl⟩

theorem ne_list {a b : ByteArray} (h : a ≠ b) : (a.toList == b.toList) = false := by
  rw [beq_eq_false_iff_ne]
  intro e
  rw [ByteArray.toList_eq, ByteArray.toList_eq] at e
  exact h (bytes_inj e)

/-- a store's value -/
def storeV (A : Option Addr) (n c : Nat) (next : Int) : Value := .agg #[.slice A n c, .int .i64 next]

/-- the digits that the marks' texts are made of -/
def mtDig (n : Nat) (acc : ByteArray) : ByteArray := if h : n = 0 then acc else mtDig (n / 10) (⟨#[48 + UInt8.ofNat (n % 10)]⟩ ++ acc)
termination_by n
decreasing_by omega

/-- a mark's text -/
def mtx (k : Int) : ByteArray := if k ≤ 0 then ⟨#[109, 48]⟩ else ⟨#[109]⟩ ++ mtDig k.toNat ⟨#[]⟩

end Go.Proofs.Ytpfanmcjlfdaiaa
