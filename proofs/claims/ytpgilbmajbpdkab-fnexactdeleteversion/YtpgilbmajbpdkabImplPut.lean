/-
  Contracts of the program's PutAbsent, PutVersion and DeleteVersion.
-/
import Derived.Test.YtpgilbmajbpdkabPut
namespace Go.Proofs.Ytpgilbmajbpdkab
open Go.ChangeShapes Go.WideShapes Go.ChangeAt Go.RowKit Go.Maps
set_option linter.unusedVariables false

/-- a store in new memory, a version and a code are answered -/
def StAns (R : List GObj → Int → Int → Int → Prop) (w : World) (e : Ending) (w' : World) : Prop :=
  ∃ (L : List GObj) (nx ver code : Int) (A : Option Addr) (c : Nat), R L nx ver code ∧ e = .returned (.tuple #[.agg #[.slice A L.length c, .int .i64 nx], .int .i64 ver, .int .i64 code]) ∧ ObjsAt w' w'.heap.size A L ∧ Free w' A ∧ (∀ b, blk A = some b → w.heap.size ≤ b ∧ b < w'.heap.size) ∧ L.length ≤ c ∧ Below w.heap.size w w'

/-- what PutAbsent answers -/
def AbsR (xs : List GObj) (next : Int) (key data : ByteArray) (L : List GObj) (nx ver code : Int) : Prop :=
  (FaultP xs next key [data] code ∧ code ≠ 0 ∧ L = [] ∧ nx = 0 ∧ ver = 0) ∨
  (FaultP xs next key [data] 0 ∧ look xs key ≠ none ∧ L = xs ∧ nx = next ∧ ver = 0 ∧ code = 9) ∨
  (FaultP xs next key [data] 0 ∧ look xs key = none ∧ PutP xs next key data ver code L nx)

theorem tell_look' {xs : List GObj} {next : Int} (hs : StoreP xs next) : tell xs xs.length = look xs := funext fun k => tell_look hs k

theorem fin_store {w wN : World} {x1 : Nat} {u0 u1 : Value} {A : Option Addr} {L : List GObj} (t : Two wN x1 u0 u1) (hs : ObjsAt wN wN.heap.size A L) (hf : Free wN A) (hb : ∀ b, blk A = some b → x1 < b ∧ b < wN.heap.size) (hB : Below w.heap.size w wN) (hx : w.heap.size ≤ x1) (v0 v1 : Value) :
    Two ((wN.setCell ⟨x1, 0, none⟩ v0).setCell ⟨x1, 1, none⟩ v1) x1 v0 v1 ∧ ObjsAt ((wN.setCell ⟨x1, 0, none⟩ v0).setCell ⟨x1, 1, none⟩ v1) ((wN.setCell ⟨x1, 0, none⟩ v0).setCell ⟨x1, 1, none⟩ v1).heap.size A L ∧ Free ((wN.setCell ⟨x1, 0, none⟩ v0).setCell ⟨x1, 1, none⟩ v1) A ∧
      (∀ b, blk A = some b → w.heap.size ≤ b ∧ b < ((wN.setCell ⟨x1, 0, none⟩ v0).setCell ⟨x1, 1, none⟩ v1).heap.size) ∧ Below w.heap.size w ((wN.setCell ⟨x1, 0, none⟩ v0).setCell ⟨x1, 1, none⟩ v1) := by
  refine ⟨(t.set0 v0).set1 v1, ?_, (hf.setCell _ _).setCell _ _, fun b e => ?_, (hB.setCell (p := ⟨x1, 0, none⟩) hx _).setCell (p := ⟨x1, 1, none⟩) hx _⟩
  · rw [size_setCell, size_setCell]
    exact (Sl.far hs (p := ⟨x1, 0, none⟩) (fun b e => by have := (hb b e).1; show b ≠ x1; omega) _).far (p := ⟨x1, 1, none⟩) (fun b e => by have := (hb b e).1; show b ≠ x1; omega) _
  · rw [size_setCell, size_setCell]
    exact ⟨by have := (hb b e).1; omega, (hb b e).2⟩

theorem PutP.facts {L L' : List GObj} {next nx ver code : Int} {key data : ByteArray} (h : PutP L next key data ver code L' nx) (hr : Rise L) (hk : ∀ o ∈ L, o.key.size ≤ maxLen) (hk' : key.size ≤ maxLen) : Rise L' ∧ L'.length ≤ L.length + 1 ∧ ∀ o ∈ L', o.key.size ≤ maxLen := by
  rcases h with ⟨_, _, _, rfl, _⟩ | ⟨_, _, _, _, rfl, _⟩ | ⟨_, _, _, _, rfl, _⟩
  · exact ⟨hr, by omega, hk⟩
  · exact ⟨hr, by omega, hk⟩
  · refine ⟨setL_rise hr, setL_len _ _, fun o ho => ?_⟩
    rcases setL_mem ho with rfl | ho
    · exact hk'
    · exact hk o ho

end Go.Proofs.Ytpgilbmajbpdkab
