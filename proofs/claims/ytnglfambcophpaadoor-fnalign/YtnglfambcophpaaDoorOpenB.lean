/-
  A slice of bytes that came in, opened. No Go text is walked here.
-/
import Derived.Test.YtnglfambcophpaaDoorOpenSl
import Derived.Test.YtnglfambcophpaaDoorSrc
namespace Go.Proofs.YtnglfambcophpaaDoor
open Go.ChangeShapes Go.WideShapes Go.ChangeAt Go.RowKit Go.Deep Go.Joins
set_option linter.unusedVariables false

section

variable {H : Type} {enc : TypeId × Value → H} {base : Nat} {spare : Nat → Bool} {held : Bool}

theorem open_byte' {P : Program} {w : World} {e : TypeId} {n : Nat} {cs : List Value} {y : DataW H × List MemPlace} (he : P.underlying e = some (.int .u8)) (hl : cs.length = 1) (h : DataW.trod enc P w base spare held n e cs = some y) : ∃ x : Int, cs = byteV x ∧ (0 ≤ x ∧ x ≤ 255) := by
  match cs, hl with
  | [a], _ =>
    obtain ⟨z, e0, _, l0⟩ := DataW.trod_int he h
    simp at e0
    subst e0
    simp only [Lit.wf, Bool.and_eq_true, decide_eq_true_eq] at l0
    exact ⟨z, rfl, l0⟩

theorem open_bytes' {P : Program} {t e : TypeId} {W : World} {r : Reach} {b0 : Nat} {v : Value} {d : DataW H} {p : List MemPlace} (hs : P.underlying t = some (.slice e)) (he : P.underlying e = some (.int .u8)) (hce : P.cellsOf e = 1)
    (hv : Value.okWide P W r b0 t v) (h : DataW.Trod enc P W base spare held t v d p) :
    ∃ (A : Option Addr) (c : Nat) (xs : List Int), v = .slice A xs.length c ∧ BytesAt W W.heap.size A xs ∧ (∀ x ∈ xs, 0 ≤ x ∧ x ≤ 255) ∧ xs.length ≤ maxLen := by
  obtain ⟨a0, len, cap, rfl⟩ := okWide_slice hs hv
  obtain ⟨fuel, hf⟩ := h
  obtain ⟨A, c, xs, e1, e2, e3, e4⟩ := open_sl byteV 1 (fun x => 0 ≤ x ∧ x ≤ 255) hs hce (by omega) (fun n cs y hc hy => open_byte' he hc hy) (by simpa [Value.cells] using hf)
  exact ⟨A, c, xs, e1, e2, e3, e4⟩

theorem cellsU8 : Tryd.prog.cellsOf 5 = 1 := by kernel_rfl

set_option maxRecDepth 100000 in
theorem open_bytes {W : World} {r : Reach} {b0 : Nat} {v : Value} {d : DataW H} {p : List MemPlace} (hv : Value.okWide Tryd.prog W r b0 22 v) (h : DataW.Trod enc Tryd.prog W base spare held 22 v d p) :
    ∃ (A : Option Addr) (c : Nat) (xs : List Int), v = .slice A xs.length c ∧ BytesAt W W.heap.size A xs ∧ (∀ x ∈ xs, 0 ≤ x ∧ x ≤ 255) ∧ xs.length ≤ maxLen :=
  open_bytes' Tryd.underlying22 Tryd.underlying5 cellsU8 hv h

end

end Go.Proofs.YtnglfambcophpaaDoor
