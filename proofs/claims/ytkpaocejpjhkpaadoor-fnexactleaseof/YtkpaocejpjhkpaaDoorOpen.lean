/-
  A slice that came in, opened: whatever its element, each as so many cells; a slice of objects; a store. No Go text is walked here.
-/
import Derived.Test.YtkpaocejpjhkpaaDoorIntSet
import Derived.Test.YtkpaocejpjhkpaaDoorOpenSl
import Derived.Deep.Slices
import Derived.Deep.Fields
import Derived.Deep.Strs
import Derived.Lib.SmallJoins
namespace Go.Proofs.YtkpaocejpjhkpaaDoor
open Go.ChangeShapes Go.WideShapes Go.ChangeAt Go.RowKit Go.Deep Go.Joins
set_option linter.unusedVariables false

theorem cellsLObj : Tryd.prog.cellsOf 78 = 3 := by kernel_rfl

theorem cellsLStore : Tryd.prog.cellsOf 35 = 2 := by kernel_rfl

theorem cellsInt : Tryd.prog.cellsOf 3 = 1 := by kernel_rfl

theorem cellsString : Tryd.prog.cellsOf 9 = 1 := by kernel_rfl

section

variable {H : Type} {enc : TypeId × Value → H} {w : World} {base : Nat} {spare : Nat → Bool} {held : Bool}

theorem open_obj' {P : Program} {t : TypeId} {f0 f1 f2 : Field} {n : Nat} {cs : List Value} {y : DataW H × List MemPlace} (ht : P.underlying t = some (.struct #[f0, f1, f2])) (hone : oneCellFields P #[f0, f1, f2] = true)
    (g0 : P.underlying f0.type = some .string) (g1 : P.underlying f1.type = some (.int .i64)) (g2 : P.underlying f2.type = some .string) (hl : cs.length = 3) (h : DataW.trod enc P w base spare held n t cs = some y) : ∃ o : GObj, cs = o.vals ∧ o.fit := by
  obtain ⟨y0, y1, y2, m, _, _, h0, h1, h2⟩ := trod_struct3 ht h
  obtain ⟨o0, k0⟩ := hone_of hone 0 f0 rfl
  obtain ⟨o1, k1⟩ := hone_of hone 1 f1 rfl
  obtain ⟨o2, k2⟩ := hone_of hone 2 f2 rfl
  match cs, hl with
  | [a, b, c], _ =>
    rw [o0, k0] at h0
    rw [o1, k1] at h1
    rw [o2, k2] at h2
    obtain ⟨s0, e0, _, l0⟩ := DataW.trod_string g0 h0
    obtain ⟨z1, e1, _, l1⟩ := DataW.trod_int g1 h1
    obtain ⟨s2, e2, _, l2⟩ := DataW.trod_string g2 h2
    simp at e0 e1 e2
    subst e0 e1 e2
    exact ⟨⟨s0, z1, s2⟩, rfl, ⟨l0, l2⟩, l1⟩

theorem open_store' {P : Program} {t e : TypeId} {f0 f1 g0 g1 g2 : Field} {W : World} {r : Reach} {b0 : Nat} {v : Value} {d : DataW H} {p : List MemPlace} (ht : P.underlying t = some (.struct #[f0, f1])) (hone : oneCellFields P #[f0, f1] = true) (hC : P.cellsOf t = 2)
    (hs : P.underlying f0.type = some (.slice e)) (hn : P.underlying f1.type = some (.int .i64)) (he : P.underlying e = some (.struct #[g0, g1, g2])) (hone2 : oneCellFields P #[g0, g1, g2] = true) (hce : P.cellsOf e = 3)
    (k0 : P.underlying g0.type = some .string) (k1 : P.underlying g1.type = some (.int .i64)) (k2 : P.underlying g2.type = some .string)
    (hv : Value.okWide P W r b0 t v) (h : DataW.Trod enc P W base spare held t v d p) :
    ∃ (A : Option Addr) (c : Nat) (xs : List GObj) (next : Int), v = .agg #[.slice A xs.length c, .int .i64 next] ∧ ObjsAt W W.heap.size A xs ∧ (∀ o ∈ xs, o.fit) ∧ xs.length ≤ maxLen ∧ (Lit.int .i64 next).wf = true := by
  obtain ⟨c0, c1, y0, y1, m, rfl, _, _, h0, h1⟩ := open_agg2 ht hone hC hv h
  obtain ⟨z1, e1, _, l1⟩ := DataW.trod_int hn h1
  obtain ⟨A, c, xs, rfl, hs, hq, hl⟩ := open_sl GObj.vals 3 GObj.fit hs hce (by omega) (fun n cs y hc hy => open_obj' he hone2 k0 k1 k2 hc hy) h0
  simp at e1
  subst e1
  exact ⟨A, c, xs, z1, rfl, hs, hq, hl, l1⟩

set_option maxRecDepth 100000 in
theorem open_store {W : World} {r : Reach} {b0 : Nat} {v : Value} {d : DataW H} {p : List MemPlace} (hv : Value.okWide Tryd.prog W r b0 35 v) (h : DataW.Trod enc Tryd.prog W base spare held 35 v d p) :
    ∃ (A : Option Addr) (c : Nat) (xs : List GObj) (next : Int), v = .agg #[.slice A xs.length c, .int .i64 next] ∧ ObjsAt W W.heap.size A xs ∧ (∀ o ∈ xs, o.fit) ∧ xs.length ≤ maxLen ∧ (Lit.int .i64 next).wf = true :=
  open_store' Tryd.underlying35 (by kernel_rfl) cellsLStore Tryd.underlying33 Tryd.underlying3 Tryd.underlying78 (by kernel_rfl) cellsLObj Tryd.underlying9 Tryd.underlying3 Tryd.underlying9 hv h

end

end Go.Proofs.YtkpaocejpjhkpaaDoor
