/-
  What a record that is handed in is: six cells that are five numbers and a text. No Go text is walked here.
-/
import Derived.Test.YtpackpocnonpiaaDoorRecs
import Derived.Test.YtpackpocnonpiaaDoorOpenSl
import Derived.Laws.IdiomArrays
namespace Go.Proofs.YtpackpocnonpiaaDoor
open Go.ChangeShapes Go.WideShapes Go.ChangeAt Go.RowKit Go.Deep Go.Joins
set_option linter.unusedVariables false
set_option linter.unusedSimpArgs false

section

variable {H : Type} {enc : TypeId × Value → H} {base : Nat} {spare : Nat → Bool} {held : Bool}

theorem trod_fields {P : Program} {w : World} {t : TypeId} {fs : Array Field} {fuel : Nat} {cs : List Value} {x : DataW H × List MemPlace} (ht : P.underlying t = some (.struct fs)) (h : DataW.trod enc P w base spare held fuel t cs = some x) :
    cs.length = P.cellsOf t ∧ ∃ n, ∀ (i : Nat) (f : Field), fs[i]? = some f → ∃ y, DataW.trod enc P w base spare held n f.type ((cs.drop f.offset).take (P.cellsOf f.type)) = some y := by
  obtain ⟨xs, n, _, rfl, hl, hlen, hf⟩ := DataW.trod_struct ht h
  refine ⟨hl, n, fun i f hi => ?_⟩
  have h1 := hf i f hi
  have hil : i < xs.length := by
    rw [hlen]
    exact (Array.getElem?_eq_some_iff.1 hi).1
  rw [List.getElem?_eq_getElem hil] at h1
  exact ⟨_, h1⟩

theorem open_rec' {P : Program} {w : World} {t : TypeId} {f0 f1 f2 f3 f4 f5 : Field} {n : Nat} {cs : List Value} {y : DataW H × List MemPlace} (ht : P.underlying t = some (.struct #[f0, f1, f2, f3, f4, f5])) (hone : oneCellFields P #[f0, f1, f2, f3, f4, f5] = true)
    (g0 : P.underlying f0.type = some (.int .i64)) (g1 : P.underlying f1.type = some (.int .i64)) (g2 : P.underlying f2.type = some (.int .i64)) (g3 : P.underlying f3.type = some (.int .i64)) (g4 : P.underlying f4.type = some (.int .i64)) (g5 : P.underlying f5.type = some .string) (hl : cs.length = 6) (h : DataW.trod enc P w base spare held n t cs = some y) : ∃ o : GRec, cs = o.vals ∧ o.fit := by
  obtain ⟨_, m, hf⟩ := trod_fields ht h
  obtain ⟨y0, h0⟩ := hf 0 f0 rfl
  obtain ⟨o0, k0⟩ := hone_of hone 0 f0 rfl
  rw [o0, k0] at h0
  obtain ⟨y1, h1⟩ := hf 1 f1 rfl
  obtain ⟨o1, k1⟩ := hone_of hone 1 f1 rfl
  rw [o1, k1] at h1
  obtain ⟨y2, h2⟩ := hf 2 f2 rfl
  obtain ⟨o2, k2⟩ := hone_of hone 2 f2 rfl
  rw [o2, k2] at h2
  obtain ⟨y3, h3⟩ := hf 3 f3 rfl
  obtain ⟨o3, k3⟩ := hone_of hone 3 f3 rfl
  rw [o3, k3] at h3
  obtain ⟨y4, h4⟩ := hf 4 f4 rfl
  obtain ⟨o4, k4⟩ := hone_of hone 4 f4 rfl
  rw [o4, k4] at h4
  obtain ⟨y5, h5⟩ := hf 5 f5 rfl
  obtain ⟨o5, k5⟩ := hone_of hone 5 f5 rfl
  rw [o5, k5] at h5
  match cs, hl with
  | [x0, x1, x2, x3, x4, x5], _ =>
    obtain ⟨z0, e0, _, l0⟩ := DataW.trod_int g0 h0
    obtain ⟨z1, e1, _, l1⟩ := DataW.trod_int g1 h1
    obtain ⟨z2, e2, _, l2⟩ := DataW.trod_int g2 h2
    obtain ⟨z3, e3, _, l3⟩ := DataW.trod_int g3 h3
    obtain ⟨z4, e4, _, l4⟩ := DataW.trod_int g4 h4
    obtain ⟨z5, e5, _, l5⟩ := DataW.trod_string g5 h5
    simp at e0 e1 e2 e3 e4 e5
    subst e0 e1 e2 e3 e4 e5
    exact ⟨⟨z0, z1, z2, z3, z4, z5⟩, rfl, i64_of_wf l0, i64_of_wf l1, i64_of_wf l2, i64_of_wf l3, i64_of_wf l4, l5⟩

/-- a record that came in -/
theorem open_rec0 {P : Program} {t : TypeId} {f0 f1 f2 f3 f4 f5 : Field} {W : World} {r : Reach} {b0 : Nat} {v : Value} {d : DataW H} {p : List MemPlace} (ht : P.underlying t = some (.struct #[f0, f1, f2, f3, f4, f5])) (hone : oneCellFields P #[f0, f1, f2, f3, f4, f5] = true) (hC : P.cellsOf t = 6)
    (g0 : P.underlying f0.type = some (.int .i64)) (g1 : P.underlying f1.type = some (.int .i64)) (g2 : P.underlying f2.type = some (.int .i64)) (g3 : P.underlying f3.type = some (.int .i64)) (g4 : P.underlying f4.type = some (.int .i64)) (g5 : P.underlying f5.type = some .string)
    (hv : Value.okWide P W r b0 t v) (h : DataW.Trod enc P W base spare held t v d p) : ∃ a : GRec, v = .agg #[.int .i64 a.kind, .int .i64 a.tok, .int .i64 a.tier, .int .i64 a.beg, .int .i64 a.fin, .string a.key] ∧ a.fit := by
  obtain ⟨cs, rfl, hsz⟩ := okWide_struct ht hv
  obtain ⟨fuel, hf⟩ := h
  obtain ⟨l⟩ := cs
  simp only [Value.cells] at hf
  obtain ⟨a, e, hfit⟩ := open_rec' ht hone g0 g1 g2 g3 g4 g5 (by have := (trod_fields ht hf).1; rw [hC] at this; exact this) hf
  subst e
  exact ⟨a, rfl, hfit⟩

theorem cellsLRec : Tryd.prog.cellsOf 23 = 6 := by kernel_rfl

set_option maxRecDepth 100000 in
theorem open_lrec {W : World} {r : Reach} {b0 : Nat} {v : Value} {d : DataW H} {p : List MemPlace} (hv : Value.okWide Tryd.prog W r b0 23 v) (h : DataW.Trod enc Tryd.prog W base spare held 23 v d p) :
    ∃ a : GRec, v = .agg #[.int .i64 a.kind, .int .i64 a.tok, .int .i64 a.tier, .int .i64 a.beg, .int .i64 a.fin, .string a.key] ∧ a.fit :=
  open_rec0 Tryd.underlying23 (by kernel_rfl) cellsLRec Tryd.underlying3 Tryd.underlying3 Tryd.underlying3 Tryd.underlying3 Tryd.underlying3 Tryd.underlying9 hv h

end

end Go.Proofs.YtpackpocnonpiaaDoor
