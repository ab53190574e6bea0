/-
  Arguments that are ingesters, opened. No Go text is walked here.
-/
import Derived.Test.YtpfanmcjlfdaiaaIng
import Derived.Test.YtpfanmcjlfdaiaaOpenSl
import Derived.Laws.IdiomArrays
namespace Go.Proofs.Ytpfanmcjlfdaiaa
open Go.ChangeShapes Go.WideShapes Go.ChangeAt Go.RowKit Go.Deep Go.Joins
set_option linter.unusedVariables false
set_option linter.unusedSimpArgs false

section

variable {H : Type} {enc : TypeId × Value → H} {base : Nat} {spare : Nat → Bool} {held : Bool}

theorem trod_fieldsI {P : Program} {w : World} {t : TypeId} {fs : Array Field} {fuel : Nat} {cs : List Value} {x : DataW H × List MemPlace} (ht : P.underlying t = some (.struct fs)) (h : DataW.trod enc P w base spare held fuel t cs = some x) :
    cs.length = P.cellsOf t ∧ ∃ n, ∀ (i : Nat) (f : Field), fs[i]? = some f → ∃ y, DataW.trod enc P w base spare held n f.type ((cs.drop f.offset).take (P.cellsOf f.type)) = some y := by
  obtain ⟨xs, n, _, rfl, hl, hlen, hf⟩ := DataW.trod_struct ht h
  refine ⟨hl, n, fun i f hi => ?_⟩
  have h1 := hf i f hi
  have hil : i < xs.length := by
    rw [hlen]
    exact (Array.getElem?_eq_some_iff.1 hi).1
  rw [List.getElem?_eq_getElem hil] at h1
  exact ⟨_, h1⟩

theorem open_ing' {P : Program} {t e1 : TypeId} {f0 f1 f2 f3 f4 f5 g0 g1 : Field} {W : World} {r : Reach} {b0 : Nat} {v : Value} {d : DataW H} {p : List MemPlace} (ht : P.underlying t = some (.struct #[f0, f1, f2, f3, f4, f5])) (hC : P.cellsOf t = 6)
    (o0 : f0.offset = 0) (o1 : f1.offset = 1) (o2 : f2.offset = 2) (o3 : f3.offset = 3) (o4 : f4.offset = 4) (o5 : f5.offset = 5)
    (c0 : P.cellsOf f0.type = 1) (c1 : P.cellsOf f1.type = 1) (c2 : P.cellsOf f2.type = 1) (c3 : P.cellsOf f3.type = 1) (c4 : P.cellsOf f4.type = 1) (c5 : P.cellsOf f5.type = 1)
    (u0 : P.underlying f0.type = some (.int .i64)) (u1 : P.underlying f1.type = some (.int .i64)) (u2 : P.underlying f2.type = some (.int .i64)) (u3 : P.underlying f3.type = some (.int .i64)) (u4 : P.underlying f4.type = some (.slice e1)) (u5 : P.underlying f5.type = some .bool)
    (he : P.underlying e1 = some (.struct #[g0, g1])) (hone1 : oneCellFields P #[g0, g1] = true) (hce : P.cellsOf e1 = 2) (n0 : P.underlying g0.type = some (.int .i64)) (n1 : P.underlying g1.type = some (.int .i64))
    (hv : Value.okWide P W r b0 t v) (h : DataW.Trod enc P W base spare held t v d p) :
    ∃ (A : Option Addr) (c : Nat) (s : GIng), v = .agg #[.int .i64 s.id, .int .i64 s.sq, .int .i64 s.beg, .int .i64 s.fin, .slice A s.bat.length c, .bool s.put] ∧ SamsAt W W.heap.size A s.bat ∧ s.fit := by
  obtain ⟨cs, rfl, hsz⟩ := okWide_struct ht hv
  obtain ⟨fuel, hf⟩ := h
  obtain ⟨l⟩ := cs
  simp only [Value.cells] at hf
  obtain ⟨hl, n, hfs⟩ := trod_fieldsI ht hf
  rw [hC] at hl
  obtain ⟨y0, h0⟩ := hfs 0 f0 rfl
  rw [o0, c0] at h0
  obtain ⟨y1, h1⟩ := hfs 1 f1 rfl
  rw [o1, c1] at h1
  obtain ⟨y2, h2⟩ := hfs 2 f2 rfl
  rw [o2, c2] at h2
  obtain ⟨y3, h3⟩ := hfs 3 f3 rfl
  rw [o3, c3] at h3
  obtain ⟨y4, h4⟩ := hfs 4 f4 rfl
  rw [o4, c4] at h4
  obtain ⟨y5, h5⟩ := hfs 5 f5 rfl
  rw [o5, c5] at h5
  clear hsz hf hfs hv
  match l, hl with
  | [x0, x1, x2, x3, x4, x5], _ =>
    obtain ⟨z0, q0, _, l0⟩ := DataW.trod_int u0 h0
    obtain ⟨z1, q1, _, l1⟩ := DataW.trod_int u1 h1
    obtain ⟨z2, q2, _, l2⟩ := DataW.trod_int u2 h2
    obtain ⟨z3, q3, _, l3⟩ := DataW.trod_int u3 h3
    obtain ⟨A, c, es, q4, s4, t4, l4⟩ := open_sl GSam.vals 2 GSam.fit u4 hce (by omega) (fun n cs y hc hy => open_sam' he hone1 n0 n1 hc hy) (v := x4) h4
    obtain ⟨z5, q5, _⟩ := DataW.trod_bool u5 h5
    simp at q0 q1 q2 q3 q5
    subst q0 q1 q2 q3 q4 q5
    exact ⟨A, c, ⟨z0, z1, z2, z3, es, z5⟩, rfl, s4, i64_of_wf l0, i64_of_wf l1, i64_of_wf l2, i64_of_wf l3, t4, l4⟩

theorem cellsLIng : Try.prog.cellsOf 32 = 6 := by kernel_rfl

set_option maxRecDepth 100000 in
theorem open_ling {W : World} {r : Reach} {b0 : Nat} {v : Value} {d : DataW H} {p : List MemPlace} (hv : Value.okWide Try.prog W r b0 32 v) (h : DataW.Trod enc Try.prog W base spare held 32 v d p) :
    ∃ (A : Option Addr) (c : Nat) (s : GIng), v = .agg #[.int .i64 s.id, .int .i64 s.sq, .int .i64 s.beg, .int .i64 s.fin, .slice A s.bat.length c, .bool s.put] ∧ SamsAt W W.heap.size A s.bat ∧ s.fit :=
  open_ing' Try.underlying32 cellsLIng rfl rfl rfl rfl rfl rfl (by kernel_rfl) (by kernel_rfl) (by kernel_rfl) (by kernel_rfl) (by kernel_rfl) (by kernel_rfl) Try.underlying3 Try.underlying3 Try.underlying3 Try.underlying3 Try.underlying30 Try.underlying4
    Try.underlying51 (by kernel_rfl) (by kernel_rfl) Try.underlying3 Try.underlying3 hv h

end

end Go.Proofs.Ytpfanmcjlfdaiaa
