/-
  Arguments that are workers, opened. No Go text is walked here.
-/
import Derived.Test.YtpackpocnonpiaaDoorWrk
import Derived.Test.YtpackpocnonpiaaDoorOpenRec
import Derived.Laws.IdiomArrays
namespace Go.Proofs.YtpackpocnonpiaaDoor
open Go.ChangeShapes Go.WideShapes Go.ChangeAt Go.RowKit Go.Deep Go.Joins
set_option linter.unusedVariables false
set_option linter.unusedSimpArgs false

section

variable {H : Type} {enc : TypeId × Value → H} {base : Nat} {spare : Nat → Bool} {held : Bool}

theorem open_entW {P : Program} {w : World} {t : TypeId} {f0 f1 f2 f3 : Field} {n : Nat} {cs : List Value} {y : DataW H × List MemPlace} (ht : P.underlying t = some (.struct #[f0, f1, f2, f3])) (hone : oneCellFields P #[f0, f1, f2, f3] = true)
    (g0 : P.underlying f0.type = some (.int .i64)) (g1 : P.underlying f1.type = some (.int .i64)) (g2 : P.underlying f2.type = some (.int .i64)) (g3 : P.underlying f3.type = some .string) (hl : cs.length = 4) (h : DataW.trod enc P w base spare held n t cs = some y) : ∃ o : GEnt, cs = o.vals ∧ o.fit := by
  obtain ⟨_, m, hf⟩ := trod_fields ht h
  obtain ⟨y0, h0⟩ := hf 0 f0 rfl
  obtain ⟨o0, k0⟩ := hone_of hone 0 f0 rfl
  rw [o0, k0] at h0
  obtain ⟨y1, h1⟩ := hf 1 f1 rfl
  obtain ⟨o1, k1⟩ := hone_of hone 1 f1 rfl
  rw [o1, k1] at h1
  obtain ⟨y2, h2⟩ := hf 2 f2 rfl
  obtain ⟨o2, k2⟩ := hone_of hone 2 f2 rfl
  rw [o2, k2] at h2
  obtain ⟨y3, h3⟩ := hf 3 f3 rfl
  obtain ⟨o3, k3⟩ := hone_of hone 3 f3 rfl
  rw [o3, k3] at h3
  match cs, hl with
  | [x0, x1, x2, x3], _ =>
    obtain ⟨z0, e0, _, l0⟩ := DataW.trod_int g0 h0
    obtain ⟨z1, e1, _, l1⟩ := DataW.trod_int g1 h1
    obtain ⟨z2, e2, _, l2⟩ := DataW.trod_int g2 h2
    obtain ⟨z3, e3, _, l3⟩ := DataW.trod_string g3 h3
    simp at e0 e1 e2 e3
    subst e0 e1 e2 e3
    exact ⟨⟨z0, z1, z2, z3⟩, rfl, i64_of_wf l0, i64_of_wf l1, i64_of_wf l2, l3⟩

theorem open_aggW {P : Program} {w : World} {t : TypeId} {f0 f1 f2 f3 f4 f5 : Field} {n : Nat} {cs : List Value} {y : DataW H × List MemPlace} (ht : P.underlying t = some (.struct #[f0, f1, f2, f3, f4, f5])) (hone : oneCellFields P #[f0, f1, f2, f3, f4, f5] = true) (hC : P.cellsOf t = 6)
    (hall : ∀ (i : Nat) f, #[f0, f1, f2, f3, f4, f5][i]? = some f → P.underlying f.type = some (.int .i64)) (h : DataW.trod enc P w base spare held n t cs = some y) : ∃ a : GAgg, cs = a.vals ∧ a.fit := by
  obtain ⟨zs, hz, hcs, hw⟩ := open_nums ht hone hC hall h
  match zs, hz with
  | [z0, z1, z2, z3, z4, z5], _ =>
    exact ⟨⟨z0, z1, z2, z3, z4, z5⟩, hcs, i64_of_wf (hw z0 (by simp)), i64_of_wf (hw z1 (by simp)), i64_of_wf (hw z2 (by simp)), i64_of_wf (hw z3 (by simp)), i64_of_wf (hw z4 (by simp)), i64_of_wf (hw z5 (by simp))⟩

theorem open_wrk' {P : Program} {t e1 : TypeId} {f0 f1 f2 f3 f4 f5 g0 g1 g2 g3 r0 r1 r2 r3 r4 r5 a0 a1 a2 a3 a4 a5 : Field} {W : World} {r : Reach} {b0 : Nat} {v : Value} {d : DataW H} {p : List MemPlace} (ht : P.underlying t = some (.struct #[f0, f1, f2, f3, f4, f5])) (hC : P.cellsOf t = 16)
    (o0 : f0.offset = 0) (o1 : f1.offset = 1) (o2 : f2.offset = 2) (o3 : f3.offset = 3) (o4 : f4.offset = 9) (o5 : f5.offset = 10)
    (c0 : P.cellsOf f0.type = 1) (c1 : P.cellsOf f1.type = 1) (c2 : P.cellsOf f2.type = 1) (c3 : P.cellsOf f3.type = 6) (c4 : P.cellsOf f4.type = 1) (c5 : P.cellsOf f5.type = 6)
    (u0 : P.underlying f0.type = some (.int .i64)) (u1 : P.underlying f1.type = some (.int .i64)) (u2 : P.underlying f2.type = some (.int .i64)) (u4 : P.underlying f4.type = some (.slice e1))
    (u3 : P.underlying f3.type = some (.struct #[r0, r1, r2, r3, r4, r5])) (hone3 : oneCellFields P #[r0, r1, r2, r3, r4, r5] = true) (m0 : P.underlying r0.type = some (.int .i64)) (m1 : P.underlying r1.type = some (.int .i64)) (m2 : P.underlying r2.type = some (.int .i64)) (m3 : P.underlying r3.type = some (.int .i64)) (m4 : P.underlying r4.type = some (.int .i64)) (m5 : P.underlying r5.type = some .string)
    (u5 : P.underlying f5.type = some (.struct #[a0, a1, a2, a3, a4, a5])) (hone5 : oneCellFields P #[a0, a1, a2, a3, a4, a5] = true) (hall : ∀ (i : Nat) f, #[a0, a1, a2, a3, a4, a5][i]? = some f → P.underlying f.type = some (.int .i64))
    (he : P.underlying e1 = some (.struct #[g0, g1, g2, g3])) (hone1 : oneCellFields P #[g0, g1, g2, g3] = true) (hce : P.cellsOf e1 = 4) (n0 : P.underlying g0.type = some (.int .i64)) (n1 : P.underlying g1.type = some (.int .i64)) (n2 : P.underlying g2.type = some (.int .i64)) (n3 : P.underlying g3.type = some .string)
    (hv : Value.okWide P W r b0 t v) (h : DataW.Trod enc P W base spare held t v d p) :
    ∃ (A : Option Addr) (c : Nat) (s : GWrk), v = .agg #[.int .i64 s.id, .int .i64 s.ph, .int .i64 s.tk, .int .i64 s.job.kind, .int .i64 s.job.tok, .int .i64 s.job.tier, .int .i64 s.job.beg, .int .i64 s.job.fin, .string s.job.key, .slice A s.ins.length c, .int .i64 s.got.cnt, .int .i64 s.got.sum, .int .i64 s.got.mn, .int .i64 s.got.mx, .int .i64 s.got.fst, .int .i64 s.got.lst] ∧ EntsAt W W.heap.size A s.ins ∧ s.fit := by
  obtain ⟨cs, rfl, hsz⟩ := okWide_struct ht hv
  obtain ⟨fuel, hf⟩ := h
  obtain ⟨l⟩ := cs
  simp only [Value.cells] at hf
  obtain ⟨hl, n, hfs⟩ := trod_fields ht hf
  rw [hC] at hl
  obtain ⟨y0, h0⟩ := hfs 0 f0 rfl
  obtain ⟨y1, h1⟩ := hfs 1 f1 rfl
  obtain ⟨y2, h2⟩ := hfs 2 f2 rfl
  obtain ⟨y3, h3⟩ := hfs 3 f3 rfl
  obtain ⟨y4, h4⟩ := hfs 4 f4 rfl
  obtain ⟨y5, h5⟩ := hfs 5 f5 rfl
  rw [o0, c0] at h0
  rw [o1, c1] at h1
  rw [o2, c2] at h2
  rw [o3, c3] at h3
  rw [o4, c4] at h4
  rw [o5, c5] at h5
  clear hsz hf hfs hv
  match l, hl with
  | [x0, x1, x2, x3, x4, x5, x6, x7, x8, x9, x10, x11, x12, x13, x14, x15], _ =>
    obtain ⟨z0, q0, _, l0⟩ := DataW.trod_int u0 h0
    obtain ⟨z1, q1, _, l1⟩ := DataW.trod_int u1 h1
    obtain ⟨z2, q2, _, l2⟩ := DataW.trod_int u2 h2
    obtain ⟨rc, q3, l3⟩ := open_rec' u3 hone3 m0 m1 m2 m3 m4 m5 rfl (cs := [x3, x4, x5, x6, x7, x8]) h3
    obtain ⟨A, c, es, q4, s4, t4, l4⟩ := open_sl GEnt.vals 4 GEnt.fit u4 hce (by omega) (fun n cs y hc hy => open_entW he hone1 n0 n1 n2 n3 hc hy) (v := x9) h4
    obtain ⟨ag, q5, l5⟩ := open_aggW u5 hone5 c5 hall (cs := [x10, x11, x12, x13, x14, x15]) h5
    simp at q0 q1 q2
    simp only [GRec.vals, GAgg.vals, List.cons.injEq, and_true] at q3 q5
    obtain ⟨e3, e4, e5, e6, e7, e8⟩ := q3
    obtain ⟨e10, e11, e12, e13, e14, e15⟩ := q5
    subst q0 q1 q2 q4 e3 e4 e5 e6 e7 e8 e10 e11 e12 e13 e14 e15
    exact ⟨A, c, ⟨z0, z1, z2, rc, es, ag⟩, rfl, s4, i64_of_wf l0, i64_of_wf l1, i64_of_wf l2, l3, t4, l4, l5⟩

theorem cellsLWrk : Tryd.prog.cellsOf 28 = 16 := by kernel_rfl

set_option maxRecDepth 100000 in
theorem open_lwrk {W : World} {r : Reach} {b0 : Nat} {v : Value} {d : DataW H} {p : List MemPlace} (hv : Value.okWide Tryd.prog W r b0 28 v) (h : DataW.Trod enc Tryd.prog W base spare held 28 v d p) :
    ∃ (A : Option Addr) (c : Nat) (s : GWrk), v = .agg #[.int .i64 s.id, .int .i64 s.ph, .int .i64 s.tk, .int .i64 s.job.kind, .int .i64 s.job.tok, .int .i64 s.job.tier, .int .i64 s.job.beg, .int .i64 s.job.fin, .string s.job.key, .slice A s.ins.length c, .int .i64 s.got.cnt, .int .i64 s.got.sum, .int .i64 s.got.mn, .int .i64 s.got.mx, .int .i64 s.got.fst, .int .i64 s.got.lst] ∧ EntsAt W W.heap.size A s.ins ∧ s.fit :=
  open_wrk' Tryd.underlying28 cellsLWrk rfl rfl rfl rfl rfl rfl (by kernel_rfl) (by kernel_rfl) (by kernel_rfl) (by kernel_rfl) (by kernel_rfl) (by kernel_rfl) Tryd.underlying3 Tryd.underlying3 Tryd.underlying3 Tryd.underlying24
    Tryd.underlying23 (by kernel_rfl) Tryd.underlying3 Tryd.underlying3 Tryd.underlying3 Tryd.underlying3 Tryd.underlying3 Tryd.underlying9
    Tryd.underlying26 (by kernel_rfl) (fun i f hf => by
    match i with
    | 0 => simp at hf; subst hf; exact Tryd.underlying3
    | 1 => simp at hf; subst hf; exact Tryd.underlying3
    | 2 => simp at hf; subst hf; exact Tryd.underlying3
    | 3 => simp at hf; subst hf; exact Tryd.underlying3
    | 4 => simp at hf; subst hf; exact Tryd.underlying3
    | 5 => simp at hf; subst hf; exact Tryd.underlying3
    | i + 6 => simp at hf)
    Tryd.underlying56 (by kernel_rfl) (by kernel_rfl) Tryd.underlying3 Tryd.underlying3 Tryd.underlying3 Tryd.underlying9 hv h

end

end Go.Proofs.YtpackpocnonpiaaDoor
