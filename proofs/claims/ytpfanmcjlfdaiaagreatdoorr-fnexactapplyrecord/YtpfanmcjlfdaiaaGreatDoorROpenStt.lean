/-
  Arguments that are records and states, opened. No Go text is walked here.
-/
import Derived.Test.YtpfanmcjlfdaiaaGreatDoorRN4
import Derived.Test.YtpfanmcjlfdaiaaGreatDoorROpenSl
import Derived.Laws.IdiomArrays
namespace Go.Proofs.YtpfanmcjlfdaiaaGreatDoorR
open Go.ChangeShapes Go.WideShapes Go.ChangeAt Go.RowKit Go.Deep Go.Joins
set_option linter.unusedVariables false
set_option linter.unusedSimpArgs false

section

variable {H : Type} {enc : TypeId × Value → H} {base : Nat} {spare : Nat → Bool} {held : Bool}

theorem trod_fields {P : Program} {w : World} {t : TypeId} {fs : Array Field} {fuel : Nat} {cs : List Value} {x : DataW H × List MemPlace} (ht : P.underlying t = some (.struct fs)) (h : DataW.trod enc P w base spare held fuel t cs = some x) :
    cs.length = P.cellsOf t ∧ ∃ n, ∀ (i : Nat) (f : Field), fs[i]? = some f → ∃ y, DataW.trod enc P w base spare held n f.type ((cs.drop f.offset).take (P.cellsOf f.type)) = some y := by
  obtain ⟨xs, n, _, rfl, hl, hlen, hf⟩ := DataW.trod_struct ht h
  refine ⟨hl, n, fun i f hi => ?_⟩
  have h1 := hf i f hi
  have hil : i < xs.length := by
    rw [hlen]
    exact (Array.getElem?_eq_some_iff.1 hi).1
  rw [List.getElem?_eq_getElem hil] at h1
  exact ⟨_, h1⟩

theorem open_ent' {P : Program} {w : World} {t : TypeId} {f0 f1 f2 f3 : Field} {n : Nat} {cs : List Value} {y : DataW H × List MemPlace} (ht : P.underlying t = some (.struct #[f0, f1, f2, f3])) (hone : oneCellFields P #[f0, f1, f2, f3] = true)
    (g0 : P.underlying f0.type = some (.int .i64)) (g1 : P.underlying f1.type = some (.int .i64)) (g2 : P.underlying f2.type = some (.int .i64)) (g3 : P.underlying f3.type = some .string) (hl : cs.length = 4) (h : DataW.trod enc P w base spare held n t cs = some y) : ∃ o : GEnt, cs = o.vals ∧ o.fit := by
  obtain ⟨_, m, hf⟩ := trod_fields ht h
  obtain ⟨y0, h0⟩ := hf 0 f0 rfl
  obtain ⟨o0, k0⟩ := hone_of hone 0 f0 rfl
  rw [o0, k0] at h0
  obtain ⟨y1, h1⟩ := hf 1 f1 rfl
  obtain ⟨o1, k1⟩ := hone_of hone 1 f1 rfl
  rw [o1, k1] at h1
  obtain ⟨y2, h2⟩ := hf 2 f2 rfl
  obtain ⟨o2, k2⟩ := hone_of hone 2 f2 rfl
  rw [o2, k2] at h2
  obtain ⟨y3, h3⟩ := hf 3 f3 rfl
  obtain ⟨o3, k3⟩ := hone_of hone 3 f3 rfl
  rw [o3, k3] at h3
  match cs, hl with
  | [x0, x1, x2, x3], _ =>
    obtain ⟨z0, e0, _, l0⟩ := DataW.trod_int g0 h0
    obtain ⟨z1, e1, _, l1⟩ := DataW.trod_int g1 h1
    obtain ⟨z2, e2, _, l2⟩ := DataW.trod_int g2 h2
    obtain ⟨z3, e3, _, l3⟩ := DataW.trod_string g3 h3
    simp at e0 e1 e2 e3
    subst e0 e1 e2 e3
    exact ⟨⟨z0, z1, z2, z3⟩, rfl, i64_of_wf l0, i64_of_wf l1, i64_of_wf l2, l3⟩

theorem open_tmb' {P : Program} {w : World} {t : TypeId} {f0 f1 : Field} {n : Nat} {cs : List Value} {y : DataW H × List MemPlace} (ht : P.underlying t = some (.struct #[f0, f1])) (hone : oneCellFields P #[f0, f1] = true)
    (g0 : P.underlying f0.type = some (.int .i64)) (g1 : P.underlying f1.type = some .string) (hl : cs.length = 2) (h : DataW.trod enc P w base spare held n t cs = some y) : ∃ o : GTmb, cs = o.vals ∧ o.fit := by
  obtain ⟨_, m, hf⟩ := trod_fields ht h
  obtain ⟨y0, h0⟩ := hf 0 f0 rfl
  obtain ⟨o0, k0⟩ := hone_of hone 0 f0 rfl
  rw [o0, k0] at h0
  obtain ⟨y1, h1⟩ := hf 1 f1 rfl
  obtain ⟨o1, k1⟩ := hone_of hone 1 f1 rfl
  rw [o1, k1] at h1
  match cs, hl with
  | [x0, x1], _ =>
    obtain ⟨z0, e0, _, l0⟩ := DataW.trod_int g0 h0
    obtain ⟨z1, e1, _, l1⟩ := DataW.trod_string g1 h1
    simp at e0 e1
    subst e0 e1
    exact ⟨⟨z0, z1⟩, rfl, i64_of_wf l0, l1⟩

theorem open_rec' {P : Program} {w : World} {t : TypeId} {f0 f1 f2 f3 f4 f5 : Field} {n : Nat} {cs : List Value} {y : DataW H × List MemPlace} (ht : P.underlying t = some (.struct #[f0, f1, f2, f3, f4, f5])) (hone : oneCellFields P #[f0, f1, f2, f3, f4, f5] = true)
    (g0 : P.underlying f0.type = some (.int .i64)) (g1 : P.underlying f1.type = some (.int .i64)) (g2 : P.underlying f2.type = some (.int .i64)) (g3 : P.underlying f3.type = some (.int .i64)) (g4 : P.underlying f4.type = some (.int .i64)) (g5 : P.underlying f5.type = some .string) (hl : cs.length = 6) (h : DataW.trod enc P w base spare held n t cs = some y) : ∃ o : GRec, cs = o.vals ∧ o.fit := by
  obtain ⟨_, m, hf⟩ := trod_fields ht h
  obtain ⟨y0, h0⟩ := hf 0 f0 rfl
  obtain ⟨o0, k0⟩ := hone_of hone 0 f0 rfl
  rw [o0, k0] at h0
  obtain ⟨y1, h1⟩ := hf 1 f1 rfl
  obtain ⟨o1, k1⟩ := hone_of hone 1 f1 rfl
  rw [o1, k1] at h1
  obtain ⟨y2, h2⟩ := hf 2 f2 rfl
  obtain ⟨o2, k2⟩ := hone_of hone 2 f2 rfl
  rw [o2, k2] at h2
  obtain ⟨y3, h3⟩ := hf 3 f3 rfl
  obtain ⟨o3, k3⟩ := hone_of hone 3 f3 rfl
  rw [o3, k3] at h3
  obtain ⟨y4, h4⟩ := hf 4 f4 rfl
  obtain ⟨o4, k4⟩ := hone_of hone 4 f4 rfl
  rw [o4, k4] at h4
  obtain ⟨y5, h5⟩ := hf 5 f5 rfl
  obtain ⟨o5, k5⟩ := hone_of hone 5 f5 rfl
  rw [o5, k5] at h5
  match cs, hl with
  | [x0, x1, x2, x3, x4, x5], _ =>
    obtain ⟨z0, e0, _, l0⟩ := DataW.trod_int g0 h0
    obtain ⟨z1, e1, _, l1⟩ := DataW.trod_int g1 h1
    obtain ⟨z2, e2, _, l2⟩ := DataW.trod_int g2 h2
    obtain ⟨z3, e3, _, l3⟩ := DataW.trod_int g3 h3
    obtain ⟨z4, e4, _, l4⟩ := DataW.trod_int g4 h4
    obtain ⟨z5, e5, _, l5⟩ := DataW.trod_string g5 h5
    simp at e0 e1 e2 e3 e4 e5
    subst e0 e1 e2 e3 e4 e5
    exact ⟨⟨z0, z1, z2, z3, z4, z5⟩, rfl, i64_of_wf l0, i64_of_wf l1, i64_of_wf l2, i64_of_wf l3, i64_of_wf l4, l5⟩

theorem open_tri' {P : Program} {w : World} {t e : TypeId} {n : Nat} {x0 x1 x2 : Value} {y : DataW H × List MemPlace} (ht : P.underlying t = some (.array 3 e)) (hce : P.cellsOf e = 1) (he : P.underlying e = some (.int .i64)) (h : DataW.trod enc P w base spare held n t [x0, x1, x2] = some y) :
    ∃ a : GTri, x0 = .int .i64 a.a ∧ x1 = .int .i64 a.b ∧ x2 = .int .i64 a.c ∧ a.fit := by
  obtain ⟨y0, y1, y2, m, _, h0, h1, h2⟩ := trod_array3 ht hce h
  obtain ⟨z0, e0, _, l0⟩ := DataW.trod_int he h0
  obtain ⟨z1, e1, _, l1⟩ := DataW.trod_int he h1
  obtain ⟨z2, e2, _, l2⟩ := DataW.trod_int he h2
  simp at e0 e1 e2
  exact ⟨⟨z0, z1, z2⟩, e0, e1, e2, i64_of_wf l0, i64_of_wf l1, i64_of_wf l2⟩

/-- a record that came in -/
theorem open_rec0 {P : Program} {t : TypeId} {f0 f1 f2 f3 f4 f5 : Field} {W : World} {r : Reach} {b0 : Nat} {v : Value} {d : DataW H} {p : List MemPlace} (ht : P.underlying t = some (.struct #[f0, f1, f2, f3, f4, f5])) (hone : oneCellFields P #[f0, f1, f2, f3, f4, f5] = true) (hC : P.cellsOf t = 6)
    (g0 : P.underlying f0.type = some (.int .i64)) (g1 : P.underlying f1.type = some (.int .i64)) (g2 : P.underlying f2.type = some (.int .i64)) (g3 : P.underlying f3.type = some (.int .i64)) (g4 : P.underlying f4.type = some (.int .i64)) (g5 : P.underlying f5.type = some .string)
    (hv : Value.okWide P W r b0 t v) (h : DataW.Trod enc P W base spare held t v d p) : ∃ a : GRec, v = .agg #[.int .i64 a.kind, .int .i64 a.tok, .int .i64 a.tier, .int .i64 a.beg, .int .i64 a.fin, .string a.key] ∧ a.fit := by
  obtain ⟨cs, rfl, hsz⟩ := okWide_struct ht hv
  obtain ⟨fuel, hf⟩ := h
  obtain ⟨l⟩ := cs
  simp only [Value.cells] at hf
  obtain ⟨a, e, hfit⟩ := open_rec' ht hone g0 g1 g2 g3 g4 g5 (by have := (trod_fields ht hf).1; rw [hC] at this; exact this) hf
  subst e
  exact ⟨a, rfl, hfit⟩

theorem cellsLRec : Tryz.prog.cellsOf 28 = 6 := by kernel_rfl

set_option maxRecDepth 100000 in
theorem open_lrec {W : World} {r : Reach} {b0 : Nat} {v : Value} {d : DataW H} {p : List MemPlace} (hv : Value.okWide Tryz.prog W r b0 28 v) (h : DataW.Trod enc Tryz.prog W base spare held 28 v d p) :
    ∃ a : GRec, v = .agg #[.int .i64 a.kind, .int .i64 a.tok, .int .i64 a.tier, .int .i64 a.beg, .int .i64 a.fin, .string a.key] ∧ a.fit :=
  open_rec0 Tryz.underlying28 (by kernel_rfl) cellsLRec Tryz.underlying3 Tryz.underlying3 Tryz.underlying3 Tryz.underlying3 Tryz.underlying3 Tryz.underlying9 hv h

/-- a state's numbers fit, its lists' elements too -/
def GSt.fit (s : GSt) : Prop := I64 s.sq ∧ I64 s.fe ∧ s.lo.fit ∧ s.hi.fit ∧ (∀ o ∈ s.ents, o.fit) ∧ (∀ o ∈ s.tmbs, o.fit) ∧ s.ents.length ≤ maxLen ∧ s.tmbs.length ≤ maxLen

theorem open_st' {P : Program} {t e1 e2 e3 : TypeId} {f0 f1 f2 f3 f4 f5 g0 g1 g2 g3 k0 k1 : Field} {W : World} {r : Reach} {b0 : Nat} {v : Value} {d : DataW H} {p : List MemPlace} (ht : P.underlying t = some (.struct #[f0, f1, f2, f3, f4, f5])) (hC : P.cellsOf t = 10)
    (o0 : f0.offset = 0) (o1 : f1.offset = 1) (o2 : f2.offset = 2) (o3 : f3.offset = 3) (o4 : f4.offset = 4) (o5 : f5.offset = 7)
    (c0 : P.cellsOf f0.type = 1) (c1 : P.cellsOf f1.type = 1) (c2 : P.cellsOf f2.type = 1) (c3 : P.cellsOf f3.type = 1) (c4 : P.cellsOf f4.type = 3) (c5 : P.cellsOf f5.type = 3)
    (u0 : P.underlying f0.type = some (.int .i64)) (u1 : P.underlying f1.type = some (.int .i64)) (u2 : P.underlying f2.type = some (.slice e1)) (u3 : P.underlying f3.type = some (.slice e2)) (u4 : P.underlying f4.type = some (.array 3 e3)) (u5 : P.underlying f5.type = some (.array 3 e3)) (ce : P.cellsOf e3 = 1) (ue : P.underlying e3 = some (.int .i64))
    (he : P.underlying e1 = some (.struct #[g0, g1, g2, g3])) (hone1 : oneCellFields P #[g0, g1, g2, g3] = true) (hce : P.cellsOf e1 = 4) (a0 : P.underlying g0.type = some (.int .i64)) (a1 : P.underlying g1.type = some (.int .i64)) (a2 : P.underlying g2.type = some (.int .i64)) (a3 : P.underlying g3.type = some .string)
    (hk : P.underlying e2 = some (.struct #[k0, k1])) (hone2 : oneCellFields P #[k0, k1] = true) (hck : P.cellsOf e2 = 2) (m0 : P.underlying k0.type = some (.int .i64)) (m1 : P.underlying k1.type = some .string)
    (hv : Value.okWide P W r b0 t v) (h : DataW.Trod enc P W base spare held t v d p) :
    ∃ (A : Option Addr) (c : Nat) (A2 : Option Addr) (c2 : Nat) (s : GSt), v = .agg #[.int .i64 s.sq, .int .i64 s.fe, .slice A s.ents.length c, .slice A2 s.tmbs.length c2, .int .i64 s.lo.a, .int .i64 s.lo.b, .int .i64 s.lo.c, .int .i64 s.hi.a, .int .i64 s.hi.b, .int .i64 s.hi.c] ∧ StAt W W.heap.size A A2 s ∧ s.fit := by
  obtain ⟨cs, rfl, hsz⟩ := okWide_struct ht hv
  obtain ⟨fuel, hf⟩ := h
  obtain ⟨l⟩ := cs
  simp only [Value.cells] at hf
  obtain ⟨hl, n, hfs⟩ := trod_fields ht hf
  rw [hC] at hl
  obtain ⟨y0, h0⟩ := hfs 0 f0 rfl
  obtain ⟨y1, h1⟩ := hfs 1 f1 rfl
  obtain ⟨y2, h2⟩ := hfs 2 f2 rfl
  obtain ⟨y3, h3⟩ := hfs 3 f3 rfl
  obtain ⟨y4, h4⟩ := hfs 4 f4 rfl
  obtain ⟨y5, h5⟩ := hfs 5 f5 rfl
  rw [o0, c0] at h0
  rw [o1, c1] at h1
  rw [o2, c2] at h2
  rw [o3, c3] at h3
  rw [o4, c4] at h4
  rw [o5, c5] at h5
  clear hsz hf hfs hv
  match l, hl with
  | [x0, x1, x2, x3, x4, x5, x6, x7, x8, x9], _ =>
    obtain ⟨z0, q0, _, l0⟩ := DataW.trod_int u0 h0
    obtain ⟨z1, q1, _, l1⟩ := DataW.trod_int u1 h1
    obtain ⟨A, c, xs, q2, s2, t2, l2⟩ := open_sl GEnt.vals 4 GEnt.fit u2 hce (by omega) (fun n cs y hc hy => open_ent' he hone1 a0 a1 a2 a3 hc hy) (v := x2) h2
    obtain ⟨A2, c2, ys, q3, s3, t3, l3⟩ := open_sl GTmb.vals 2 GTmb.fit u3 hck (by omega) (fun n cs y hc hy => open_tmb' hk hone2 m0 m1 hc hy) (v := x3) h3
    obtain ⟨lo, p4, p5, p6, flo⟩ := open_tri' u4 ce ue (x0 := x4) (x1 := x5) (x2 := x6) h4
    obtain ⟨hi, p7, p8, p9, fhi⟩ := open_tri' u5 ce ue (x0 := x7) (x1 := x8) (x2 := x9) h5
    simp at q0 q1
    subst q0 q1 q2 q3 p4 p5 p6 p7 p8 p9
    exact ⟨A, c, A2, c2, ⟨z0, z1, xs, ys, lo, hi⟩, rfl, ⟨s2, s3⟩, i64_of_wf l0, i64_of_wf l1, flo, fhi, t2, t3, l2, l3⟩

theorem cellsLSt : Tryz.prog.cellsOf 26 = 10 := by kernel_rfl

set_option maxRecDepth 100000 in
theorem open_lst {W : World} {r : Reach} {b0 : Nat} {v : Value} {d : DataW H} {p : List MemPlace} (hv : Value.okWide Tryz.prog W r b0 26 v) (h : DataW.Trod enc Tryz.prog W base spare held 26 v d p) :
    ∃ (A : Option Addr) (c : Nat) (A2 : Option Addr) (c2 : Nat) (s : GSt), v = .agg #[.int .i64 s.sq, .int .i64 s.fe, .slice A s.ents.length c, .slice A2 s.tmbs.length c2, .int .i64 s.lo.a, .int .i64 s.lo.b, .int .i64 s.lo.c, .int .i64 s.hi.a, .int .i64 s.hi.b, .int .i64 s.hi.c] ∧ StAt W W.heap.size A A2 s ∧ s.fit :=
  open_st' Tryz.underlying26 cellsLSt rfl rfl rfl rfl rfl rfl (by kernel_rfl) (by kernel_rfl) (by kernel_rfl) (by kernel_rfl) (by kernel_rfl) (by kernel_rfl) Tryz.underlying3 Tryz.underlying3 Tryz.underlying22 Tryz.underlying23 Tryz.underlying24 Tryz.underlying24 (by kernel_rfl) Tryz.underlying3
    Tryz.underlying97 (by kernel_rfl) (by kernel_rfl) Tryz.underlying3 Tryz.underlying3 Tryz.underlying3 Tryz.underlying9 Tryz.underlying100 (by kernel_rfl) (by kernel_rfl) Tryz.underlying3 Tryz.underlying9 hv h

end

end Go.Proofs.YtpfanmcjlfdaiaaGreatDoorR
