/-
  Words for slices of samples in memory, and contracts of the laws' own helpers on them (to, eq, sz).
-/
import Derived.Test.YtpackpocnonpiaaGreatDoorAggLaw
namespace Go.Proofs.YtpackpocnonpiaaGreatDoor
open Go.ChangeShapes Go.WideShapes Go.ChangeAt Go.RowKit Go.Deep Go.Joins
set_option linter.unusedVariables false

/-- a sample as data -/
structure GSam where
  t : Int
  v : Int
deriving DecidableEq

def GSam.vals (s : GSam) : List Value := [.int .i64 s.t, .int .i64 s.v]

def GSam.fit (s : GSam) : Prop := I64 s.t ∧ I64 s.v

/-- a slice of samples -/
def SamsAt (w : World) (B : Nat) (A : Option Addr) (xs : List GSam) : Prop := Sl GSam.vals 2 w B A xs

theorem SamsAt.sam {w : World} {B : Nat} {A : Option Addr} {xs : List GSam} (h : SamsAt w B A xs) {k : Nat} (hk : k < xs.length) :
    ∃ b off, A = some ⟨b, off, none⟩ ∧ b < B ∧ w.cell? ⟨b, off + k * 2, none⟩ = some (.int .i64 xs[k].t) ∧ w.cell? ⟨b, off + k * 2 + 1, none⟩ = some (.int .i64 xs[k].v) := by
  obtain ⟨b, off, e, hb, hc⟩ := Sl.at_ h hk
  exact ⟨b, off, e, hb, hc 0 _ rfl, hc 1 _ rfl⟩

theorem infoSam : (Tryz.prog.info? 142).map (fun i => (i.zero, i.size, i.bytes)) = some (some (.agg #[.int .i64 0, .int .i64 0]), 2, 16) := by kernel_rfl

def zSam : GSam := ⟨0, 0⟩

def zeroSams (n : Nat) : Obj := .cells (madeCells #[.int .i64 0, .int .i64 0] (n * 2)) 142

theorem make_sams (n : Nat) (hn : n ≤ 1048576) (W : World) : (Instr.makeSlice 138 (.int .i64 (n : Int)) (.int .i64 (n : Int))).run Tryz.prog W = .ok (.slice (some ⟨W.heap.size, 0, none⟩) n n) (W.alloc (zeroSams n)) :=
  run_make_n (P := Tryz.prog) 138 142 _ 2 16 infoSam Tryz.underlying138 n n (Nat.le_refl _) (by omega) (by omega) W

theorem zeroSams_sl (n : Nat) (w : World) : SamsAt (w.alloc (zeroSams n)) (w.heap.size + 1) (some ⟨w.heap.size, 0, none⟩) (List.replicate n zSam) :=
  made_sl GSam.vals zSam 2 n 142 w _ rfl rfl

/-- a slice of samples is answered, in new memory of its own -/
def NewSams (xs : List GSam) (w : World) (e : Ending) (w' : World) : Prop :=
  ∃ (A : Option Addr) (c : Nat), e = .returned (.slice A xs.length c) ∧ SamsAt w' w'.heap.size A xs ∧ Free w' A ∧ (∀ b, blk A = some b → w.heap.size ≤ b ∧ b < w'.heap.size) ∧ xs.length ≤ c ∧ Below w.heap.size w w'

theorem SamsAt.store {w w1 : World} {B g k : Nat} {ys : List GSam} (h : SamsAt w B (some ⟨g, 0, none⟩) ys) (hk : k < ys.length) (ho : ∀ i, w1.cell? ⟨g, i, none⟩ = w.cell? ⟨g, i, none⟩) (o : GSam) :
    SamsAt ((w1.setCell ⟨g, k * 2, none⟩ (.int .i64 o.t)).setCell ⟨g, k * 2 + 1, none⟩ (.int .i64 o.v)) B (some ⟨g, 0, none⟩) (ys.set k o) := by
  obtain ⟨b, off, e, hgB, q0, q1⟩ := SamsAt.sam h hk
  injection e with e
  injection e with e1 e2
  subst e1 e2
  rw [← ho] at q0 q1
  rw [Nat.zero_add] at q0 q1
  refine Sl.set h (fun x => rfl) hk o ?_ ?_
  · intro j v hv
    rw [Nat.zero_add]
    match j, hv with
    | 0, hv =>
      simp [GSam.vals] at hv; subst hv
      rw [cset_ne _ _ _ _ _ (by omega)]; exact cset_eq _ _ _ _ q0
    | 1, hv =>
      simp [GSam.vals] at hv; subst hv
      exact cset_eq _ _ _ _ ((cset_ne _ _ _ _ _ (by omega)).trans q1)
    | j + 2, hv => simp [GSam.vals] at hv
  · intro i hi
    rw [cset_ne _ _ _ _ _ (by omega), cset_ne _ _ _ _ _ (by omega), ho]

section

variable {H : Type} {enc : TypeId × Value → H} {base : Nat} {spare : Nat → Bool} {held : Bool}

theorem open_sam' {P : Program} {w : World} {t : TypeId} {f0 f1 : Field} {n : Nat} {cs : List Value} {y : DataW H × List MemPlace} (ht : P.underlying t = some (.struct #[f0, f1])) (hone : oneCellFields P #[f0, f1] = true)
    (g0 : P.underlying f0.type = some (.int .i64)) (g1 : P.underlying f1.type = some (.int .i64)) (hl : cs.length = 2) (h : DataW.trod enc P w base spare held n t cs = some y) : ∃ o : GSam, cs = o.vals ∧ o.fit := by
  obtain ⟨y0, y1, m, _, _, h0, h1⟩ := trod_struct2 ht h
  obtain ⟨o0, k0⟩ := hone_of hone 0 f0 rfl
  obtain ⟨o1, k1⟩ := hone_of hone 1 f1 rfl
  match cs, hl with
  | [a, b], _ =>
    rw [o0, k0] at h0
    rw [o1, k1] at h1
    obtain ⟨z0, e0, _, l0⟩ := DataW.trod_int g0 h0
    obtain ⟨z1, e1, _, l1⟩ := DataW.trod_int g1 h1
    simp at e0 e1
    subst e0 e1
    exact ⟨⟨z0, z1⟩, rfl, i64_of_wf l0, i64_of_wf l1⟩

theorem open_sams' {P : Program} {t e : TypeId} {f0 f1 : Field} {W : World} {r : Reach} {b0 : Nat} {v : Value} {d : DataW H} {p : List MemPlace} (hs : P.underlying t = some (.slice e)) (he : P.underlying e = some (.struct #[f0, f1])) (hone : oneCellFields P #[f0, f1] = true) (hce : P.cellsOf e = 2)
    (g0 : P.underlying f0.type = some (.int .i64)) (g1 : P.underlying f1.type = some (.int .i64)) (hv : Value.okWide P W r b0 t v) (h : DataW.Trod enc P W base spare held t v d p) :
    ∃ (A : Option Addr) (c : Nat) (xs : List GSam), v = .slice A xs.length c ∧ SamsAt W W.heap.size A xs ∧ (∀ o ∈ xs, o.fit) ∧ xs.length ≤ maxLen := by
  obtain ⟨a0, len, cap, rfl⟩ := okWide_slice hs hv
  obtain ⟨fuel, hf⟩ := h
  obtain ⟨A, c, xs, e1, e2, e3, e4⟩ := open_sl GSam.vals 2 GSam.fit hs hce (by omega) (fun n cs y hc hy => open_sam' he hone g0 g1 hc hy) (by simpa [Value.cells] using hf)
  exact ⟨A, c, xs, e1, e2, e3, e4⟩

end

end Go.Proofs.YtpackpocnonpiaaGreatDoor
