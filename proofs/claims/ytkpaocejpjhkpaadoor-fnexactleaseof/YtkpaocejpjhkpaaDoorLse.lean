/-
  Words for leases, and contracts of what asks whether one is right, in both packages, and of the laws' own helpers on them. No conditions.
-/
import Derived.Test.YtkpaocejpjhkpaaDoorAggLaw
import Derived.Test.YtkpaocejpjhkpaaDoorAggB
namespace Go.Proofs.YtkpaocejpjhkpaaDoor
open Go.ChangeShapes Go.WideShapes Go.ChangeAt Go.RowKit Go.Deep Go.Joins
set_option linter.unusedVariables false
set_option linter.unusedSimpArgs false

/-- a lease as data -/
structure GLse where
  tk : Int
  ow : Int
  un : Int
deriving DecidableEq

def zLse : GLse := ⟨0, 0, 0⟩

def GLse.fit (a : GLse) : Prop := I64 a.tk ∧ I64 a.ow ∧ I64 a.un

/-- right: all within its bounds -/
def LseP (a : GLse) : Prop := (1 ≤ a.tk ∧ a.tk ≤ 999999) ∧ (0 ≤ a.ow ∧ a.ow ≤ 9) ∧ 0 ≤ a.un ∧ a.un ≤ 200000

theorem LseP.fit {a : GLse} (h : LseP a) : a.fit := by unfold LseP at h; unfold GLse.fit I64; omega

/-- a lease lies in a block of its own -/
def Thr (w : World) (b : Nat) (a : GLse) : Prop :=
  w.cell? ⟨b, 0, none⟩ = some (.int .i64 a.tk) ∧ w.cell? ⟨b, 1, none⟩ = some (.int .i64 a.ow) ∧ w.cell? ⟨b, 2, none⟩ = some (.int .i64 a.un)

theorem Thr.new (w : World) (a : GLse) (t : TypeId) : Thr (w.alloc (.cells #[.int .i64 a.tk, .int .i64 a.ow, .int .i64 a.un] t)) w.heap.size a := ⟨by simp, by simp, by simp⟩

theorem Thr.below {w w' : World} {b B : Nat} {a : GLse} (h : Thr w b a) (hb : Below B w w') (hB : b < B) : Thr w' b a :=
  ⟨(hb.cell (p := ⟨b, 0, none⟩) hB).trans h.1, (hb.cell (p := ⟨b, 1, none⟩) hB).trans h.2.1, (hb.cell (p := ⟨b, 2, none⟩) hB).trans h.2.2⟩

theorem Thr.alloc {w : World} {b : Nat} {a : GLse} (h : Thr w b a) (hB : b < w.heap.size) (o : Obj) : Thr (w.alloc o) b a := h.below (bal (Below.refl _ _) o) hB

/-- a lease written into a block -/
def setLse (w : World) (b : Nat) (m : GLse) : World := ((w.setCell ⟨b, 0, none⟩ (.int .i64 m.tk)).setCell ⟨b, 1, none⟩ (.int .i64 m.ow)).setCell ⟨b, 2, none⟩ (.int .i64 m.un)

theorem setLse_below {a w : World} {B : Nat} (h : Below B a w) {b : Nat} (hb : B ≤ b) (m : GLse) : Below B a (setLse w b m) :=
  ((h.setCell hb _).setCell hb _).setCell hb _

theorem setLse_size (w : World) (b : Nat) (m : GLse) : (setLse w b m).heap.size = w.heap.size := by simp [setLse]

theorem isId_any (n : Int) (w : World) : Calls Tryd.prog 40 #[.int .i64 n] w fun e w' => e = .returned (.bool (inB n 0 9)) ∧ w = w' := by
  go_enter Tryd.func40, Tryd.ntmps40
  go_wp2_with (go_at_call 36; refine (within_any _ _ _ _).mono ?_; rintro e w' ⟨rfl, rfl⟩)
  go_ret
  exact ⟨rfl, rfl⟩

theorem leaseOK_any (a : GLse) (w : World) : Calls Tryd.prog 22 #[.agg #[.int .i64 a.tk, .int .i64 a.ow, .int .i64 a.un]] w (IsBB (LseP a) w) := by
  obtain ⟨tk, ow, un⟩ := a
  have hi : LseP ⟨tk, ow, un⟩ ↔ inB tk 1 999999 = true ∧ inB ow 0 9 = true ∧ inB un 0 200000 = true := by simp only [LseP, inB_iff]
  have Hi := Lib.hid hi; clear hi
  dsimp only
  go_enter Tryd.func22, Tryd.ntmps22
  go_wp2_with (first | (go_at_call 36; refine (within_any _ _ _ _).mono ?_; rintro e w' ⟨rfl, rfl⟩) | (go_at_call 40; refine (isId_any _ _).mono ?_; rintro e w' ⟨rfl, rfl⟩))
  all_goals go_ret
  all_goals refine ⟨_, Iff.trans ?_ Hi.out.symm, rfl, bal (Below.refl _ _) _⟩
  all_goals simp_all

theorem specLeaseOK_any (a : GLse) (w : World) : Calls Tryd.prog 20 #[.agg #[.int .i64 a.tk, .int .i64 a.ow, .int .i64 a.un]] w (IsBB (LseP a) w) := by
  obtain ⟨tk, ow, un⟩ := a
  have hi : LseP ⟨tk, ow, un⟩ ↔ inB tk 1 999999 = true ∧ inB ow 0 9 = true ∧ inB un 0 200000 = true := by simp only [LseP, inB_iff]
  have Hi := Lib.hid hi; clear hi
  dsimp only
  go_enter Tryd.func20, Tryd.ntmps20
  go_wp2_with (go_at_call 38; refine (inL_any _ _ _ _).mono ?_; rintro e w' ⟨rfl, rfl⟩)
  all_goals go_ret
  all_goals refine ⟨_, Iff.trans ?_ Hi.out.symm, rfl, bal (Below.refl _ _) _⟩
  all_goals simp_all

theorem specLeaseOK_b (a : GLse) (b : Bool) (h : b = true ↔ LseP a) (w : World) : Calls Tryd.prog 20 #[.agg #[.int .i64 a.tk, .int .i64 a.ow, .int .i64 a.un]] w fun e w' => e = .returned (.bool b) ∧ Below w.heap.size w w' :=
  (specLeaseOK_any a w).mono fun e w' ⟨b', hb', he, hB⟩ => ⟨by rw [he, Bool.eq_iff_iff.2 (hb'.trans h.symm)], hB⟩

theorem leaseOK_b (a : GLse) (b : Bool) (h : b = true ↔ LseP a) (w : World) : Calls Tryd.prog 22 #[.agg #[.int .i64 a.tk, .int .i64 a.ow, .int .i64 a.un]] w fun e w' => e = .returned (.bool b) ∧ Below w.heap.size w w' :=
  (leaseOK_any a w).mono fun e w' ⟨b', hb', he, hB⟩ => ⟨by rw [he, Bool.eq_iff_iff.2 (hb'.trans h.symm)], hB⟩

section

variable {H : Type} {enc : TypeId × Value → H} {base : Nat} {spare : Nat → Bool} {held : Bool}

theorem open_lse' {P : Program} {t : TypeId} {f0 f1 f2 : Field} {W : World} {r : Reach} {b0 : Nat} {v : Value} {d : DataW H} {p : List MemPlace} (ht : P.underlying t = some (.struct #[f0, f1, f2])) (hone : oneCellFields P #[f0, f1, f2] = true) (hC : P.cellsOf t = 3)
    (hall : ∀ (i : Nat) f, #[f0, f1, f2][i]? = some f → P.underlying f.type = some (.int .i64)) (hv : Value.okWide P W r b0 t v) (h : DataW.Trod enc P W base spare held t v d p) : ∃ a : GLse, v = .agg #[.int .i64 a.tk, .int .i64 a.ow, .int .i64 a.un] ∧ a.fit := by
  obtain ⟨cs, rfl, hsz⟩ := okWide_struct ht hv
  obtain ⟨fuel, hf⟩ := h
  obtain ⟨zs, hz, hcs, hw⟩ := open_nums ht hone hC hall hf
  match zs, hz with
  | [z0, z1, z2], _ =>
    refine ⟨⟨z0, z1, z2⟩, ?_, i64_of_wf (hw z0 (by simp)), i64_of_wf (hw z1 (by simp)), i64_of_wf (hw z2 (by simp))⟩
    obtain ⟨l⟩ := cs
    simp [Value.cells] at hcs
    subst hcs
    rfl

theorem cellsLLse : Tryd.prog.cellsOf 23 = 3 := by kernel_rfl

set_option maxRecDepth 100000 in
theorem open_llse {W : World} {r : Reach} {b0 : Nat} {v : Value} {d : DataW H} {p : List MemPlace} (hv : Value.okWide Tryd.prog W r b0 23 v) (h : DataW.Trod enc Tryd.prog W base spare held 23 v d p) :
    ∃ a : GLse, v = .agg #[.int .i64 a.tk, .int .i64 a.ow, .int .i64 a.un] ∧ a.fit :=
  open_lse' Tryd.underlying23 (by kernel_rfl) cellsLLse (fun i f hf => by
    match i with
    | 0 => simp at hf; subst hf; exact Tryd.underlying3
    | 1 => simp at hf; subst hf; exact Tryd.underlying3
    | 2 => simp at hf; subst hf; exact Tryd.underlying3
    | i + 3 => simp at hf) hv h

end

theorem toLease_any (a : GLse) (w : World) : Calls Tryd.prog 8 #[.agg #[.int .i64 a.tk, .int .i64 a.ow, .int .i64 a.un]] w fun e w' => e = .returned (.agg #[.int .i64 a.tk, .int .i64 a.ow, .int .i64 a.un]) ∧ Below w.heap.size w w' := by
  go_enter Tryd.func8, Tryd.ntmps8
  go_wp2
  refine bodyPost_ret (v := .agg #[.int .i64 a.tk, .int .i64 a.ow, .int .i64 a.un]) (by simp [results, Tryd.results8, go_sem]) rfl ⟨rfl, ?_⟩
  exact bal (bal (bal (Below.refl _ _) _) _) _

theorem eqLease_any (a b : GLse) (w : World) : Calls Tryd.prog 12 #[.agg #[.int .i64 a.tk, .int .i64 a.ow, .int .i64 a.un], .agg #[.int .i64 b.tk, .int .i64 b.ow, .int .i64 b.un]] w (IsBB (a = b) w) := by
  obtain ⟨a0, a1, a2⟩ := a
  obtain ⟨b0, b1, b2⟩ := b
  dsimp only
  go_enter Tryd.func12, Tryd.ntmps12
  go_wp2
  all_goals go_ret
  all_goals refine ⟨_, ?_, rfl, bal (bal (Below.refl _ _) _) _⟩
  all_goals simp_all

end Go.Proofs.YtkpaocejpjhkpaaDoor
