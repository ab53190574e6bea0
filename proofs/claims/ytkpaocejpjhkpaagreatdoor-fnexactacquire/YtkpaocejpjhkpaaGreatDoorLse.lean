/-
  Words for leases, and contracts of what asks whether one is right, in both packages, and of the laws' own helpers on them. No conditions.
-/
import Derived.Test.YtkpaocejpjhkpaaGreatDoorAggLaw
import Derived.Test.YtkpaocejpjhkpaaGreatDoorAggB
namespace Go.Proofs.YtkpaocejpjhkpaaGreatDoor
open Go.ChangeShapes Go.WideShapes Go.ChangeAt Go.RowKit Go.Deep Go.Joins
set_option linter.unusedVariables false
set_option linter.unusedSimpArgs false

/-- a lease as data -/
structure GLse where
  tk : Int
  ow : Int
  un : Int
deriving DecidableEq

def zLse : GLse := ⟨0, 0, 0⟩

def GLse.fit (a : GLse) : Prop := I64 a.tk ∧ I64 a.ow ∧ I64 a.un

/-- right: all within its bounds -/
def LseP (a : GLse) : Prop := (1 ≤ a.tk ∧ a.tk ≤ 999999) ∧ (0 ≤ a.ow ∧ a.ow ≤ 9) ∧ 0 ≤ a.un ∧ a.un ≤ 200000

theorem LseP.fit {a : GLse} (h : LseP a) : a.fit := by unfold LseP at h; unfold GLse.fit I64; omega

/-- a lease lies in a block of its own -/
def Thr (w : World) (b : Nat) (a : GLse) : Prop :=
  w.cell? ⟨b, 0, none⟩ = some (.int .i64 a.tk) ∧ w.cell? ⟨b, 1, none⟩ = some (.int .i64 a.ow) ∧ w.cell? ⟨b, 2, none⟩ = some (.int .i64 a.un)

theorem Thr.new (w : World) (a : GLse) (t : TypeId) : Thr (w.alloc (.cells #[.int .i64 a.tk, .int .i64 a.ow, .int .i64 a.un] t)) w.heap.size a := ⟨by simp, by simp, by simp⟩

theorem Thr.below {w w' : World} {b B : Nat} {a : GLse} (h : Thr w b a) (hb : Below B w w') (hB : b < B) : Thr w' b a :=
  ⟨(hb.cell (p := ⟨b, 0, none⟩) hB).trans h.1, (hb.cell (p := ⟨b, 1, none⟩) hB).trans h.2.1, (hb.cell (p := ⟨b, 2, none⟩) hB).trans h.2.2⟩

theorem Thr.alloc {w : World} {b : Nat} {a : GLse} (h : Thr w b a) (hB : b < w.heap.size) (o : Obj) : Thr (w.alloc o) b a := h.below (bal (Below.refl _ _) o) hB

/-- a lease written into a block -/
def setLse (w : World) (b : Nat) (m : GLse) : World := ((w.setCell ⟨b, 0, none⟩ (.int .i64 m.tk)).setCell ⟨b, 1, none⟩ (.int .i64 m.ow)).setCell ⟨b, 2, none⟩ (.int .i64 m.un)

theorem setLse_below {a w : World} {B : Nat} (h : Below B a w) {b : Nat} (hb : B ≤ b) (m : GLse) : Below B a (setLse w b m) :=
  ((h.setCell hb _).setCell hb _).setCell hb _

theorem setLse_size (w : World) (b : Nat) (m : GLse) : (setLse w b m).heap.size = w.heap.size := by simp [setLse]

theorem isId_any (n : Int) (w : World) : Calls Tryz.prog 44 #[.int .i64 n] w fun e w' => e = .returned (.bool (inB n 0 9)) ∧ w = w' := by
  go_enter Tryz.func44, Tryz.ntmps44
  go_wp2_with (go_at_call 63; refine (within_any _ _ _ _).mono ?_; rintro e w' ⟨rfl, rfl⟩)
  go_ret
  exact ⟨rfl, rfl⟩

theorem leaseOK_any (a : GLse) (w : World) : Calls Tryz.prog 68 #[.agg #[.int .i64 a.tk, .int .i64 a.ow, .int .i64 a.un]] w (IsBB (LseP a) w) := by
  obtain ⟨tk, ow, un⟩ := a
  have hi : LseP ⟨tk, ow, un⟩ ↔ inB tk 1 999999 = true ∧ inB ow 0 9 = true ∧ inB un 0 200000 = true := by simp only [LseP, inB_iff]
  have Hi := Lib.hid hi; clear hi
  dsimp only
  go_enter Tryz.func68, Tryz.ntmps68
  go_wp2_with (first | (go_at_call 63; refine (within_any _ _ _ _).mono ?_; rintro e w' ⟨rfl, rfl⟩) | (go_at_call 44; refine (isId_any _ _).mono ?_; rintro e w' ⟨rfl, rfl⟩))
  all_goals go_ret
  all_goals refine ⟨_, Iff.trans ?_ Hi.out.symm, rfl, bal (Below.refl _ _) _⟩
  all_goals simp_all

theorem specLeaseOK_any (a : GLse) (w : World) : Calls Tryz.prog 72 #[.agg #[.int .i64 a.tk, .int .i64 a.ow, .int .i64 a.un]] w (IsBB (LseP a) w) := by
  obtain ⟨tk, ow, un⟩ := a
  have hi : LseP ⟨tk, ow, un⟩ ↔ inB tk 1 999999 = true ∧ inB ow 0 9 = true ∧ inB un 0 200000 = true := by simp only [LseP, inB_iff]
  have Hi := Lib.hid hi; clear hi
  dsimp only
  go_enter Tryz.func72, Tryz.ntmps72
  go_wp2_with (go_at_call 35; refine (inL_any _ _ _ _).mono ?_; rintro e w' ⟨rfl, rfl⟩)
  all_goals go_ret
  all_goals refine ⟨_, Iff.trans ?_ Hi.out.symm, rfl, bal (Below.refl _ _) _⟩
  all_goals simp_all

theorem specLeaseOK_b (a : GLse) (b : Bool) (h : b = true ↔ LseP a) (w : World) : Calls Tryz.prog 72 #[.agg #[.int .i64 a.tk, .int .i64 a.ow, .int .i64 a.un]] w fun e w' => e = .returned (.bool b) ∧ Below w.heap.size w w' :=
  (specLeaseOK_any a w).mono fun e w' ⟨b', hb', he, hB⟩ => ⟨by rw [he, Bool.eq_iff_iff.2 (hb'.trans h.symm)], hB⟩

theorem leaseOK_b (a : GLse) (b : Bool) (h : b = true ↔ LseP a) (w : World) : Calls Tryz.prog 68 #[.agg #[.int .i64 a.tk, .int .i64 a.ow, .int .i64 a.un]] w fun e w' => e = .returned (.bool b) ∧ Below w.heap.size w w' :=
  (leaseOK_any a w).mono fun e w' ⟨b', hb', he, hB⟩ => ⟨by rw [he, Bool.eq_iff_iff.2 (hb'.trans h.symm)], hB⟩

section

variable {H : Type} {enc : TypeId × Value → H} {base : Nat} {spare : Nat → Bool} {held : Bool}

theorem open_lse' {P : Program} {t : TypeId} {f0 f1 f2 : Field} {W : World} {r : Reach} {b0 : Nat} {v : Value} {d : DataW H} {p : List MemPlace} (ht : P.underlying t = some (.struct #[f0, f1, f2])) (hone : oneCellFields P #[f0, f1, f2] = true) (hC : P.cellsOf t = 3)
    (hall : ∀ (i : Nat) f, #[f0, f1, f2][i]? = some f → P.underlying f.type = some (.int .i64)) (hv : Value.okWide P W r b0 t v) (h : DataW.Trod enc P W base spare held t v d p) : ∃ a : GLse, v = .agg #[.int .i64 a.tk, .int .i64 a.ow, .int .i64 a.un] ∧ a.fit := by
  obtain ⟨cs, rfl, hsz⟩ := okWide_struct ht hv
  obtain ⟨fuel, hf⟩ := h
  obtain ⟨zs, hz, hcs, hw⟩ := open_nums ht hone hC hall hf
  match zs, hz with
  | [z0, z1, z2], _ =>
    refine ⟨⟨z0, z1, z2⟩, ?_, i64_of_wf (hw z0 (by simp)), i64_of_wf (hw z1 (by simp)), i64_of_wf (hw z2 (by simp))⟩
    obtain ⟨l⟩ := cs
    simp [Value.cells] at hcs
    subst hcs
    rfl

end

end Go.Proofs.YtkpaocejpjhkpaaGreatDoor
