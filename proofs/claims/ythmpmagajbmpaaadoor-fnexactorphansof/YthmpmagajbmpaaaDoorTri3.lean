/-
  Words for arrays of three numbers, and contracts of the laws' own helpers on them (to, eq). No conditions.
-/
import Derived.Test.YthmpmagajbmpaaaDoorRecs
import Derived.ChangeKeysEq
namespace Go.Proofs.YthmpmagajbmpaaaDoor
open Go.ChangeShapes Go.WideShapes Go.ChangeAt Go.RowKit Go.Deep Go.Joins
set_option linter.unusedVariables false
set_option linter.unusedSimpArgs false

/-- three numbers -/
structure GTri where
  a : Int
  b : Int
  c : Int
deriving DecidableEq

def GTri.vals (t : GTri) : List Value := [.int .i64 t.a, .int .i64 t.b, .int .i64 t.c]

def GTri.fit (t : GTri) : Prop := I64 t.a ∧ I64 t.b ∧ I64 t.c

def zTri : GTri := ⟨0, 0, 0⟩

/-- its number of a tier -/
def GTri.at (t : GTri) (i : Int) : Int := if i = 0 then t.a else if i = 1 then t.b else t.c

def GTri.set (t : GTri) (i v : Int) : GTri := if i = 0 then ⟨v, t.b, t.c⟩ else if i = 1 then ⟨t.a, v, t.c⟩ else ⟨t.a, t.b, v⟩

def GTri.upto (t : GTri) (n : Nat) : GTri := ⟨if 0 < n then t.a else 0, if 1 < n then t.b else 0, if 2 < n then t.c else 0⟩

def Tri (w : World) (b : Nat) (t : GTri) : Prop := w.cell? ⟨b, 0, none⟩ = some (.int .i64 t.a) ∧ w.cell? ⟨b, 1, none⟩ = some (.int .i64 t.b) ∧ w.cell? ⟨b, 2, none⟩ = some (.int .i64 t.c)

theorem Tri.cells {w : World} {b : Nat} {t : GTri} (h : Tri w b t) : Cells w b 0 t.vals := fun j v hv => by
  rw [Nat.zero_add]
  match j, hv with
  | 0, hv => simp [GTri.vals] at hv; subst hv; exact h.1
  | 1, hv => simp [GTri.vals] at hv; subst hv; exact h.2.1
  | 2, hv => simp [GTri.vals] at hv; subst hv; exact h.2.2
  | j + 3, hv => simp [GTri.vals] at hv

theorem Cells.tri {w : World} {b : Nat} {t : GTri} (h : Cells w b 0 t.vals) : Tri w b t := ⟨h 0 _ rfl, h 1 _ rfl, h 2 _ rfl⟩

theorem Tri.new (w : World) (a : GTri) (t : TypeId) : Tri (w.alloc (.cells #[.int .i64 a.a, .int .i64 a.b, .int .i64 a.c] t)) w.heap.size a := (Cells.new w a.vals t).tri

theorem Tri.below {w w' : World} {b B : Nat} {t : GTri} (h : Tri w b t) (hb : Below B w w') (hB : b < B) : Tri w' b t := (h.cells.below hb hB).tri

/-- two arrays of three numbers, held against each other -/
theorem run_eq3 {P : Program} {t e : TypeId} {i : TypeInfo} (ht : P.underlying t = some (.array 3 e)) (he : P.underlying e = some (.int .i64)) (hi : P.info? e = some i) (hc : P.cellsOf e = 1) (hp : P.plainKey e = true) (a b : GTri) (r : Bool) (hr : decide (a = b) = r) (w : World) :
    (Op.equalIn 10000 t (.agg #[.int .i64 a.a, .int .i64 a.b, .int .i64 a.c]) (.agg #[.int .i64 b.a, .int .i64 b.b, .int .i64 b.c])).run P w = .ok r w := by
  subst hr
  rw [show (10000 : Nat) = 9998 + 1 + 1 from rfl, run_equalIn_array w (9998 + 1) _ _ ht hi, hc]
  have r3 : List.range 3 = [0, 1, 2] := rfl
  rw [r3]
  simp only [Op.eqItems, Sem.run_bind]
  rw [run_part_plain w hp (v := .int .i64 a.a) (by rfl)]
  simp only [Result.andThen_ok]
  rw [run_part_plain w hp (v := .int .i64 b.a) (by rfl)]
  simp only [Result.andThen_ok]
  rw [run_equalIn_int w 9998 e .i64 .i64 _ _ he]
  simp only [Result.andThen_ok]
  obtain ⟨a0, a1, a2⟩ := a
  obtain ⟨b0, b1, b2⟩ := b
  dsimp only
  by_cases h0 : a0 = b0
  rotate_left
  · simp [h0]
  subst h0
  simp only [beq_self_eq_true, Bool.not_true, Bool.false_eq_true, if_false, Sem.run_bind]
  rw [run_part_plain w hp (v := .int .i64 a1) (by rfl)]
  simp only [Result.andThen_ok]
  rw [run_part_plain w hp (v := .int .i64 b1) (by rfl)]
  simp only [Result.andThen_ok]
  rw [run_equalIn_int w 9998 e .i64 .i64 _ _ he]
  simp only [Result.andThen_ok]
  by_cases h1 : a1 = b1
  rotate_left
  · simp [h1]
  subst h1
  simp only [beq_self_eq_true, Bool.not_true, Bool.false_eq_true, if_false, Sem.run_bind]
  rw [run_part_plain w hp (v := .int .i64 a2) (by rfl)]
  simp only [Result.andThen_ok]
  rw [run_part_plain w hp (v := .int .i64 b2) (by rfl)]
  simp only [Result.andThen_ok]
  rw [run_equalIn_int w 9998 e .i64 .i64 _ _ he]
  simp only [Result.andThen_ok]
  by_cases h2 : a2 = b2 <;> simp [h2]

theorem infoI : ∃ i, Tryd.prog.info? 3 = some i := Option.isSome_iff_exists.1 (show (Tryd.prog.info? 3).isSome = true by kernel_rfl)

theorem eq3 (a b : GTri) (r : Bool) (hr : decide (a = b) = r) (w : World) : (Op.equalIn 10000 24 (.agg #[.int .i64 a.a, .int .i64 a.b, .int .i64 a.c]) (.agg #[.int .i64 b.a, .int .i64 b.b, .int .i64 b.c])).run Tryd.prog w = .ok r w := by
  obtain ⟨i, hi⟩ := infoI
  exact run_eq3 Tryd.underlying24 Tryd.underlying3 hi (by kernel_rfl) (by kernel_rfl) a b r hr w

theorem bdrewB {B : Nat} {a w : World} (h : Below B a w) (n : Nat) : Below B a (w.drewN n) := ⟨h.os, h.tape, h.output, h.size, h.block⟩

set_option maxRecDepth 100000 in
theorem toIntA3_any (a : GTri) (w : World) : Calls Tryd.prog 37 #[.agg #[.int .i64 a.a, .int .i64 a.b, .int .i64 a.c]] w fun e w' => e = .returned (.agg #[.int .i64 a.a, .int .i64 a.b, .int .i64 a.c]) ∧ Below w.heap.size w w' := by
  go_enter Tryd.func37, Tryd.ntmps37
  go_wp2_with fail
  obtain ⟨W, hW⟩ : ∃ W, W = ((w.alloc (.cells #[.int .i64 a.a, .int .i64 a.b, .int .i64 a.c] 24)).alloc (.cells #[.int .i64 0, .int .i64 0, .int .i64 0] 24)).alloc (.cells #[.int .i64 0, .int .i64 0, .int .i64 0] 24) := ⟨_, rfl⟩
  have ht : Tri W w.heap.size a := by
    rw [hW]
    exact ((Tri.new w a _).below (bal (Below.refl _ _) _) (by simp)).below (bal (Below.refl _ _) _) (by simp <;> omega)
  have hz : Tri W (w.heap.size + 1) zTri := by
    rw [hW]
    have := (Tri.new (w.alloc (.cells #[.int .i64 a.a, .int .i64 a.b, .int .i64 a.c] 24)) zTri 24).below (bal (Below.refl _ _) (.cells #[.int .i64 0, .int .i64 0, .int .i64 0] 24)) (by simp)
    simpa [zTri] using this
  have ho : Tri W (w.heap.size + 1 + 1) zTri := by
    rw [hW]
    have := Tri.new ((w.alloc (.cells #[.int .i64 a.a, .int .i64 a.b, .int .i64 a.c] 24)).alloc (.cells #[.int .i64 0, .int .i64 0, .int .i64 0] 24)) zTri 24
    simpa [zTri] using this
  have hg : ∀ i, W.frozen? ⟨w.heap.size + 1, i, none⟩ = false := fun i => by rw [hW]; simp [go_sem]
  have hf : ∀ i, W.frozen? ⟨w.heap.size + 1 + 1, i, none⟩ = false := fun i => by rw [hW]; simp [go_sem]
  have hb : Below w.heap.size w W := by rw [hW]; exact bal (bal (bal (Below.refl _ _) _) _) _
  rw [← hW]
  clear hW
  generalize hx0 : w.heap.size = x0 at *
  have Hx0 := Lib.hid hx0; clear hx0
  have Ht := Lib.hid ht; clear ht
  have Hz := Lib.hid hz; clear hz
  have Ho := Lib.hid (show Tri W (x0 + 1 + 1) (a.upto 0) from ho); clear ho
  have Hf := Lib.hid hf; clear hf
  have Hg := Lib.hid hg; clear hg
  go_loopw [4] (fun i wr => ∃ n : Nat, i = .int .i64 n ∧ 0 ≤ n ∧ n ≤ 3 ∧ Hid (Tri wr x0 a) ∧ Hid (Tri wr (x0 + 1) zTri) ∧ Hid (Tri wr (x0 + 1 + 1) (a.upto n)) ∧ Hid (∀ i, wr.frozen? ⟨x0 + 1 + 1, i, none⟩ = false) ∧ Hid (∀ i, wr.frozen? ⟨x0 + 1, i, none⟩ = false) ∧ Below x0 w wr) (fun i _ => 3 - (intOf i).toNat)
  case atStart => exact ⟨0, rfl, by omega, by omega, Ht, Hz, Ho, Hf, Hg, hb⟩
  case round =>
    clear Ht Hz Ho Hf Hg hb
    obtain ⟨n, rfl, n0, n3, Ht, Hz, Ho, Hf, Hg, hb⟩ := hrel
    rcases (show n = 0 ∨ n = 1 ∨ n = 2 ∨ n = 3 by omega) with rfl | rfl | rfl | rfl
    · obtain ⟨p0, p1, p2⟩ : wr.cell? ⟨x0, 0, none⟩ = some (.int .i64 a.a) ∧ wr.cell? ⟨x0, 1, none⟩ = some (.int .i64 a.b) ∧ wr.cell? ⟨x0, 2, none⟩ = some (.int .i64 a.c) := Ht.out
      obtain ⟨q0, q1, q2⟩ : wr.cell? ⟨x0 + 1 + 1, 0, none⟩ = some (.int .i64 (a.upto 0).a) ∧ wr.cell? ⟨x0 + 1 + 1, 1, none⟩ = some (.int .i64 (a.upto 0).b) ∧ wr.cell? ⟨x0 + 1 + 1, 2, none⟩ = some (.int .i64 (a.upto 0).c) := Ho.out
      have f0 : wr.frozen? ⟨x0 + 1 + 1, 0, none⟩ = false := Hf.out _
      have hn : Tri (wr.setCell ⟨x0 + 1 + 1, 0, none⟩ (.int .i64 a.a)) (x0 + 1 + 1) (a.upto 1) := by
        refine ⟨?_, ?_, ?_⟩
        · exact cset_eq _ _ _ _ q0
        · exact (cset_ne _ _ _ _ _ (by decide)).trans (q1.trans (by simp [GTri.upto]))
        · exact (cset_ne _ _ _ _ _ (by decide)).trans (q2.trans (by simp [GTri.upto]))
      have Hn := Lib.hid hn; clear hn
      have ht : Tri (wr.setCell ⟨x0 + 1 + 1, 0, none⟩ (.int .i64 a.a)) x0 a := Cells.tri (Ht.out.cells.far (by dsimp only; omega) _)
      have hz : Tri (wr.setCell ⟨x0 + 1 + 1, 0, none⟩ (.int .i64 a.a)) (x0 + 1) zTri := Cells.tri (Hz.out.cells.far (by dsimp only; omega) _)
      have HT := Lib.hid ht; clear ht
      have HZ := Lib.hid hz; clear hz
      have hfn : ∀ i, (wr.setCell ⟨x0 + 1 + 1, 0, none⟩ (.int .i64 a.a)).frozen? ⟨x0 + 1 + 1, i, none⟩ = false := fun i => (frozen_setCell _ _ _ _).trans (Hf.out i)
      have HFN := Lib.hid hfn; clear hfn
      have hgn : ∀ i, (wr.setCell ⟨x0 + 1 + 1, 0, none⟩ (.int .i64 a.a)).frozen? ⟨x0 + 1, i, none⟩ = false := fun i => (frozen_setCell _ _ _ _).trans (Hg.out i)
      have HGN := Lib.hid hgn; clear hgn
      have hbn : Below x0 w (wr.setCell ⟨x0 + 1 + 1, 0, none⟩ (.int .i64 a.a)) := hb.setCell (by show x0 ≤ x0 + 1 + 1; omega) _
      have HBN := Lib.hid hbn; clear hbn
      clear Ht Ho Hz Hf Hg hb
      go_wp2
      go_roundw
      case rel => exact ⟨1, rfl, by omega, by omega, HT, HZ, Hn, HFN, HGN, HBN.out⟩
      case measure => simp [intOf]
    · obtain ⟨p0, p1, p2⟩ : wr.cell? ⟨x0, 0, none⟩ = some (.int .i64 a.a) ∧ wr.cell? ⟨x0, 1, none⟩ = some (.int .i64 a.b) ∧ wr.cell? ⟨x0, 2, none⟩ = some (.int .i64 a.c) := Ht.out
      obtain ⟨q0, q1, q2⟩ : wr.cell? ⟨x0 + 1 + 1, 0, none⟩ = some (.int .i64 (a.upto 1).a) ∧ wr.cell? ⟨x0 + 1 + 1, 1, none⟩ = some (.int .i64 (a.upto 1).b) ∧ wr.cell? ⟨x0 + 1 + 1, 2, none⟩ = some (.int .i64 (a.upto 1).c) := Ho.out
      have f0 : wr.frozen? ⟨x0 + 1 + 1, 1, none⟩ = false := Hf.out _
      have hn : Tri (wr.setCell ⟨x0 + 1 + 1, 1, none⟩ (.int .i64 a.b)) (x0 + 1 + 1) (a.upto 2) := by
        refine ⟨?_, ?_, ?_⟩
        · exact (cset_ne _ _ _ _ _ (by decide)).trans (q0.trans (by simp [GTri.upto]))
        · exact cset_eq _ _ _ _ q1
        · exact (cset_ne _ _ _ _ _ (by decide)).trans (q2.trans (by simp [GTri.upto]))
      have Hn := Lib.hid hn; clear hn
      have ht : Tri (wr.setCell ⟨x0 + 1 + 1, 1, none⟩ (.int .i64 a.b)) x0 a := Cells.tri (Ht.out.cells.far (by dsimp only; omega) _)
      have hz : Tri (wr.setCell ⟨x0 + 1 + 1, 1, none⟩ (.int .i64 a.b)) (x0 + 1) zTri := Cells.tri (Hz.out.cells.far (by dsimp only; omega) _)
      have HT := Lib.hid ht; clear ht
      have HZ := Lib.hid hz; clear hz
      have hfn : ∀ i, (wr.setCell ⟨x0 + 1 + 1, 1, none⟩ (.int .i64 a.b)).frozen? ⟨x0 + 1 + 1, i, none⟩ = false := fun i => (frozen_setCell _ _ _ _).trans (Hf.out i)
      have HFN := Lib.hid hfn; clear hfn
      have hgn : ∀ i, (wr.setCell ⟨x0 + 1 + 1, 1, none⟩ (.int .i64 a.b)).frozen? ⟨x0 + 1, i, none⟩ = false := fun i => (frozen_setCell _ _ _ _).trans (Hg.out i)
      have HGN := Lib.hid hgn; clear hgn
      have hbn : Below x0 w (wr.setCell ⟨x0 + 1 + 1, 1, none⟩ (.int .i64 a.b)) := hb.setCell (by show x0 ≤ x0 + 1 + 1; omega) _
      have HBN := Lib.hid hbn; clear hbn
      clear Ht Ho Hz Hf Hg hb
      go_wp2
      go_roundw
      case rel => exact ⟨2, rfl, by omega, by omega, HT, HZ, Hn, HFN, HGN, HBN.out⟩
      case measure => simp [intOf]
    · obtain ⟨p0, p1, p2⟩ : wr.cell? ⟨x0, 0, none⟩ = some (.int .i64 a.a) ∧ wr.cell? ⟨x0, 1, none⟩ = some (.int .i64 a.b) ∧ wr.cell? ⟨x0, 2, none⟩ = some (.int .i64 a.c) := Ht.out
      obtain ⟨q0, q1, q2⟩ : wr.cell? ⟨x0 + 1 + 1, 0, none⟩ = some (.int .i64 (a.upto 2).a) ∧ wr.cell? ⟨x0 + 1 + 1, 1, none⟩ = some (.int .i64 (a.upto 2).b) ∧ wr.cell? ⟨x0 + 1 + 1, 2, none⟩ = some (.int .i64 (a.upto 2).c) := Ho.out
      have f0 : wr.frozen? ⟨x0 + 1 + 1, 2, none⟩ = false := Hf.out _
      have hn : Tri (wr.setCell ⟨x0 + 1 + 1, 2, none⟩ (.int .i64 a.c)) (x0 + 1 + 1) (a.upto 3) := by
        refine ⟨?_, ?_, ?_⟩
        · exact (cset_ne _ _ _ _ _ (by decide)).trans (q0.trans (by simp [GTri.upto]))
        · exact (cset_ne _ _ _ _ _ (by decide)).trans (q1.trans (by simp [GTri.upto]))
        · exact cset_eq _ _ _ _ q2
      have Hn := Lib.hid hn; clear hn
      have ht : Tri (wr.setCell ⟨x0 + 1 + 1, 2, none⟩ (.int .i64 a.c)) x0 a := Cells.tri (Ht.out.cells.far (by dsimp only; omega) _)
      have hz : Tri (wr.setCell ⟨x0 + 1 + 1, 2, none⟩ (.int .i64 a.c)) (x0 + 1) zTri := Cells.tri (Hz.out.cells.far (by dsimp only; omega) _)
      have HT := Lib.hid ht; clear ht
      have HZ := Lib.hid hz; clear hz
      have hfn : ∀ i, (wr.setCell ⟨x0 + 1 + 1, 2, none⟩ (.int .i64 a.c)).frozen? ⟨x0 + 1 + 1, i, none⟩ = false := fun i => (frozen_setCell _ _ _ _).trans (Hf.out i)
      have HFN := Lib.hid hfn; clear hfn
      have hgn : ∀ i, (wr.setCell ⟨x0 + 1 + 1, 2, none⟩ (.int .i64 a.c)).frozen? ⟨x0 + 1, i, none⟩ = false := fun i => (frozen_setCell _ _ _ _).trans (Hg.out i)
      have HGN := Lib.hid hgn; clear hgn
      have hbn : Below x0 w (wr.setCell ⟨x0 + 1 + 1, 2, none⟩ (.int .i64 a.c)) := hb.setCell (by show x0 ≤ x0 + 1 + 1; omega) _
      have HBN := Lib.hid hbn; clear hbn
      clear Ht Ho Hz Hf Hg hb
      go_wp2
      go_roundw
      case rel => exact ⟨3, rfl, by omega, by omega, HT, HZ, Hn, HFN, HGN, HBN.out⟩
      case measure => simp [intOf]
    · obtain ⟨q0, q1, q2⟩ : wr.cell? ⟨x0 + 1 + 1, 0, none⟩ = some (.int .i64 a.a) ∧ wr.cell? ⟨x0 + 1 + 1, 1, none⟩ = some (.int .i64 a.b) ∧ wr.cell? ⟨x0 + 1 + 1, 2, none⟩ = some (.int .i64 a.c) := Ho.out
      obtain ⟨z0, z1, z2⟩ : wr.cell? ⟨x0 + 1, 0, none⟩ = some (.int .i64 0) ∧ wr.cell? ⟨x0 + 1, 1, none⟩ = some (.int .i64 0) ∧ wr.cell? ⟨x0 + 1, 2, none⟩ = some (.int .i64 0) := Hz.out
      have g0 : wr.frozen? ⟨x0 + 1, 0, none⟩ = false := Hg.out _
      have g1 : wr.frozen? ⟨x0 + 1, 1, none⟩ = false := Hg.out _
      have g2 : wr.frozen? ⟨x0 + 1, 2, none⟩ = false := Hg.out _
      clear Ht Ho Hz Hf Hg
      go_wp2
      refine bodyPost_ret (v := .agg #[.int .i64 a.a, .int .i64 a.b, .int .i64 a.c]) (by simp [results, Tryd.results37, go_sem, *]) rfl ⟨rfl, ?_⟩
      rw [Hx0.out]
      repeat' first | exact hb | refine Below.setCell ?_ (by show x0 ≤ x0 + 1; omega) _

set_option maxRecDepth 100000 in
theorem eqIntA3_any (a b : GTri) (w : World) : Calls Tryd.prog 42 #[.agg #[.int .i64 a.a, .int .i64 a.b, .int .i64 a.c], .agg #[.int .i64 b.a, .int .i64 b.b, .int .i64 b.c]] w (IsBB (a = b) w) := by
  go_enter Tryd.func42, Tryd.ntmps42
  go_wp2_with fail
  obtain ⟨W, hW⟩ : ∃ W, W = (w.alloc (.cells #[.int .i64 a.a, .int .i64 a.b, .int .i64 a.c] 24)).alloc (.cells #[.int .i64 b.a, .int .i64 b.b, .int .i64 b.c] 24) := ⟨_, rfl⟩
  have ht : Tri W w.heap.size a := by
    rw [hW]
    exact (Tri.new w a _).below (bal (Below.refl _ _) _) (by simp)
  have hz : Tri W (w.heap.size + 1) b := by
    rw [hW]
    have := Tri.new (w.alloc (.cells #[.int .i64 a.a, .int .i64 a.b, .int .i64 a.c] 24)) b 24
    simpa using this
  have hb : Below w.heap.size w W := by rw [hW]; exact bal (bal (Below.refl _ _) _) _
  have hs : w.heap.size + 2 ≤ W.heap.size := by rw [hW]; simp
  rw [← hW]
  clear hW
  have hB : ∀ wr, Below W.heap.size W wr → Below w.heap.size w wr := fun wr h => hb.trans (h.mono (by omega))
  have Hc : Hid (∀ wr, Below W.heap.size W wr → Tri wr w.heap.size a ∧ Tri wr (w.heap.size + 1) b) := Lib.hid (fun wr h => ⟨ht.below h (by omega), hz.below h (by omega)⟩)
  clear ht hz hs
  have HB := Lib.hid hB; clear hB hb
  generalize hx0 : w.heap.size = x0 at *
  have Hx0 := Lib.hid hx0; clear hx0
  go_loopw [5] (fun i wr => ∃ n : Nat, i = .int .i64 n ∧ n ≤ 3 ∧ Hid (∀ j : Nat, j < n → [a.a, a.b, a.c][j]? = [b.a, b.b, b.c][j]?) ∧ Below W.heap.size W wr) (fun i _ => 3 - (intOf i).toNat)
  case atStart => exact ⟨0, rfl, by omega, Lib.hid (fun j h => by omega), Below.refl _ _⟩
  case round =>
    obtain ⟨n, rfl, n3, He, hb0⟩ := hrel
    obtain ⟨⟨p0, p1, p2⟩, q0, q1, q2⟩ := Hc.out wr hb0
    have hb := HB.out wr hb0
    clear Hc HB
    rcases (show n = 0 ∨ n = 1 ∨ n = 2 ∨ n = 3 by omega) with rfl | rfl | rfl | rfl
    · by_cases he : a.a = b.a
      · have d0 : (a.a != b.a) = false := by simpa using he
        have d1 : (a.a == b.a) = true := by simpa using he
        have HE : Hid (∀ j : Nat, j < 1 → [a.a, a.b, a.c][j]? = [b.a, b.b, b.c][j]?) := Lib.hid (fun j hj => by
          by_cases hjn : j < 0
          · exact He.out j hjn
          · obtain rfl : j = 0 := by omega
            simp [he])
        clear he He
        go_wp2_with fail
        go_quiet (fail)
        go_wp2
        go_roundw
        case rel => exact ⟨1, rfl, by omega, HE, bdrewB hb0 _⟩
        case measure => simp [intOf]
      · have d0 : (a.a != b.a) = true := by simpa using he
        have d1 : (a.a == b.a) = false := by simpa using he
        have Hn : Hid (¬ a = b) := Lib.hid (fun h => he (by rw [h]))
        clear he He
        go_wp2_with fail
        go_quiet (fail)
        go_wp2
        go_ret
        exact ⟨false, by simp [Hn.out], rfl, by rw [Hx0.out]; exact bdrewB hb _⟩
    · by_cases he : a.b = b.b
      · have d0 : (a.b != b.b) = false := by simpa using he
        have d1 : (a.b == b.b) = true := by simpa using he
        have HE : Hid (∀ j : Nat, j < 2 → [a.a, a.b, a.c][j]? = [b.a, b.b, b.c][j]?) := Lib.hid (fun j hj => by
          by_cases hjn : j < 1
          · exact He.out j hjn
          · obtain rfl : j = 1 := by omega
            simp [he])
        clear he He
        go_wp2_with fail
        go_quiet (fail)
        go_wp2
        go_roundw
        case rel => exact ⟨2, rfl, by omega, HE, bdrewB hb0 _⟩
        case measure => simp [intOf]
      · have d0 : (a.b != b.b) = true := by simpa using he
        have d1 : (a.b == b.b) = false := by simpa using he
        have Hn : Hid (¬ a = b) := Lib.hid (fun h => he (by rw [h]))
        clear he He
        go_wp2_with fail
        go_quiet (fail)
        go_wp2
        go_ret
        exact ⟨false, by simp [Hn.out], rfl, by rw [Hx0.out]; exact bdrewB hb _⟩
    · by_cases he : a.c = b.c
      · have d0 : (a.c != b.c) = false := by simpa using he
        have d1 : (a.c == b.c) = true := by simpa using he
        have HE : Hid (∀ j : Nat, j < 3 → [a.a, a.b, a.c][j]? = [b.a, b.b, b.c][j]?) := Lib.hid (fun j hj => by
          by_cases hjn : j < 2
          · exact He.out j hjn
          · obtain rfl : j = 2 := by omega
            simp [he])
        clear he He
        go_wp2_with fail
        go_quiet (fail)
        go_wp2
        go_roundw
        case rel => exact ⟨3, rfl, by omega, HE, bdrewB hb0 _⟩
        case measure => simp [intOf]
      · have d0 : (a.c != b.c) = true := by simpa using he
        have d1 : (a.c == b.c) = false := by simpa using he
        have Hn : Hid (¬ a = b) := Lib.hid (fun h => he (by rw [h]))
        clear he He
        go_wp2_with fail
        go_quiet (fail)
        go_wp2
        go_ret
        exact ⟨false, by simp [Hn.out], rfl, by rw [Hx0.out]; exact bdrewB hb _⟩
    · have Hy : Hid (a = b) := Lib.hid (by
        have h0 := He.out 0 (by omega)
        have h1 := He.out 1 (by omega)
        have h2 := He.out 2 (by omega)
        obtain ⟨a0, a1, a2⟩ := a
        obtain ⟨b0, b1, b2⟩ := b
        simp at h0 h1 h2
        simp [h0, h1, h2])
      clear He p0 p1 p2 q0 q1 q2
      go_wp2
      go_ret
      exact ⟨true, by simp [Hy.out], rfl, by rw [Hx0.out]; exact hb⟩

end Go.Proofs.YthmpmagajbmpaaaDoor
