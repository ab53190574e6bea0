/-
  Words for regions that make an aggregate's variable beside calls: what is kept, and the new block. No Go text is walked here.
-/
import Derived.Test.YthcnlgjklbodjabMergeAll
namespace Go.Proofs.Ythcnlgjklbodjab
open Go.RowKit
set_option linter.unusedVariables false

/-- what is kept while a region runs: two aggregates in their blocks -/
def Kept2 (W : World) (x0 : Nat) (a b : GAgg) (w : World) : Prop := Below W.heap.size W w ∧ Six w x0 a ∧ Six w (x0 + 1) b

theorem Kept2.step {W w w7 : World} {x0 : Nat} {a b : GAgg} (K : Kept2 W x0 a b w) (s0 : x0 + 1 < W.heap.size) (hb : Below w.heap.size w w7) : Kept2 W x0 a b w7 :=
  ⟨K.1.trans (hb.mono K.1.size), K.2.1.below hb (by have := K.1.size; omega), K.2.2.below hb (by have := K.1.size; omega)⟩

theorem Kept2.size {W w : World} {x0 : Nat} {a b : GAgg} (K : Kept2 W x0 a b w) : W.heap.size ≤ w.heap.size := K.1.size

theorem Kept2.alloc {W w : World} {x0 : Nat} {a b : GAgg} (K : Kept2 W x0 a b w) (s0 : x0 + 1 < W.heap.size) (o : Obj) : Kept2 W x0 a b (w.alloc o) := K.step s0 (bal (Below.refl _ _) o)

/-- a new aggregate's block, of zeros, from block B on -/
def Zed (B : Nat) (w : World) (n : Nat) : Prop := Six w n zAgg ∧ Free w (some ⟨n, 0, none⟩) ∧ n < w.heap.size ∧ B ≤ n

theorem zed_new {B : Nat} {x : World} (h : B ≤ x.heap.size) (t : TypeId) : Zed B (x.alloc (.cells #[.int .i64 0, .int .i64 0, .int .i64 0, .int .i64 0, .int .i64 0, .int .i64 0] t)) x.heap.size := ⟨Six.new x zAgg t, free_alloc x _ t 0, by simp, h⟩

theorem Zed.base {B : Nat} {w : World} {n : Nat} (h : Zed B w n) : B ≤ n := h.2.2.2

theorem Zed.step {B : Nat} {w w' : World} {n : Nat} (h : Zed B w n) (hb : Below w.heap.size w w') : Zed B w' n :=
  ⟨h.1.below hb h.2.2.1, h.2.1.below hb (fun b e => by simp [blk] at e; have := h.2.2.1; omega), Nat.lt_of_lt_of_le h.2.2.1 hb.size, h.2.2.2⟩

/-- its cells, as they are read and written -/
theorem Zed.cells {B : Nat} {w : World} {n : Nat} (h : Zed B w n) : (w.cell? ⟨n, 0, none⟩ = some (.int .i64 0) ∧ w.cell? ⟨n, 1, none⟩ = some (.int .i64 0) ∧ w.cell? ⟨n, 2, none⟩ = some (.int .i64 0) ∧ w.cell? ⟨n, 3, none⟩ = some (.int .i64 0) ∧ w.cell? ⟨n, 4, none⟩ = some (.int .i64 0) ∧ w.cell? ⟨n, 5, none⟩ = some (.int .i64 0)) ∧
    w.frozen? ⟨n, 0, none⟩ = false ∧ w.frozen? ⟨n, 1, none⟩ = false ∧ w.frozen? ⟨n, 2, none⟩ = false ∧ w.frozen? ⟨n, 3, none⟩ = false ∧ w.frozen? ⟨n, 4, none⟩ = false ∧ w.frozen? ⟨n, 5, none⟩ = false :=
  ⟨h.1, h.2.1 _ rfl 0, h.2.1 _ rfl 1, h.2.1 _ rfl 2, h.2.1 _ rfl 3, h.2.1 _ rfl 4, h.2.1 _ rfl 5⟩

theorem kept2_set {W w : World} {x0 n : Nat} {a b : GAgg} (K : Kept2 W x0 a b w) (hn : W.heap.size ≤ n) (s0 : x0 + 1 < W.heap.size) (m : GAgg) : Kept2 W x0 a b (setAgg w n m) :=
  ⟨setAgg_below K.1 hn m, setAgg_other K.2.1 (by omega) m, setAgg_other K.2.2 (by omega) m⟩

theorem kept2_cells {W w : World} {x0 n : Nat} {a b : GAgg} (K : Kept2 W x0 a b w) (hn : W.heap.size ≤ n) (s0 : x0 + 1 < W.heap.size) (m : GAgg) : (((((((w.setCell ⟨n, 0, none⟩ (.int .i64 m.cnt)).setCell ⟨n, 1, none⟩ (.int .i64 m.sum)).setCell ⟨n, 2, none⟩ (.int .i64 m.mn)).setCell ⟨n, 3, none⟩ (.int .i64 m.mx)).setCell ⟨n, 4, none⟩ (.int .i64 m.fst)).setCell ⟨n, 5, none⟩ (.int .i64 m.lst)).cell? ⟨x0, 0, none⟩ = some (.int .i64 a.cnt) ∧ ((((((w.setCell ⟨n, 0, none⟩ (.int .i64 m.cnt)).setCell ⟨n, 1, none⟩ (.int .i64 m.sum)).setCell ⟨n, 2, none⟩ (.int .i64 m.mn)).setCell ⟨n, 3, none⟩ (.int .i64 m.mx)).setCell ⟨n, 4, none⟩ (.int .i64 m.fst)).setCell ⟨n, 5, none⟩ (.int .i64 m.lst)).cell? ⟨x0, 1, none⟩ = some (.int .i64 a.sum) ∧ ((((((w.setCell ⟨n, 0, none⟩ (.int .i64 m.cnt)).setCell ⟨n, 1, none⟩ (.int .i64 m.sum)).setCell ⟨n, 2, none⟩ (.int .i64 m.mn)).setCell ⟨n, 3, none⟩ (.int .i64 m.mx)).setCell ⟨n, 4, none⟩ (.int .i64 m.fst)).setCell ⟨n, 5, none⟩ (.int .i64 m.lst)).cell? ⟨x0, 2, none⟩ = some (.int .i64 a.mn) ∧ ((((((w.setCell ⟨n, 0, none⟩ (.int .i64 m.cnt)).setCell ⟨n, 1, none⟩ (.int .i64 m.sum)).setCell ⟨n, 2, none⟩ (.int .i64 m.mn)).setCell ⟨n, 3, none⟩ (.int .i64 m.mx)).setCell ⟨n, 4, none⟩ (.int .i64 m.fst)).setCell ⟨n, 5, none⟩ (.int .i64 m.lst)).cell? ⟨x0, 3, none⟩ = some (.int .i64 a.mx) ∧ ((((((w.setCell ⟨n, 0, none⟩ (.int .i64 m.cnt)).setCell ⟨n, 1, none⟩ (.int .i64 m.sum)).setCell ⟨n, 2, none⟩ (.int .i64 m.mn)).setCell ⟨n, 3, none⟩ (.int .i64 m.mx)).setCell ⟨n, 4, none⟩ (.int .i64 m.fst)).setCell ⟨n, 5, none⟩ (.int .i64 m.lst)).cell? ⟨x0, 4, none⟩ = some (.int .i64 a.fst) ∧ ((((((w.setCell ⟨n, 0, none⟩ (.int .i64 m.cnt)).setCell ⟨n, 1, none⟩ (.int .i64 m.sum)).setCell ⟨n, 2, none⟩ (.int .i64 m.mn)).setCell ⟨n, 3, none⟩ (.int .i64 m.mx)).setCell ⟨n, 4, none⟩ (.int .i64 m.fst)).setCell ⟨n, 5, none⟩ (.int .i64 m.lst)).cell? ⟨x0, 5, none⟩ = some (.int .i64 a.lst)) ∧ (((((((w.setCell ⟨n, 0, none⟩ (.int .i64 m.cnt)).setCell ⟨n, 1, none⟩ (.int .i64 m.sum)).setCell ⟨n, 2, none⟩ (.int .i64 m.mn)).setCell ⟨n, 3, none⟩ (.int .i64 m.mx)).setCell ⟨n, 4, none⟩ (.int .i64 m.fst)).setCell ⟨n, 5, none⟩ (.int .i64 m.lst)).cell? ⟨x0 + 1, 0, none⟩ = some (.int .i64 b.cnt) ∧ ((((((w.setCell ⟨n, 0, none⟩ (.int .i64 m.cnt)).setCell ⟨n, 1, none⟩ (.int .i64 m.sum)).setCell ⟨n, 2, none⟩ (.int .i64 m.mn)).setCell ⟨n, 3, none⟩ (.int .i64 m.mx)).setCell ⟨n, 4, none⟩ (.int .i64 m.fst)).setCell ⟨n, 5, none⟩ (.int .i64 m.lst)).cell? ⟨x0 + 1, 1, none⟩ = some (.int .i64 b.sum) ∧ ((((((w.setCell ⟨n, 0, none⟩ (.int .i64 m.cnt)).setCell ⟨n, 1, none⟩ (.int .i64 m.sum)).setCell ⟨n, 2, none⟩ (.int .i64 m.mn)).setCell ⟨n, 3, none⟩ (.int .i64 m.mx)).setCell ⟨n, 4, none⟩ (.int .i64 m.fst)).setCell ⟨n, 5, none⟩ (.int .i64 m.lst)).cell? ⟨x0 + 1, 2, none⟩ = some (.int .i64 b.mn) ∧ ((((((w.setCell ⟨n, 0, none⟩ (.int .i64 m.cnt)).setCell ⟨n, 1, none⟩ (.int .i64 m.sum)).setCell ⟨n, 2, none⟩ (.int .i64 m.mn)).setCell ⟨n, 3, none⟩ (.int .i64 m.mx)).setCell ⟨n, 4, none⟩ (.int .i64 m.fst)).setCell ⟨n, 5, none⟩ (.int .i64 m.lst)).cell? ⟨x0 + 1, 3, none⟩ = some (.int .i64 b.mx) ∧ ((((((w.setCell ⟨n, 0, none⟩ (.int .i64 m.cnt)).setCell ⟨n, 1, none⟩ (.int .i64 m.sum)).setCell ⟨n, 2, none⟩ (.int .i64 m.mn)).setCell ⟨n, 3, none⟩ (.int .i64 m.mx)).setCell ⟨n, 4, none⟩ (.int .i64 m.fst)).setCell ⟨n, 5, none⟩ (.int .i64 m.lst)).cell? ⟨x0 + 1, 4, none⟩ = some (.int .i64 b.fst) ∧ ((((((w.setCell ⟨n, 0, none⟩ (.int .i64 m.cnt)).setCell ⟨n, 1, none⟩ (.int .i64 m.sum)).setCell ⟨n, 2, none⟩ (.int .i64 m.mn)).setCell ⟨n, 3, none⟩ (.int .i64 m.mx)).setCell ⟨n, 4, none⟩ (.int .i64 m.fst)).setCell ⟨n, 5, none⟩ (.int .i64 m.lst)).cell? ⟨x0 + 1, 5, none⟩ = some (.int .i64 b.lst)) := (kept2_set K hn s0 m).2

theorem kept2_first {W : World} {x0 : Nat} {a b : GAgg} (K : Kept2 W x0 a b W) (s0 : x0 + 1 < W.heap.size) (o : Obj) : Kept2 W x0 a b (W.alloc o).drew := by
  have := K.alloc s0 o
  exact ⟨this.1.drew, this.2⟩

theorem zed_first (x : World) (t : TypeId) : Zed x.heap.size (x.alloc (.cells #[.int .i64 0, .int .i64 0, .int .i64 0, .int .i64 0, .int .i64 0, .int .i64 0] t)).drew x.heap.size := zed_new (Nat.le_refl _) t

/-- behind a region that has made an aggregate's variable: it lies in a new block, nothing old has turned -/
def CutR (W wx : World) (nb : Nat) (r : GAgg) : Prop := Six wx nb r ∧ Below W.heap.size W wx ∧ W.heap.size ≤ nb ∧ nb < wx.heap.size

theorem cut_new {W w : World} {x0 : Nat} {a b : GAgg} (K : Kept2 W x0 a b w) (r : GAgg) (t : TypeId) : CutR W (w.alloc (.cells #[.int .i64 r.cnt, .int .i64 r.sum, .int .i64 r.mn, .int .i64 r.mx, .int .i64 r.fst, .int .i64 r.lst] t)) w.heap.size r :=
  ⟨Six.new w r t, bal K.1 _, K.1.size, by simp⟩

theorem cut_set {W w : World} {x0 n : Nat} {a b : GAgg} (K : Kept2 W x0 a b w) (Z : Zed W.heap.size w n) (r : GAgg) : CutR W ((((((w.setCell ⟨n, 0, none⟩ (.int .i64 r.cnt)).setCell ⟨n, 1, none⟩ (.int .i64 r.sum)).setCell ⟨n, 2, none⟩ (.int .i64 r.mn)).setCell ⟨n, 3, none⟩ (.int .i64 r.mx)).setCell ⟨n, 4, none⟩ (.int .i64 r.fst)).setCell ⟨n, 5, none⟩ (.int .i64 r.lst)) n r :=
  ⟨setAgg_six Z.1 r, setAgg_below K.1 Z.2.2.2 r, Z.2.2.2, by have := setAgg_size w n r; unfold setAgg at this; rw [this]; exact Z.2.2.1⟩

end Go.Proofs.Ythcnlgjklbodjab
