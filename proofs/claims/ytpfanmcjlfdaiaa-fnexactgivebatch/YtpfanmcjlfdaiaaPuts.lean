/-
  A row of cells that is stored cell by cell; the element of a slice that is stored so. Over any program.
-/
import Derived.Test.YtpfanmcjlfdaiaaMem
namespace Go.Proofs.Ytpfanmcjlfdaiaa
open Go.RowKit
set_option linter.unusedVariables false

/-- values stored side by side -/
def puts (w : World) (g : Nat) : Nat → List Value → World
  | _, [] => w
  | i, v :: vs => puts (w.setCell ⟨g, i, none⟩ v) g (i + 1) vs

theorem puts_far (g : Nat) : ∀ (vs : List Value) (w : World) (i j : Nat), j < i ∨ i + vs.length ≤ j → (puts w g i vs).cell? ⟨g, j, none⟩ = w.cell? ⟨g, j, none⟩
  | [], _, _, _, _ => rfl
  | v :: vs, w, i, j, h => by
    simp only [List.length_cons] at h
    exact (puts_far g vs _ (i + 1) j (by omega)).trans (cset_ne w g i j v (by omega))

theorem puts_cells (g : Nat) : ∀ (vs : List Value) (w : World) (i : Nat), (∀ j, j < vs.length → ∃ u, w.cell? ⟨g, i + j, none⟩ = some u) → Cells (puts w g i vs) g i vs
  | [], _, _, _ => fun j v h => by simp at h
  | v :: vs, w, i, h => by
    intro j u hj
    match j with
    | 0 =>
      simp at hj; subst hj
      obtain ⟨u0, h0⟩ := h 0 (by simp)
      exact (puts_far g vs _ (i + 1) i (by omega)).trans (cset_eq w g i v h0)
    | j + 1 =>
      simp at hj
      have := puts_cells g vs (w.setCell ⟨g, i, none⟩ v) (i + 1) (fun j hj => by
        obtain ⟨u0, h0⟩ := h (j + 1) (by simp; omega)
        exact ⟨u0, (cset_ne w g i _ v (by omega)).trans (by rw [← h0, show i + 1 + j = i + (j + 1) by omega])⟩) j u hj
      rw [show i + 1 + j = i + (j + 1) by omega] at this
      exact this

theorem puts_frozen (g : Nat) (p : Addr) : ∀ (vs : List Value) (w : World) (i : Nat), (puts w g i vs).frozen? p = w.frozen? p
  | [], _, _ => rfl
  | v :: vs, w, i => (puts_frozen g p vs _ (i + 1)).trans (frozen_setCell _ _ _ _)

theorem puts_size (g : Nat) : ∀ (vs : List Value) (w : World) (i : Nat), (puts w g i vs).heap.size = w.heap.size
  | [], _, _ => rfl
  | v :: vs, w, i => (puts_size g vs _ (i + 1)).trans (size_setCell _ _ _)

theorem puts_below {a : World} (g : Nat) (hg : a.heap.size ≤ g) : ∀ (vs : List Value) (w : World) (i : Nat), Below a.heap.size a w → Below a.heap.size a (puts w g i vs)
  | [], _, _, h => h
  | v :: vs, w, i, h => puts_below g hg vs _ (i + 1) (bset h hg v)

theorem Sl.puts {α : Type} {f : α → List Value} {m : Nat} {w w1 : World} {B g : Nat} {ys : List α} (h : Sl f m w B (some ⟨g, 0, none⟩) ys) (hf : ∀ x, (f x).length = m) {k : Nat} (hk : k < ys.length) (ho : ∀ i, w1.cell? ⟨g, i, none⟩ = w.cell? ⟨g, i, none⟩) (o : α) :
    Sl f m (puts w1 g (k * m) (f o)) B (some ⟨g, 0, none⟩) (ys.set k o) := by
  refine Sl.set h hf hk o ?_ ?_
  · rw [Nat.zero_add]
    refine puts_cells g _ _ _ (fun j hj => ?_)
    obtain ⟨b, off, e, hb, hc⟩ := Sl.at_ h hk
    injection e with e
    injection e with e1 e2
    subst e1 e2
    rw [hf] at hj
    have hj2 : j < (f ys[k]).length := by rw [hf]; exact hj
    refine ⟨(f ys[k])[j], ?_⟩
    rw [ho, ← hc j _ (List.getElem?_eq_getElem hj2), Nat.zero_add]
  · intro i hi
    rw [Nat.zero_add] at hi
    rw [puts_far g _ _ _ _ (by rw [hf]; exact hi), ho]

theorem Free.puts {w1 : World} {g i : Nat} (vs : List Value) (hf : ∀ i, w1.frozen? ⟨g, i, none⟩ = false) : Free (puts w1 g i vs) (some ⟨g, 0, none⟩) := fun b e j => by
  simp [blk] at e; subst e
  rw [puts_frozen]; exact hf j

end Go.Proofs.Ytpfanmcjlfdaiaa
