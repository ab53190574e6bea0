/-
  The model's drawn samples: their times rise from a time on, their values are values; they lie in new memory. Conditions: the source has not been asked too often.
-/
import Derived.Test.YtpackpocnonpiaaGreatDoorSrc
import Derived.Test.YtpackpocnonpiaaGreatDoorAppG
import Derived.Test.YtpackpocnonpiaaGreatDoorSams
namespace Go.Proofs.YtpackpocnonpiaaGreatDoor
open Go.ChangeShapes Go.WideShapes Go.ChangeAt Go.RowKit
set_option linter.unusedVariables false

/-- times that rise from fr on and are below F, values that are some -/
def RiseT (fr F : Int) (xs : List GSam) : Prop := (∀ s ∈ xs, fr ≤ s.t ∧ s.t < F ∧ -1000000 ≤ s.v ∧ s.v ≤ 1000000) ∧ (∀ i (h : i + 1 < xs.length), (xs[i]'(by omega)).t < xs[i + 1].t) ∧ fr ≤ F ∧ F ≤ fr + 4 * xs.length

theorem RiseT.nil (fr : Int) : RiseT fr fr [] := ⟨by simp, by simp, by omega, by simp⟩

theorem RiseT.snoc {fr F d v : Int} {xs : List GSam} (h : RiseT fr F xs) (h0 : 0 ≤ d) (h3 : d ≤ 3) (hv : -1000000 ≤ v ∧ v ≤ 1000000) : RiseT fr (F + d + 1) (xs ++ [⟨F + d, v⟩]) := by
  obtain ⟨a, b, c, e⟩ := h
  refine ⟨?_, ?_, by omega, by simp; omega⟩
  · intro s hs
    rcases List.mem_append.1 hs with hs | hs
    · have := a s hs; omega
    · simp at hs; subst hs; dsimp only; omega
  · intro i hi
    simp only [List.length_append, List.length_cons, List.length_nil] at hi
    by_cases hl : i + 1 < xs.length
    · rw [List.getElem_append_left (by omega), List.getElem_append_left hl]; exact b i hl
    · have e1 : i + 1 = xs.length := by omega
      rw [List.getElem_append_left (by omega), List.getElem_append_right (by omega)]
      have := a xs[i] (List.getElem_mem (by omega))
      simp [e1]
      omega

theorem infoSam' : (Tryz.prog.info? 142).map (fun i => (i.zero, i.size, i.bytes)) = some (some (.agg #[.int .i64 0, .int .i64 0]), 2, 16) := by kernel_rfl

theorem sam_one (s : GSam) : ∀ u ∈ GSam.vals s, u.oneCell' = true := by
  intro u hu
  simp [GSam.vals] at hu
  rcases hu with rfl | rfl <;> rfl

theorem new_sam (w : World) (s : GSam) (e : TypeId) : Sl GSam.vals 2 (w.alloc (.cells #[.int .i64 s.t, .int .i64 s.v] e)) (w.heap.size + 1) (some ⟨w.heap.size, 0, none⟩) [s] := by
  intro _
  refine ⟨w.heap.size, 0, rfl, by omega, fun k hk j v hv => ?_⟩
  obtain rfl : k = 0 := by simpa using hk
  rw [World.cell?_alloc_new]
  match j, hv with
  | 0, hv => simpa [GSam.vals] using hv
  | 1, hv => simpa [GSam.vals] using hv
  | j + 2, hv => simp [GSam.vals] at hv

theorem grown_new {w w4 w5 : World} {row row' : Option Nat} (h : w.grownBy w4 row) (k : w4.grownBy w5 row') (hr : ∀ g, row' = some g → w.heap.size ≤ g) : w.grownBy w5 row :=
  ⟨k.os.trans h.os, k.tape.trans h.tape, k.output.trans h.output, Nat.le_trans h.size k.size, fun i hi hne => (k.block i (Nat.lt_of_lt_of_le hi h.size) (fun e => by have := hr i e.symm; omega)).trans (h.block i hi hne)⟩

/-- what is drawn -/
def DrawnSams (fr n : Int) (b q : Nat) (w : World) (e : Ending) (w' : World) : Prop := ∃ (A : Option Addr) (c : Nat) (xs : List GSam) (F : Int),
  e = .returned (.slice A xs.length c) ∧ OwnSl GSam.vals 2 142 w.heap.size w' (.slice A xs.length c) xs ∧ RiseT fr F xs ∧ (xs.length : Int) ≤ n ∧ Src w' b q ∧ w.grownBy w' (some b)

end Go.Proofs.YtpackpocnonpiaaGreatDoor
