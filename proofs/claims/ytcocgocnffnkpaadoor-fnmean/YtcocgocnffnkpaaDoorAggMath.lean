/-
  Aggregates of parts, put together in order, are the aggregate of all: plain lemmas. No Go text is walked here.
-/
import Derived.Test.YtcocgocnffnkpaaDoorAggOf
import Derived.Test.YtcocgocnffnkpaaDoorSrcSam
namespace Go.Proofs.YtcocgocnffnkpaaDoor
open Go.RowKit
set_option linter.unusedVariables false

/-- of nothing all is zero -/
def Good (a : GAgg) : Prop := 0 ≤ a.cnt ∧ (a.cnt = 0 → a = zAgg)

theorem AggP.good {a : GAgg} (h : AggP a) : Good a := by
  rcases h with h | h
  · subst h; exact ⟨by simp [zAgg], fun _ => rfl⟩
  · exact ⟨by omega, fun e => by omega⟩

theorem gMerge_zero {a : GAgg} (h : Good a) : gMerge a zAgg = a := by
  by_cases h0 : a.cnt = 0
  · rw [h.2 h0]; simp [gMerge, zAgg]
  · simp [gMerge, h0, zAgg]

theorem gMerge_assoc {a b c : GAgg} (ha : Good a) (hb : Good b) (hc : Good c) : gMerge (gMerge a b) c = gMerge a (gMerge b c) := by
  have ha0 := ha.1
  have hb0 := hb.1
  have hc0 := hc.1
  by_cases h0 : a.cnt = 0
  · simp [gMerge, h0]
  by_cases h1 : b.cnt = 0
  · simp [gMerge, h0, h1]
  have e1 : gMerge a b = ⟨a.cnt + b.cnt, a.sum + b.sum, min a.mn b.mn, max a.mx b.mx, a.fst, b.lst⟩ := by simp [gMerge, h0, h1]
  have n1 : ¬ (a.cnt + b.cnt = 0) := by omega
  by_cases h2 : c.cnt = 0
  · have e2 : gMerge b c = b := by simp [gMerge, h1, h2]
    rw [e1, e2, e1]
    simp [gMerge, n1, h2]
  · have e2 : gMerge b c = ⟨b.cnt + c.cnt, b.sum + c.sum, min b.mn c.mn, max b.mx c.mx, b.fst, c.lst⟩ := by simp [gMerge, h1, h2]
    have n2 : ¬ (b.cnt + c.cnt = 0) := by omega
    rw [e1, e2]
    simp only [gMerge, n1, n2, h0, h2, if_false]
    simp only [GAgg.mk.injEq, and_true]
    refine ⟨by omega, by omega, by omega, by omega⟩

theorem good_one (s : GSam) : Good (one s) := ⟨by simp [one], fun h => by simp [one] at h⟩

theorem good_merge {a b : GAgg} (ha : Good a) (hb : Good b) : Good (gMerge a b) := by
  refine ⟨by rw [gMerge_cnt]; have := ha.1; have := hb.1; omega, fun h => ?_⟩
  rw [gMerge_cnt] at h
  have a0 : a.cnt = 0 := by have := ha.1; have := hb.1; omega
  have b0 : b.cnt = 0 := by have := ha.1; have := hb.1; omega
  rw [ha.2 a0, hb.2 b0]
  simp [gMerge, zAgg]

theorem good_fold : ∀ (l : List GSam) (acc : GAgg), Good acc → Good ((l.map one).foldl gMerge acc)
  | [], acc, h => h
  | s :: l, acc, h => good_fold l _ (good_merge h (good_one s))

theorem good_z : Good zAgg := ⟨by simp [zAgg], fun _ => rfl⟩

theorem fold_out : ∀ (l : List GSam) (acc : GAgg), Good acc → (l.map one).foldl gMerge acc = gMerge acc ((l.map one).foldl gMerge zAgg)
  | [], acc, h => (gMerge_zero h).symm
  | s :: l, acc, h => by
    simp only [List.map_cons, List.foldl_cons]
    rw [fold_out l _ (good_merge h (good_one s)), gMerge_z, fold_out l _ (good_one s), gMerge_assoc h (good_one s) (good_fold l _ good_z)]

theorem gOf_append (a b : List GSam) : gOf (a ++ b) = gMerge (gOf a) (gOf b) := by
  unfold gOf
  rw [List.map_append, List.foldl_append, fold_out b _ (good_fold a _ good_z)]

theorem gOf_cnt (l : List GSam) : (gOf l).cnt = l.length := by
  have : ∀ (l : List GSam) (acc : GAgg), ((l.map one).foldl gMerge acc).cnt = acc.cnt + l.length := by
    intro l
    induction l with
    | nil => intro acc; simp
    | cons s l ih => intro acc; simp only [List.map_cons, List.foldl_cons, ih, gMerge_cnt, List.length_cons]; simp only [one]; omega
  have := this l zAgg
  simpa [gOf, zAgg] using this

theorem aggP_fold : ∀ (l : List GSam) (acc : GAgg), AggP acc → (∀ s ∈ l, samB s = true) → acc.cnt + l.length ≤ 100000 → AggP ((l.map one).foldl gMerge acc)
  | [], acc, h, _, _ => h
  | s :: l, acc, h, hs, hc => by
    simp only [List.length_cons] at hc
    have e : (gMerge acc (one s)).cnt = acc.cnt + 1 := by rw [gMerge_cnt]; simp [one]
    exact aggP_fold l _ (h.merge (AggP.of_one (hs s (by simp))) (by omega)) (fun x hx => hs x (by simp [hx])) (by omega)

/-- neighbours' times rise -/
def Adj (l : List GSam) : Prop := ∀ i (h : i + 1 < l.length), (l[i]'(by omega)).t < l[i + 1].t

theorem Adj.take {l : List GSam} (h : Adj l) (n : Nat) : Adj (l.take n) := fun i hi => by
  simp only [List.length_take] at hi
  simpa using h i (by omega)

theorem Adj.drop {l : List GSam} (h : Adj l) (n : Nat) : Adj (l.drop n) := fun i hi => by
  simp only [List.length_drop] at hi
  have := h (n + i) (by omega)
  simpa [Nat.add_assoc] using this

theorem samP_of {l : List GSam} (h : Adj l) (hs : ∀ s ∈ l, samB s = true) (hl : l.length ≤ 4096) : SamP l :=
  ⟨hl, fun j hj _ => ⟨hs _ (List.getElem_mem hj), fun i hi => by subst hi; exact h i hj⟩⟩

theorem adj_append {fr F fr' F' : Int} {a b : List GSam} (ha : RiseT fr F a) (hb : RiseT fr' F' b) (hF : F ≤ fr') : Adj (a ++ b) := by
  intro i hi
  simp only [List.length_append] at hi
  by_cases h1 : i + 1 < a.length
  · rw [List.getElem_append_left (by omega), List.getElem_append_left h1]; exact ha.2.1 i h1
  · by_cases h2 : i < a.length
    · rw [List.getElem_append_left h2, List.getElem_append_right (by omega)]
      have x := ha.1 a[i] (List.getElem_mem h2)
      have y := hb.1 (b[i + 1 - a.length]'(by omega)) (List.getElem_mem (by omega))
      omega
    · rw [List.getElem_append_right (by omega), List.getElem_append_right (by omega)]
      have := hb.2.1 (i - a.length) (by omega)
      have e : i + 1 - a.length = i - a.length + 1 := by omega
      simpa [e] using this

end Go.Proofs.YtcocgocnffnkpaaDoor
