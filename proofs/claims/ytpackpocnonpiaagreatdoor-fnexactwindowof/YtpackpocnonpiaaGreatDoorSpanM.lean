/-
  The part of a rising list that lies in a range, counts of many aggregates together, what FoldRange, RollUp and Downsample answer. No Go text is walked here.
-/
import Derived.Test.YtpackpocnonpiaaGreatDoorBktOK
import Derived.Test.YtpackpocnonpiaaGreatDoorOfSpec
import Derived.Test.YtpackpocnonpiaaGreatDoorMergeAgg
import Derived.Test.YtpackpocnonpiaaGreatDoorRng
namespace Go.Proofs.YtpackpocnonpiaaGreatDoor
open Go.RowKit
set_option linter.unusedVariables false

/-- so many are below a bound, ahead of the first that is not -/
def CntP {α : Type} (g : α → Int) (xs : List α) (n : Int) (k : Nat) : Prop := k ≤ xs.length ∧ (∀ j (h : j < xs.length), j < k → g xs[j] < n) ∧ (∀ h : k < xs.length, n ≤ g xs[k])

theorem CntP.le {α : Type} {g : α → Int} {xs : List α} {n m : Int} {k l : Nat} (h : CntP g xs n k) (h' : CntP g xs m l) (hnm : n ≤ m) : k ≤ l := by
  by_cases hlt : l < k
  · have h0 := h.1
    have h1 := h.2.1 l (by omega) hlt
    have h2 := h'.2.2 (by omega)
    omega
  · omega

/-- in a range -/
def inR {α : Type} (g : α → Int) (f t : Int) (x : α) : Bool := decide (f ≤ g x ∧ g x < t)

/-- the times rise -/
def Ris {α : Type} (g : α → Int) (xs : List α) : Prop := ∀ i j (hi : i < xs.length) (hj : j < xs.length), i < j → g xs[i] < g xs[j]

theorem ris_of_step {α : Type} {g : α → Int} {xs : List α} (h : ∀ j (hj : j + 1 < xs.length), g xs[j] < g xs[j + 1]) : Ris g xs := by
  intro i j hi hj hij
  obtain ⟨d, rfl⟩ : ∃ d, j = i + d + 1 := ⟨j - i - 1, by omega⟩
  induction d with
  | zero => exact h i hj
  | succ d ih =>
    have h1 := ih (by omega) (by omega)
    have h2 := h (i + d + 1) hj
    exact Int.lt_trans h1 h2

theorem span_filter {α : Type} {g : α → Int} {xs : List α} (hr : Ris g xs) {f t : Int} {k l : Nat} (hk : CntP g xs f k) (hl : CntP g xs t l) (hft : f ≤ t) : (xs.take l).drop k = xs.filter (inR g f t) := by
  have hkl := hk.le hl hft
  have h0 := hl.1
  have e : xs.filter (inR g f t) = ((xs.take l).take k).filter (inR g f t) ++ ((xs.take l).drop k).filter (inR g f t) ++ (xs.drop l).filter (inR g f t) := by
    rw [← List.filter_append, List.take_append_drop, ← List.filter_append, List.take_append_drop]
  have e1 : ((xs.take l).take k).filter (inR g f t) = [] := by
    rw [List.filter_eq_nil_iff]
    intro a ha
    obtain ⟨i, hi, rfl⟩ := List.mem_iff_getElem.1 ha
    simp only [List.length_take] at hi
    have := hk.2.1 i (by omega) (by omega)
    simp only [List.getElem_take, inR, decide_eq_true_eq]
    omega
  have e2 : ((xs.take l).drop k).filter (inR g f t) = (xs.take l).drop k := by
    rw [List.filter_eq_self]
    intro a ha
    obtain ⟨i, hi, rfl⟩ := List.mem_iff_getElem.1 ha
    simp only [List.length_drop, List.length_take] at hi
    have h1 := hl.2.1 (k + i) (by omega) (by omega)
    have h2 := hk.2.2 (by omega)
    simp only [List.getElem_drop, List.getElem_take, inR, decide_eq_true_eq]
    refine ⟨?_, h1⟩
    by_cases hz : i = 0
    · subst hz; exact h2
    · have := hr k (k + i) (by omega) (by omega) (by omega)
      omega
  have e3 : (xs.drop l).filter (inR g f t) = [] := by
    rw [List.filter_eq_nil_iff]
    intro a ha
    obtain ⟨i, hi, rfl⟩ := List.mem_iff_getElem.1 ha
    simp only [List.length_drop] at hi
    have h2 := hl.2.2 (by omega)
    simp only [List.getElem_drop, inR, decide_eq_true_eq]
    by_cases hz : i = 0
    · subst hz; simp only [Nat.add_zero]; omega
    · have := hr l (l + i) (by omega) (by omega) (by omega)
      omega
  rw [e, e1, e2, e3]
  simp

/-- how many there are in all -/
def tot : List GAgg → Int
  | [] => 0
  | a :: l => a.cnt + tot l

theorem tot_append : ∀ (l m : List GAgg), tot (l ++ m) = tot l + tot m
  | [], m => by simp [tot]
  | a :: l, m => by
    have := tot_append l m
    simp only [List.cons_append, tot, this]
    omega

theorem tot_nonneg : ∀ (l : List GAgg), (∀ x ∈ l, 0 ≤ x.cnt) → 0 ≤ tot l
  | [], _ => by simp [tot]
  | a :: l, h => by
    have h1 := tot_nonneg l (fun x hx => h x (List.mem_cons_of_mem _ hx))
    have h2 := h a (by simp)
    simp only [tot]
    omega

theorem tot_filter {α : Type} (g : α → GAgg) (p : α → Bool) : ∀ (l : List α), (∀ x ∈ l, 0 ≤ (g x).cnt) → tot ((l.filter p).map g) ≤ tot (l.map g)
  | [], _ => by simp [tot]
  | a :: l, h => by
    have h1 := tot_filter g p l (fun x hx => h x (List.mem_cons_of_mem _ hx))
    have h2 := h a (by simp)
    cases hp : p a
    · rw [List.filter_cons_of_neg (by simp [hp])]
      simp only [List.map_cons, tot]
      omega
    · rw [List.filter_cons_of_pos (by simp [hp])]
      simp only [List.map_cons, tot]
      omega

theorem mergeAll_tot : ∀ (l : List GAgg) (acc : GAgg), (∀ x ∈ l, 0 ≤ x.cnt) → acc.cnt ≤ 100000 → (acc.cnt + tot l ≤ 100000 → mergeAll acc l = (l.foldl gMerge acc, 0)) ∧ (100000 < acc.cnt + tot l → mergeAll acc l = (zAgg, 6))
  | [], acc, _, h => by
    simp only [tot, mergeAll, List.foldl_nil]
    exact ⟨fun _ => trivial, fun h' => by omega⟩
  | x :: l, acc, hx, h => by
    have hn := tot_nonneg l (fun y hy => hx y (List.mem_cons_of_mem _ hy))
    have hc : (gMerge acc x).cnt = acc.cnt + x.cnt := gMerge_cnt
    have h0 := hx x (by simp)
    simp only [tot, mergeAll, List.foldl_cons]
    by_cases hm : 100000 < (gMerge acc x).cnt
    · rw [if_pos hm]
      exact ⟨fun h' => by omega, fun _ => rfl⟩
    · rw [if_neg hm]
      have ih := mergeAll_tot l (gMerge acc x) (fun y hy => hx y (List.mem_cons_of_mem _ hy)) (by omega)
      exact ⟨fun h' => ih.1 (by omega), fun h' => ih.2 (by omega)⟩

theorem BktP.ris {xs : List GBkt} (h : BktP xs) : Ris GBkt.beg xs := ris_of_step fun j hj => (h.2 (j + 1) hj hj).2.2.2 j rfl

theorem BktP.aggs {xs : List GBkt} (h : BktP xs) : ∀ x ∈ xs, AggP x.agg := fun x hx => by
  obtain ⟨i, hi, rfl⟩ := List.mem_iff_getElem.1 hx
  exact (h.2 i hi hi).2.1

theorem AggP.nonneg {a : GAgg} (h : AggP a) : 0 ≤ a.cnt := by
  rcases h with rfl | h
  · decide
  · omega

/-- all buckets that begin in a range, together -/
def foldB (xs : List GBkt) (f t : Int) : GAgg := ((xs.filter (inR GBkt.beg f t)).map (·.agg)).foldl gMerge zAgg

/-- what FoldRange answers -/
def FoldR (xs : List GBkt) (f t : Int) (r : GAgg) (cd : Int) : Prop :=
  (4096 < xs.length ∧ r = zAgg ∧ cd = 2) ∨ (xs.length ≤ 4096 ∧ ¬ BktP xs ∧ r = zAgg ∧ cd = 1) ∨ (BktP xs ∧ rngB f t = false ∧ r = zAgg ∧ cd = 4) ∨
  (BktP xs ∧ rngB f t = true ∧ 100000 < tot (xs.map (·.agg)) ∧ r = zAgg ∧ cd = 6) ∨ (BktP xs ∧ rngB f t = true ∧ tot (xs.map (·.agg)) ≤ 100000 ∧ r = foldB xs f t ∧ cd = 0)

theorem BktP.short {xs : List GBkt} (h : BktP xs) : xs.length ≤ 8 := h.1

theorem FoldR.one {xs : List GBkt} {f t : Int} {r r' : GAgg} {c c' : Int} (h : FoldR xs f t r c) (h' : FoldR xs f t r' c') : r = r' ∧ c = c' := by
  rcases h with ⟨h1, rfl, rfl⟩ | ⟨h1, h2, rfl, rfl⟩ | ⟨h1, h2, rfl, rfl⟩ | ⟨h1, h2, h3, rfl, rfl⟩ | ⟨h1, h2, h3, rfl, rfl⟩ <;>
    rcases h' with ⟨k1, rfl, rfl⟩ | ⟨k1, k2, rfl, rfl⟩ | ⟨k1, k2, rfl, rfl⟩ | ⟨k1, k2, k3, rfl, rfl⟩ | ⟨k1, k2, k3, rfl, rfl⟩ <;>
    first
    | exact ⟨rfl, rfl⟩
    | omega
    | exact absurd k1 h2
    | exact absurd h1 k2
    | (have := h1.short; omega)
    | (have := k1.short; omega)
    | (rw [h2] at k2; cases k2)

/-- a bucket from there on, none of nothing -/
def bktOf (f : Int) (r : GAgg) : List GBkt := if r.cnt = 0 then [] else [⟨f, r⟩]

/-- what RollUp answers -/
def UpR (xs : List GBkt) (f t : Int) (L : List GBkt) (cd : Int) : Prop := ∃ r, FoldR xs f t r cd ∧ L = bktOf f r

theorem UpR.one {xs : List GBkt} {f t : Int} {L L' : List GBkt} {c c' : Int} (h : UpR xs f t L c) (h' : UpR xs f t L' c') : L = L' ∧ c = c' := by
  obtain ⟨r, h1, rfl⟩ := h
  obtain ⟨r', h2, rfl⟩ := h'
  obtain ⟨rfl, rfl⟩ := h1.one h2
  exact ⟨rfl, rfl⟩

theorem bktOf_z (f : Int) : bktOf f zAgg = [] := rfl

theorem bktOf_len (f : Int) (r : GAgg) : (bktOf f r).length ≤ 1 := by unfold bktOf; split <;> simp

theorem SamP.ris {xs : List GSam} (h : SamP xs) : Ris GSam.t xs := ris_of_step fun j hj => (h.2 (j + 1) hj hj).2 j rfl

theorem SamP.span {xs : List GSam} (h : SamP xs) (k l : Nat) : SamP ((xs.take l).drop k) := by
  refine ⟨by have := h.1; simp only [List.length_drop, List.length_take]; omega, fun j hj _ => ?_⟩
  simp only [List.length_drop, List.length_take] at hj
  have h1 := h.2 (k + j) (by omega) (by omega)
  refine ⟨by simpa using h1.1, fun i hi => ?_⟩
  have h2 := h1.2 (k + i) (by omega)
  simpa using h2

theorem gOf_cnt {xs : List GSam} : (gOf xs).cnt = xs.length := by
  have key : ∀ (l : List GSam) (acc : GAgg), ((l.map one).foldl gMerge acc).cnt = acc.cnt + l.length := by
    intro l
    induction l with
    | nil => intro acc; simp
    | cons s l ih =>
      intro acc
      rw [List.map_cons, List.foldl_cons, ih, gMerge_cnt]
      simp [one]
      omega
  have := key xs zAgg
  simpa [gOf, zAgg] using this

/-- what Downsample answers -/
def DownR (xs : List GSam) (f t : Int) (L : List GBkt) (cd : Int) : Prop :=
  (4096 < xs.length ∧ L = [] ∧ cd = 2) ∨ (xs.length ≤ 4096 ∧ ¬ SamP xs ∧ L = [] ∧ cd = 1) ∨ (SamP xs ∧ rngB f t = false ∧ L = [] ∧ cd = 4) ∨ (SamP xs ∧ rngB f t = true ∧ L = bktOf f (gOf (xs.filter (inR GSam.t f t))) ∧ cd = 0)

theorem DownR.one {xs : List GSam} {f t : Int} {L L' : List GBkt} {c c' : Int} (h : DownR xs f t L c) (h' : DownR xs f t L' c') : L = L' ∧ c = c' := by
  rcases h with ⟨h1, rfl, rfl⟩ | ⟨h1, h2, rfl, rfl⟩ | ⟨h1, h2, rfl, rfl⟩ | ⟨h1, h2, rfl, rfl⟩ <;>
    rcases h' with ⟨k1, rfl, rfl⟩ | ⟨k1, k2, rfl, rfl⟩ | ⟨k1, k2, rfl, rfl⟩ | ⟨k1, k2, rfl, rfl⟩ <;>
    first
    | exact ⟨rfl, rfl⟩
    | omega
    | exact absurd k1 h2
    | exact absurd h1 k2
    | (have := h1.1; omega)
    | (have := k1.1; omega)
    | (rw [h2] at k2; cases k2)

theorem DownR.len {xs : List GSam} {f t : Int} {L : List GBkt} {c : Int} (h : DownR xs f t L c) : L.length ≤ 1 := by
  rcases h with ⟨_, rfl, _⟩ | ⟨_, _, rfl, _⟩ | ⟨_, _, rfl, _⟩ | ⟨_, _, rfl, _⟩
  · simp
  · simp
  · simp
  · exact bktOf_len _ _

theorem UpR.len {xs : List GBkt} {f t : Int} {L : List GBkt} {c : Int} (h : UpR xs f t L c) : L.length ≤ 1 := by
  obtain ⟨r, _, rfl⟩ := h
  exact bktOf_len _ _

end Go.Proofs.YtpackpocnonpiaaGreatDoor
