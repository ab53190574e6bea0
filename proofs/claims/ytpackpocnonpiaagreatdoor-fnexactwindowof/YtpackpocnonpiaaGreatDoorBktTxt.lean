/-
  Contracts of impl.bucketText, of listText over buckets, and of impl.BucketsText. Conditions: the library's table of powers of ten is as its text lays it.
-/
import Derived.Test.YtpackpocnonpiaaGreatDoorSamTxt
import Derived.Test.YtpackpocnonpiaaGreatDoorBktImpl
namespace Go.Proofs.YtpackpocnonpiaaGreatDoor
open Go.ChangeShapes Go.WideShapes Go.ChangeAt Go.RowKit
set_option linter.unusedVariables false
set_option linter.unusedSimpArgs false

/-- the text of an aggregate -/
def aggT (a : GAgg) : ByteArray := joinT (a.nums.map numT) comma

/-- the text of a bucket -/
def bktT (s : GBkt) : ByteArray := numT s.beg ++ ⟨#[58]⟩ ++ aggT s.agg

def BktC (s : GBkt) : Prop := s.fit ∧ AggP s.agg

theorem aggT_size {a : GAgg} (h : a.fit) : (aggT a).size ≤ 132 := by
  have := joinT_size comma 21 (a.nums.map numT) (fun x hx => by
    obtain ⟨n, hn, rfl⟩ := List.mem_map.1 hx
    exact numT_le (fit_nums h n hn).1 (fit_nums h n hn).2)
  rw [List.length_map, comma_size] at this
  have e : a.nums.length = 6 := rfl
  rw [e] at this
  exact this

theorem bktT_size {s : GBkt} (h : BktC s) : (bktT s).size ≤ 154 := by
  unfold bktT
  rw [ByteArray.size_append, ByteArray.size_append]
  have h1 := numT_le h.1.1.1 h.1.1.2
  have h2 := aggT_size h.1.2
  have e1 : (⟨#[58]⟩ : ByteArray).size = 1 := rfl
  omega

theorem bktC_of {xs : List GBkt} (hp : BktP xs) (hf : ∀ x ∈ xs, GBkt.fit x) : ∀ x ∈ xs, BktC x := by
  intro x hx
  obtain ⟨j, hj, rfl⟩ := List.mem_iff_getElem.1 hx
  exact ⟨hf _ hx, (hp.2 j hj hj).2.1⟩

/-- what BucketsText answers -/
def BktTextOf (xs : List GBkt) (s : ByteArray) (cd : Int) : Prop :=
  (¬ xs.length ≤ 4096 ∧ s = ⟨#[]⟩ ∧ cd = 2) ∨ (xs.length ≤ 4096 ∧ ¬ BktP xs ∧ s = ⟨#[]⟩ ∧ cd = 1) ∨ (BktP xs ∧ s = joinT (xs.map bktT) blank ∧ cd = 0)

theorem bktT_one {xs : List GBkt} {s s' : ByteArray} {cd cd' : Int} (h : BktTextOf xs s cd) (h' : BktTextOf xs s' cd') : s = s' ∧ cd = cd' := by
  have k : BktP xs → xs.length ≤ 4096 := fun h => by have := h.1; omega
  rcases h with ⟨h1, rfl, rfl⟩ | ⟨h1, h2, rfl, rfl⟩ | ⟨h1, rfl, rfl⟩ <;> rcases h' with ⟨g1, rfl, rfl⟩ | ⟨g1, g2, rfl, rfl⟩ | ⟨g1, rfl, rfl⟩ <;> first | exact ⟨rfl, rfl⟩ | (exfalso; first | exact h1 (k g1) | exact g1 (k h1) | exact h1 g1 | exact h2 g1 | exact g2 h1 | exact g1 h1)

end Go.Proofs.YtpackpocnonpiaaGreatDoor
