/-
  A text of numbers with a sign between each two: parted at the sign, by the model's way and by the library's SplitN. No Go text is walked here.
-/
import Derived.Test.YtpackpocnonpiaaGreatDoorDv
import Derived.Test.YtpackpocnonpiaaGreatDoorCutUp
import Derived.Lib.Split
import Derived.Lib.IndexLaws
import Derived.Lib.IndexBytes
import Derived.Lib.CutLaws
namespace Go.Proofs.YtpackpocnonpiaaGreatDoor
open Go.RowKit
set_option linter.unusedVariables false

def FitI (n : Int) : Prop := -9223372036854775808 ≤ n ∧ n ≤ 9223372036854775807

/-- a text is these pieces, with a sign between each two -/
def Pieces (t : ByteArray) (c : UInt8) (xs : List ByteArray) : Prop := ∃ ps last, xs = ps ++ [last] ∧ t.data.toList = flatC c ps ++ last.data.toList

/-- a text is the texts of these numbers, with a sign between each two -/
def NumsOf (t : ByteArray) (c : UInt8) (ns : List Int) : Prop := Pieces t c (ns.map numT)

/-- the sign is in no number's text -/
def NoNum (c : UInt8) : Prop := c.toNat < 45 ∨ 57 < c.toNat ∨ c.toNat = 46 ∨ c.toNat = 47

theorem NumsOf.cut {t : ByteArray} {c : UInt8} {ns : List Int} (hc : NoNum c) (h : NumsOf t c ns) : ∃ ps last, ns.map numT = ps ++ [last] ∧ CutOf t c ps last := by
  obtain ⟨ps, last, e, h⟩ := h
  have hn : ∀ p ∈ ns.map numT, c ∉ p.data.toList := by
    intro p hp
    obtain ⟨n, _, rfl⟩ := List.mem_map.1 hp
    exact num_nocomma n c hc
  rw [e] at hn
  exact ⟨ps, last, e, h, fun p hp => hn p (by simp [hp]), hn last (by simp)⟩

/-- the pieces that a text is cut into are its numbers -/
theorem NumsOf.of_cut {t : ByteArray} {c : UInt8} {ns : List Int} {ps : List ByteArray} {last : ByteArray} (hc : NoNum c) (h : NumsOf t c ns) (k : CutOf t c ps last) : ps ++ [last] = ns.map numT := by
  obtain ⟨qs, b, e, k'⟩ := h.cut hc
  obtain ⟨e1, e2⟩ := CutOf.one (t := t) k k'
  rw [e1, e2, e]

theorem CutOf.pieces {t : ByteArray} {c : UInt8} {ps : List ByteArray} {last : ByteArray} (k : CutOf t c ps last) : Pieces t c (ps ++ [last]) := ⟨ps, last, rfl, k.1⟩

theorem nums_one {t : ByteArray} {c : UInt8} {ns ms : List Int} (hc : NoNum c) (h : NumsOf t c ns) (k : NumsOf t c ms) (hn : ∀ n ∈ ns, FitI n) (hm : ∀ n ∈ ms, FitI n) : ns = ms := by
  obtain ⟨ps, last, e, k'⟩ := k.cut hc
  have e2 := h.of_cut hc k'
  have e3 : ns.map numT = ms.map numT := by rw [← e2, e]
  clear h k e k' e2
  induction ns generalizing ms with
  | nil => cases ms with
    | nil => rfl
    | cons m ms => simp at e3
  | cons n ns ih => cases ms with
    | nil => simp at e3
    | cons m ms =>
      simp at e3
      have a := hn n (by simp)
      have b := hm m (by simp)
      rw [num_inj a.1 a.2 b.1 b.2 e3.1, ih (ms := ms) (fun x hx => hn x (by simp [hx])) (fun x hx => hm x (by simp [hx])) (by simpa using e3.2)]

def sepB (c : UInt8) : ByteArray := ⟨#[c]⟩

theorem index_c (s : ByteArray) (c : UInt8) : Lib.indexB s (sepB c) = Lib.indexByte s.data.toList c := by
  show Lib.index s.data.toList [c] = _
  exact Lib.index_one _ _

theorem count_flat (c : UInt8) : ∀ (ps : List ByteArray), (∀ p ∈ ps, c ∉ p.data.toList) → (flatC c ps).count c = ps.length
  | [], _ => rfl
  | p :: ps, h => by
    unfold flatC
    rw [List.flatMap_cons, List.count_append, List.count_append]
    have e1 : p.data.toList.count c = 0 := List.count_eq_zero.2 (h p (by simp))
    have e2 : ([c] : List UInt8).count c = 1 := by simp
    have e3 := count_flat c ps (fun q hq => h q (by simp [hq]))
    unfold flatC at e3
    rw [e1, e2, e3, List.length_cons]
    omega

theorem split_facts (c : UInt8) : ∀ (k : Nat) (s : ByteArray), ∃ ps last, Lib.splitB (sepB c) 0 k s = ps ++ [last] ∧ s.data.toList = flatC c ps ++ last.data.toList ∧ (∀ p ∈ ps, c ∉ p.data.toList) ∧ ps.length ≤ k ∧ (ps.length = k ∨ c ∉ last.data.toList)
  | 0, s => ⟨[], s, rfl, by simp [flatC], by simp, by simp, Or.inl rfl⟩
  | k + 1, s => by
    rcases Lib.indexB_cases s (sepB c) with h | ⟨i, h, hi⟩
    · refine ⟨[], s, by rw [Lib.splitB_miss _ _ _ _ h]; rfl, by simp [flatC], by simp, by simp, Or.inr ?_⟩
      rw [index_c] at h
      intro hm
      obtain ⟨j, hj, e⟩ := List.mem_iff_getElem.1 hm
      exact Lib.indexByte_none h j (by rw [List.getElem?_eq_getElem hj, e])
    · obtain ⟨ps, last, e1, e2, e3, e4, e5⟩ := split_facts c k (s.extract (i + (sepB c).size) s.size)
      rw [index_c] at h
      obtain ⟨h1, h2⟩ := Lib.indexByte_some h
      have hz : (sepB c).size = 1 := rfl
      rw [hz] at hi
      have hs : s.data.toList.length = s.size := by rw [Array.length_toList]; rfl
      obtain ⟨hil, hic⟩ := List.getElem?_eq_some_iff.1 h1
      refine ⟨s.extract 0 (i + 0) :: ps, last, by rw [Lib.splitB_hit _ _ _ _ i (by rw [index_c]; exact h), e1]; rfl, ?_, ?_, by simp; omega, ?_⟩
      · have f1 : flatC c (s.extract 0 (i + 0) :: ps) = (s.extract 0 i).data.toList ++ [c] ++ flatC c ps := by simp [flatC]
        rw [f1, List.append_assoc, List.append_assoc, ← e2, ext_list, ext_list, hz, List.drop_zero, List.take_of_length_le (by omega : s.data.toList.length ≤ s.size)]
        conv => lhs; rw [← List.take_append_drop i s.data.toList]
        congr 1
        rw [List.drop_eq_getElem_cons hil, hic]
        rfl
      · intro p hp
        rcases List.mem_cons.1 hp with rfl | hp
        · rw [ext_list, List.drop_zero]
          intro hm
          obtain ⟨j, hj, e⟩ := List.mem_iff_getElem.1 hm
          rw [List.getElem_take] at e
          simp at hj
          exact h2 j (by omega) (by rw [List.getElem?_eq_getElem (by omega), e])
        · exact e3 p hp
      · rcases e5 with e5 | e5
        · exact Or.inl (by simp [e5])
        · exact Or.inr e5

/-- what SplitN of one more than the numbers' count answers -/
theorem split_nums {c : UInt8} {s : ByteArray} {N : Nat} {ns : List Int} (hc : NoNum c) (h : NumsOf s c ns) (hN : ns.length ≤ N) (hl : ns.length ≤ s.size + 1) : Lib.splitB (sepB c) 0 (min (N + 1) (s.size + 1) - 1) s = ns.map numT := by
  obtain ⟨ps, last, e1, e2, e3, e4, e5⟩ := split_facts c (min (N + 1) (s.size + 1) - 1) s
  obtain ⟨qs, b, f, k⟩ := h.cut hc
  rw [e1]
  have hlen : ns.length = qs.length + 1 := by
    have := congrArg List.length f
    simpa using this
  rcases e5 with e5 | e5
  · have c1 := count_flat c qs k.2.1
    have c2 := count_flat c ps e3
    have c3 : s.data.toList.count c = qs.length := by rw [k.1, List.count_append, c1, List.count_eq_zero.2 k.2.2]; rfl
    have c4 : ps.length ≤ s.data.toList.count c := by rw [e2, List.count_append, c2]; omega
    have : ps.length = qs.length := by omega
    have hlast : c ∉ last.data.toList := by
      intro hm
      have : 0 < last.data.toList.count c := List.count_pos_iff.2 hm
      rw [e2, List.count_append, c2] at c3
      omega
    obtain ⟨g1, g2⟩ := CutOf.one (t := s) ⟨e2, e3, hlast⟩ k
    rw [g1, g2, f]
  · obtain ⟨g1, g2⟩ := CutOf.one (t := s) ⟨e2, e3, e5⟩ k
    rw [g1, g2, f]

theorem split_pieces (c : UInt8) (k : Nat) (s : ByteArray) : Pieces s c (Lib.splitB (sepB c) 0 k s) := by
  obtain ⟨ps, last, e1, e2, _⟩ := split_facts c k s
  exact ⟨ps, last, e1, e2⟩

theorem flat_len (c : UInt8) : ∀ (ps : List ByteArray), ps.length ≤ (flatC c ps).length
  | [] => by simp
  | p :: ps => by
    have := flat_len c ps
    simp [flatC] at this ⊢
    omega

theorem nums_len {t : ByteArray} {c : UInt8} {ns : List Int} (h : NumsOf t c ns) : ns.length ≤ t.size + 1 := by
  obtain ⟨ps, last, e, h⟩ := h
  have e1 := congrArg List.length e
  have e2 := congrArg List.length h
  have e3 := flat_len c ps
  rw [Array.length_toList] at e2
  have e4 : t.data.size = t.size := rfl
  simp at e1 e2
  omega

end Go.Proofs.YtpackpocnonpiaaGreatDoor
