/-
  Contracts of the model's l03ToSamples and ReadSamples: just the text of a batch of right samples is read. Conditions: a text's length.
-/
import Derived.Test.YtjmfffmjfbpgjaaGreatDoorSpecRd
import Derived.Test.YtjmfffmjfbpgjaaGreatDoorSamTxt
import Derived.Test.YtjmfffmjfbpgjaaGreatDoorSrcSam
import Derived.Test.YtjmfffmjfbpgjaaGreatDoorAppS
namespace Go.Proofs.YtjmfffmjfbpgjaaGreatDoor
open Go.ChangeShapes Go.WideShapes Go.ChangeAt Go.RowKit
set_option linter.unusedVariables false
set_option linter.unusedSimpArgs false

/-- a text is that of these samples -/
def SamOf (t : ByteArray) (xs : List GSam) : Prop := (xs = [] ∧ t.size = 0) ∨ (xs ≠ [] ∧ Pieces t 32 (xs.map samT))

def SamRead (t : ByteArray) (xs : List GSam) : Prop := SamP xs ∧ xs.length ≤ 8 ∧ SamOf t xs

def NoSam (t : ByteArray) : Prop := ∀ xs, ¬ SamRead t xs

theorem eq_no : NoNum 61 := Or.inr (Or.inl (by decide))

theorem samT_nums (s : GSam) : NumsOf (samT s) 61 [s.t, s.v] := ⟨[numT s.t], numT s.v, rfl, by simp [samT, flatC, ByteArray.data_append]⟩

theorem samT_of {x : ByteArray} {n0 n1 : Int} (h : NumsOf x 61 [n0, n1]) : x = samT ⟨n0, n1⟩ := by
  obtain ⟨ps, last, e, h⟩ := h
  match ps, e with
  | [p], e =>
    simp at e
    obtain ⟨rfl, rfl⟩ := e
    apply ByteArray.ext
    apply Array.toList_inj.1
    rw [h]
    simp [samT, flatC, ByteArray.data_append]
  | [], e => simp at e
  | p :: q :: r, e => simp at e

theorem samT_blank (s : GSam) : (32 : UInt8) ∉ (samT s).data.toList := by
  intro h
  simp only [samT, ByteArray.data_append, Array.toList_append, List.mem_append] at h
  rcases h with (h | h) | h
  · exact num_nocomma s.t 32 (Or.inl (by decide)) h
  · simp at h
  · exact num_nocomma s.v 32 (Or.inl (by decide)) h

theorem sams_cut {t : ByteArray} {xs : List GSam} {ps : List ByteArray} {last : ByteArray} (h : Pieces t 32 (xs.map samT)) (k : CutOf t 32 ps last) : ps ++ [last] = xs.map samT := by
  obtain ⟨qs, b, e, h⟩ := h
  have hn : ∀ p ∈ qs ++ [b], (32 : UInt8) ∉ p.data.toList := by
    rw [← e]
    intro p hp
    obtain ⟨s, _, rfl⟩ := List.mem_map.1 hp
    exact samT_blank s
  obtain ⟨e1, e2⟩ := CutOf.one (t := t) k ⟨h, fun p hp => hn p (by simp [hp]), hn b (by simp)⟩
  rw [e1, e2, e]

theorem samP_small {xs : List GSam} (h : SamP xs) : ∀ s ∈ xs, Small s.t ∧ Small s.v := by
  intro s hs
  obtain ⟨i, hi, rfl⟩ := List.mem_iff_getElem.1 hs
  have := (h.2 i hi hi).1
  simp [samB, inB] at this
  unfold Small
  omega

theorem grown_step {w1 w4 w5 : World} {x0 : Nat} {row : Option Nat} (h : w1.grownBy w4 (some x0)) (k : w4.grownBy w5 row) (hr : ∀ g, row = some g → g = x0 ∨ w1.heap.size ≤ g) : w1.grownBy w5 (some x0) :=
  ⟨k.os.trans h.os, k.tape.trans h.tape, k.output.trans h.output, Nat.le_trans h.size k.size, fun i hi hne => (k.block i (Nat.lt_of_lt_of_le hi h.size) (fun e => by
    rcases hr i e.symm with h | h
    · exact hne (by rw [h])
    · omega)).trans (h.block i hi hne)⟩

theorem sam_inj : ∀ {xs ys : List GSam}, (∀ s ∈ xs, s.fit) → (∀ s ∈ ys, s.fit) → xs.map samT = ys.map samT → xs = ys
  | [], [], _, _, _ => rfl
  | [], y :: ys, _, _, e => by simp at e
  | x :: xs, [], _, _, e => by simp at e
  | x :: xs, y :: ys, hx, hy, e => by
    simp at e
    have h1 := samT_nums x
    rw [e.1] at h1
    have h2 := nums_one eq_no h1 (samT_nums y) (fun n hn => by
      have := hx x (by simp)
      simp at hn
      rcases hn with rfl | rfl
      · exact this.1
      · exact this.2) (fun n hn => by
      have := hy y (by simp)
      simp at hn
      rcases hn with rfl | rfl
      · exact this.1
      · exact this.2)
    simp at h2
    obtain ⟨x1, x2⟩ := x
    obtain ⟨y1, y2⟩ := y
    simp at h2
    obtain ⟨rfl, rfl⟩ := h2
    have e3 := sam_inj (xs := xs) (ys := ys) (fun s hs => hx s (by simp [hs])) (fun s hs => hy s (by simp [hs])) (by simpa using e.2)
    rw [e3]

theorem no_piece {t : ByteArray} {xs : List GSam} (h0 : t.size = 0) (hn : xs ≠ []) : ¬ Pieces t 32 (xs.map samT) := by
  rintro ⟨ps, last, e, h⟩
  have hl : t.data.toList = [] := List.length_eq_zero_iff.1 (by rw [Array.length_toList]; exact h0)
  rw [hl] at h
  have h2 := congrArg List.length h
  rw [List.length_append] at h2
  have h3 : last ∈ xs.map samT := by rw [e]; simp
  obtain ⟨s, _, rfl⟩ := List.mem_map.1 h3
  have h4 : (samT s).data.toList.length = (numT s.t).data.toList.length + 1 + (numT s.v).data.toList.length := by simp [samT, ByteArray.data_append]; omega
  simp at h2
  simp at h4
  omega

theorem two_list {ns : List Int} (h : ns.length = 2) : ∃ a b, ns = [a, b] := by
  match ns, h with
  | [a, b], _ => exact ⟨a, b, rfl⟩

/-- what ReadSamples answers -/
def SamCode (t : ByteArray) (xs : List GSam) (cd : Int) : Prop := (65536 < t.size ∧ xs = [] ∧ cd = 2) ∨ (t.size ≤ 65536 ∧ SamRead t xs ∧ cd = 0) ∨ (t.size ≤ 65536 ∧ NoSam t ∧ xs = [] ∧ cd = 3)

theorem samRead_one {t : ByteArray} {xs ys : List GSam} (h : SamRead t xs) (k : SamRead t ys) : xs = ys := by
  have fx : ∀ s ∈ xs, s.fit := fun s hs => ⟨small_fitI (samP_small h.1 s hs).1, small_fitI (samP_small h.1 s hs).2⟩
  have fy : ∀ s ∈ ys, s.fit := fun s hs => ⟨small_fitI (samP_small k.1 s hs).1, small_fitI (samP_small k.1 s hs).2⟩
  rcases h.2.2 with ⟨rfl, h0⟩ | ⟨hn, hp⟩ <;> rcases k.2.2 with ⟨rfl, k0⟩ | ⟨kn, kp⟩
  · rfl
  · exact absurd kp (no_piece h0 kn)
  · exact absurd hp (no_piece k0 hn)
  · obtain ⟨ps, last, e, hq⟩ := kp
    have hc : ∀ p ∈ ps ++ [last], (32 : UInt8) ∉ p.data.toList := by
      rw [← e]
      intro p hp
      obtain ⟨s, _, rfl⟩ := List.mem_map.1 hp
      exact samT_blank s
    have := sams_cut hp ⟨hq, fun p hp => hc p (by simp [hp]), hc last (by simp)⟩
    exact sam_inj fx fy (by rw [← this, e])

theorem samCode_one {t : ByteArray} {a b : List GSam} {c d : Int} (h : SamCode t a c) (k : SamCode t b d) : a = b ∧ c = d := by
  rcases h with ⟨h, rfl, rfl⟩ | ⟨h, h1, rfl⟩ | ⟨h, h1, rfl, rfl⟩ <;> rcases k with ⟨k, rfl, rfl⟩ | ⟨k, k1, rfl⟩ | ⟨k, k1, rfl, rfl⟩
  · exact ⟨rfl, rfl⟩
  · omega
  · omega
  · omega
  · exact ⟨samRead_one h1 k1, rfl⟩
  · exact absurd h1 (k1 _)
  · omega
  · exact absurd k1 (h1 _)
  · exact ⟨rfl, rfl⟩

end Go.Proofs.YtjmfffmjfbpgjaaGreatDoor
