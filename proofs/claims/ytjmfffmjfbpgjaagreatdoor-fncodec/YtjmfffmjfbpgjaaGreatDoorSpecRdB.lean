/-
  Contracts of the model's l03ToBuckets and ReadBuckets: just the text of right buckets is read. Conditions: a text's length.
-/
import Derived.Test.YtjmfffmjfbpgjaaGreatDoorSpecRd
import Derived.Test.YtjmfffmjfbpgjaaGreatDoorBktTxt
import Derived.Test.YtjmfffmjfbpgjaaGreatDoorSpecRdS
namespace Go.Proofs.YtjmfffmjfbpgjaaGreatDoor
open Go.ChangeShapes Go.WideShapes Go.ChangeAt Go.RowKit
set_option linter.unusedVariables false
set_option linter.unusedSimpArgs false

/-- a text is that of these buckets -/
def BktOf (t : ByteArray) (xs : List GBkt) : Prop := (xs = [] ∧ t.size = 0) ∨ (xs ≠ [] ∧ Pieces t 32 (xs.map bktT))

def BktRead (t : ByteArray) (xs : List GBkt) : Prop := BktP xs ∧ BktOf t xs

def NoBkt (t : ByteArray) : Prop := ∀ xs, ¬ BktRead t xs

theorem aggT_nums (a : GAgg) : NumsOf (aggT a) 44 a.nums := by
  refine ⟨[numT a.cnt, numT a.sum, numT a.mn, numT a.mx, numT a.fst], numT a.lst, rfl, ?_⟩
  simp [aggT, joinT, comma, GAgg.nums, Lib.join, flatC]

theorem nums_text {q q' : ByteArray} {c : UInt8} {ns : List Int} (h : NumsOf q c ns) (k : NumsOf q' c ns) : q = q' := by
  obtain ⟨ps, last, e, h⟩ := h
  obtain ⟨ps', last', e', k⟩ := k
  rw [e] at e'
  obtain ⟨rfl, e2⟩ := List.append_inj' e' rfl
  simp at e2
  subst e2
  exact ba_eq (h.trans k.symm)

theorem agg_bytes (a : GAgg) (c : UInt8) (hc : NoNum c) (h44 : c ≠ 44) : c ∉ (aggT a).data.toList := by
  obtain ⟨ps, last, e, h⟩ := aggT_nums a
  rw [h]
  intro hm
  have hn : ∀ p ∈ ps ++ [last], c ∉ p.data.toList := by
    rw [← e]
    intro p hp
    obtain ⟨n, _, rfl⟩ := List.mem_map.1 hp
    exact num_nocomma n c hc
  rcases List.mem_append.1 hm with hm | hm
  · unfold flatC at hm
    obtain ⟨p, hp, hm⟩ := List.mem_flatMap.1 hm
    rcases List.mem_append.1 hm with hm | hm
    · exact hn p (by simp [hp]) hm
    · simp at hm; exact h44 hm
  · exact hn last (by simp) hm

theorem colon_no : NoNum 58 := Or.inr (Or.inl (by decide))

theorem bkt_cut (s : GBkt) : CutOf (bktT s) 58 [numT s.beg] (aggT s.agg) :=
  ⟨by simp [bktT, flatC, ByteArray.data_append], fun p hp => by simp at hp; subst hp; exact num_nocomma _ 58 colon_no, agg_bytes _ 58 colon_no (by decide)⟩

theorem bktT_of {x p q : ByteArray} {n : Int} {a : GAgg} (h : CutOf x 58 [p] q) (hp : p = numT n) (hq : NumsOf q 44 a.nums) : x = bktT ⟨n, a⟩ := by
  have e := nums_text hq (aggT_nums a)
  subst hp e
  apply ba_eq
  rw [h.1, (bkt_cut ⟨n, a⟩).1]

theorem bktT_blank (s : GBkt) : (32 : UInt8) ∉ (bktT s).data.toList := by
  intro h
  simp only [bktT, ByteArray.data_append, Array.toList_append, List.mem_append] at h
  rcases h with (h | h) | h
  · exact num_nocomma s.beg 32 (Or.inl (by decide)) h
  · simp at h
  · exact agg_bytes s.agg 32 (Or.inl (by decide)) (by decide) h

theorem bkts_cut {t : ByteArray} {xs : List GBkt} {ps : List ByteArray} {last : ByteArray} (h : Pieces t 32 (xs.map bktT)) (k : CutOf t 32 ps last) : ps ++ [last] = xs.map bktT := by
  obtain ⟨qs, b, e, h⟩ := h
  have hn : ∀ p ∈ qs ++ [b], (32 : UInt8) ∉ p.data.toList := by
    rw [← e]
    intro p hp
    obtain ⟨s, _, rfl⟩ := List.mem_map.1 hp
    exact bktT_blank s
  obtain ⟨e1, e2⟩ := CutOf.one (t := t) k ⟨h, fun p hp => hn p (by simp [hp]), hn b (by simp)⟩
  rw [e1, e2, e]

/-- each bucket's numbers are within a number's text -/
theorem bktP_small {xs : List GBkt} (h : BktP xs) : ∀ s ∈ xs, Small s.beg ∧ AggP s.agg := by
  intro s hs
  obtain ⟨i, hi, rfl⟩ := List.mem_iff_getElem.1 hs
  have h1 := (h.2 i hi hi).1
  have h2 := (h.2 i hi hi).2.1
  refine ⟨?_, h2⟩
  simp [inB] at h1
  unfold Small
  omega

theorem bkt_one (s : GBkt) : ∀ u ∈ GBkt.vals s, u.oneCell' = true := by
  intro u hu
  simp [GBkt.vals] at hu
  rcases hu with rfl | rfl | rfl | rfl | rfl | rfl | rfl <;> rfl

theorem new_bkt (w : World) (s : GBkt) (e : TypeId) : Sl GBkt.vals 7 (w.alloc (.cells #[.int .i64 s.beg, .int .i64 s.agg.cnt, .int .i64 s.agg.sum, .int .i64 s.agg.mn, .int .i64 s.agg.mx, .int .i64 s.agg.fst, .int .i64 s.agg.lst] e)) (w.heap.size + 1) (some ⟨w.heap.size, 0, none⟩) [s] := by
  intro _
  refine ⟨w.heap.size, 0, rfl, by omega, fun k hk j v hv => ?_⟩
  obtain rfl : k = 0 := by simpa using hk
  rw [World.cell?_alloc_new]
  match j, hv with
  | 0, hv => simpa [GBkt.vals] using hv
  | 1, hv => simpa [GBkt.vals] using hv
  | 2, hv => simpa [GBkt.vals] using hv
  | 3, hv => simpa [GBkt.vals] using hv
  | 4, hv => simpa [GBkt.vals] using hv
  | 5, hv => simpa [GBkt.vals] using hv
  | 6, hv => simpa [GBkt.vals] using hv
  | j + 7, hv => simp [GBkt.vals] at hv

/-- a bucket's numbers are ints -/
def FitB (s : GBkt) : Prop := FitI s.beg ∧ ∀ n ∈ s.agg.nums, FitI n

theorem bkt_inj : ∀ {xs ys : List GBkt}, (∀ s ∈ xs, FitB s) → (∀ s ∈ ys, FitB s) → xs.map bktT = ys.map bktT → xs = ys
  | [], [], _, _, _ => rfl
  | [], y :: ys, _, _, e => by simp at e
  | x :: xs, [], _, _, e => by simp at e
  | x :: xs, y :: ys, hx, hy, e => by
    simp at e
    have h1 := bkt_cut x
    rw [e.1] at h1
    obtain ⟨g1, g2⟩ := CutOf.one (t := bktT y) h1 (bkt_cut y)
    simp at g1
    have fx := hx x (by simp)
    have fy := hy y (by simp)
    have e1 := num_inj fx.1.1 fx.1.2 fy.1.1 fy.1.2 g1
    have e2 := nums_one comma_no (aggT_nums x.agg) (by rw [g2]; exact aggT_nums y.agg) fx.2 fy.2
    have e3 := bkt_inj (xs := xs) (ys := ys) (fun s hs => hx s (by simp [hs])) (fun s hs => hy s (by simp [hs])) (by simpa using e.2)
    obtain ⟨x1, ⟨x2, x3, x4, x5, x6, x7⟩⟩ := x
    obtain ⟨y1, ⟨y2, y3, y4, y5, y6, y7⟩⟩ := y
    simp [GAgg.nums] at e1 e2
    obtain ⟨rfl, rfl, rfl, rfl, rfl, rfl⟩ := e2
    rw [e1, e3]

theorem no_pieceB {t : ByteArray} {xs : List GBkt} (h0 : t.size = 0) (hn : xs ≠ []) : ¬ Pieces t 32 (xs.map bktT) := by
  rintro ⟨ps, last, e, h⟩
  have hl : t.data.toList = [] := List.length_eq_zero_iff.1 (by rw [Array.length_toList]; exact h0)
  rw [hl] at h
  have h2 := congrArg List.length h
  rw [List.length_append] at h2
  have h3 : last ∈ xs.map bktT := by rw [e]; simp
  obtain ⟨s, _, rfl⟩ := List.mem_map.1 h3
  have h4 : (bktT s).data.toList.length = (numT s.beg).data.toList.length + 1 + (aggT s.agg).data.toList.length := by simp [bktT, ByteArray.data_append]; omega
  simp at h2
  simp at h4
  omega

/-- what ReadBuckets answers -/
def BktCode (t : ByteArray) (xs : List GBkt) (cd : Int) : Prop := (65536 < t.size ∧ xs = [] ∧ cd = 2) ∨ (t.size ≤ 65536 ∧ BktRead t xs ∧ cd = 0) ∨ (t.size ≤ 65536 ∧ NoBkt t ∧ xs = [] ∧ cd = 3)

theorem bktRead_one {t : ByteArray} {xs ys : List GBkt} (h : BktRead t xs) (k : BktRead t ys) : xs = ys := by
  have fx : ∀ s ∈ xs, FitB s := fun s hs => ⟨small_fitI (bktP_small h.1 s hs).1, fun n hn => small_fitI (aggP_small (bktP_small h.1 s hs).2 n hn)⟩
  have fy : ∀ s ∈ ys, FitB s := fun s hs => ⟨small_fitI (bktP_small k.1 s hs).1, fun n hn => small_fitI (aggP_small (bktP_small k.1 s hs).2 n hn)⟩
  rcases h.2 with ⟨rfl, h0⟩ | ⟨hn, hp⟩ <;> rcases k.2 with ⟨rfl, k0⟩ | ⟨kn, kp⟩
  · rfl
  · exact absurd kp (no_pieceB h0 kn)
  · exact absurd hp (no_pieceB k0 hn)
  · obtain ⟨ps, last, e, hq⟩ := kp
    have hc : ∀ p ∈ ps ++ [last], (32 : UInt8) ∉ p.data.toList := by
      rw [← e]
      intro p hp
      obtain ⟨s, _, rfl⟩ := List.mem_map.1 hp
      exact bktT_blank s
    have := bkts_cut hp ⟨hq, fun p hp => hc p (by simp [hp]), hc last (by simp)⟩
    exact bkt_inj fx fy (by rw [← this, e])

theorem bktCode_one {t : ByteArray} {a b : List GBkt} {c d : Int} (h : BktCode t a c) (k : BktCode t b d) : a = b ∧ c = d := by
  rcases h with ⟨h, rfl, rfl⟩ | ⟨h, h1, rfl⟩ | ⟨h, h1, rfl, rfl⟩ <;> rcases k with ⟨k, rfl, rfl⟩ | ⟨k, k1, rfl⟩ | ⟨k, k1, rfl, rfl⟩
  · exact ⟨rfl, rfl⟩
  · omega
  · omega
  · omega
  · exact ⟨bktRead_one h1 k1, rfl⟩
  · exact absurd h1 (k1 _)
  · omega
  · exact absurd k1 (h1 _)
  · exact ⟨rfl, rfl⟩

end Go.Proofs.YtjmfffmjfbpgjaaGreatDoor
