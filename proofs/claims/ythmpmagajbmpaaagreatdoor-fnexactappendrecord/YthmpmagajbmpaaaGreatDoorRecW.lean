/-
  The text of a record; a text is that of at most one right record. No Go text is walked here.
-/
import Derived.Test.YthmpmagajbmpaaaGreatDoorRecI
import Derived.Test.YthmpmagajbmpaaaGreatDoorSpecRd
namespace Go.Proofs.YthmpmagajbmpaaaGreatDoor
open Go.ChangeShapes Go.WideShapes Go.ChangeAt Go.RowKit Go.Deep Go.Joins
set_option linter.unusedVariables false
set_option linter.unusedSimpArgs false

/-- a record's five numbers -/
def GRec.nums (r : GRec) : List Int := [r.kind, r.tok, r.tier, r.beg, r.fin]

def spB : ByteArray := ⟨#[32]⟩

/-- the text of a record -/
def recT (r : GRec) : ByteArray := joinT (r.nums.map numT) comma ++ spB ++ r.key

/-- what RecordText answers -/
def RecTextOf (r : GRec) (s : ByteArray) (cd : Int) : Prop := (RecP r ∧ s = recT r ∧ cd = 0) ∨ (¬ RecP r ∧ s = ⟨#[]⟩ ∧ cd = 1)

theorem recTextOf_one {r : GRec} {s s' : ByteArray} {c c' : Int} (h : RecTextOf r s c) (k : RecTextOf r s' c') : s = s' ∧ c = c' := by
  rcases h with ⟨h, rfl, rfl⟩ | ⟨h, rfl, rfl⟩ <;> rcases k with ⟨k, rfl, rfl⟩ | ⟨k, rfl, rfl⟩
  · exact ⟨rfl, rfl⟩
  · exact absurd h k
  · exact absurd k h
  · exact ⟨rfl, rfl⟩

/-- a text is that of a right record -/
def RecRead (t : ByteArray) (r : GRec) : Prop := RecP r ∧ t = recT r

def NoRec (t : ByteArray) : Prop := ∀ r, ¬ RecRead t r

theorem fit_nums5 {r : GRec} (h : I64 r.kind ∧ I64 r.tok ∧ I64 r.tier ∧ I64 r.beg ∧ I64 r.fin) : ∀ n ∈ r.nums, I64 n := by
  obtain ⟨h0, h1, h2, h3, h4⟩ := h
  intro n hn
  simp [GRec.nums] at hn
  rcases hn with rfl | rfl | rfl | rfl | rfl <;> assumption

theorem EntP.small {e : GEnt} (h : EntP e) : Small e.tier ∧ Small e.beg ∧ Small e.fin := by
  have h1 := h.tier
  have h2 := rngB_iff.1 h.2.2
  unfold Small
  omega

theorem recP_small {r : GRec} (h : RecP r) : ∀ n ∈ r.nums, Small n := by
  have key : Small r.kind ∧ Small r.tok ∧ Small r.tier ∧ Small r.beg ∧ Small r.fin := by
    rcases h with ⟨h1, h2, h3, h4⟩ | ⟨h1, h2, h3, h4, h5, _⟩ | ⟨h1, h2, h3, h4⟩ | ⟨h1, h2, h4⟩ | ⟨h1, h2, h3, h4, h5, _⟩
    · obtain ⟨a, b, c⟩ := h4.small
      exact ⟨by unfold Small; omega, by unfold Small; omega, a, b, c⟩
    · rw [inB_iff] at h2
      exact ⟨by unfold Small; omega, by unfold Small; omega, by unfold Small; omega, by unfold Small; omega, by unfold Small; omega⟩
    · obtain ⟨a, b, c⟩ := h4.small
      rw [inB_iff] at h2
      exact ⟨by unfold Small; omega, by unfold Small; omega, a, b, c⟩
    · obtain ⟨a, b, c⟩ := h4.small
      rw [inB_iff] at h2
      exact ⟨by unfold Small; omega, by unfold Small; omega, a, b, c⟩
    · exact ⟨by unfold Small; omega, by unfold Small; omega, by unfold Small; omega, by unfold Small; omega, by unfold Small; omega⟩
  obtain ⟨a, b, c, d, e⟩ := key
  intro n hn
  simp [GRec.nums] at hn
  rcases hn with rfl | rfl | rfl | rfl | rfl <;> assumption

theorem nums5_at (w : World) (r : GRec) (t : TypeId) (j : Nat) (h : j < r.nums.length) : (w.alloc (.cells #[.int .i64 r.kind, .int .i64 r.tok, .int .i64 r.tier, .int .i64 r.beg, .int .i64 r.fin] t)).cell? ⟨w.heap.size, 0 + j, none⟩ = some (.int .i64 r.nums[j]) := by
  match j, h with
  | 0, _ => simp [GRec.nums]
  | 1, _ => simp [GRec.nums]
  | 2, _ => simp [GRec.nums]
  | 3, _ => simp [GRec.nums]
  | 4, _ => simp [GRec.nums]
  | j + 5, h => simp [GRec.nums] at h; omega

/-- the part of a record's text ahead of the blank -/
theorem nums5_of (r : GRec) : NumsOf (joinT (r.nums.map numT) comma) 44 r.nums := by
  refine ⟨[numT r.kind, numT r.tok, numT r.tier, numT r.beg], numT r.fin, rfl, ?_⟩
  simp [joinT, comma, GRec.nums, Lib.join, flatC]

theorem joined_eq {t : ByteArray} {r : GRec} (h : NumsOf t 44 r.nums) : t = joinT (r.nums.map numT) comma := by
  obtain ⟨ps, last, e, h⟩ := h
  obtain ⟨ps', last', e', h'⟩ := nums5_of r
  have e2 := e.symm.trans e'
  obtain ⟨rfl, e3⟩ := List.append_inj' e2 rfl
  simp at e3
  subst e3
  exact ba_eq (h.trans h'.symm)

theorem head_noblank (r : GRec) : (32 : UInt8) ∉ (joinT (r.nums.map numT) comma).data.toList := by
  obtain ⟨ps, last, e, h⟩ := nums5_of r
  rw [h]
  intro hm
  rcases List.mem_append.1 hm with hm | hm
  · unfold flatC at hm
    obtain ⟨p, hp, hm⟩ := List.mem_flatMap.1 hm
    rcases List.mem_append.1 hm with hm | hm
    · obtain ⟨n, _, e2⟩ := List.mem_map.1 (show p ∈ r.nums.map numT by rw [e]; simp [hp])
      subst e2
      exact num_nocomma n 32 (Or.inl (by decide)) hm
    · simp at hm
  · obtain ⟨n, _, e2⟩ := List.mem_map.1 (show last ∈ r.nums.map numT by rw [e]; simp)
    subst e2
    exact num_nocomma n 32 (Or.inl (by decide)) hm

theorem recT_list (r : GRec) : (recT r).data.toList = (joinT (r.nums.map numT) comma).data.toList ++ 32 :: r.key.data.toList := by
  simp [recT, spB, ByteArray.data_append]

/-- where a text's first blank is: its parts -/
theorem recRead_parts {t a b : ByteArray} {r : GRec} (h : t = recT r) (ht : t.data.toList = a.data.toList ++ 32 :: b.data.toList) (ha : (32 : UInt8) ∉ a.data.toList) : NumsOf a 44 r.nums ∧ r.key = b := by
  rw [h, recT_list] at ht
  obtain ⟨h1, h2⟩ := app_inj (head_noblank r) ha ht
  have e1 : joinT (r.nums.map numT) comma = a := ba_eq h1
  exact ⟨e1 ▸ nums5_of r, ba_eq h2⟩

theorem recRead_of {t a b : ByteArray} {r : GRec} (ht : t.data.toList = a.data.toList ++ 32 :: b.data.toList) (h : NumsOf a 44 r.nums) (hk : r.key = b) : t = recT r := by
  refine ba_eq ?_
  rw [ht, recT_list, joined_eq h, hk]

theorem recRead_one {t : ByteArray} {r s : GRec} (h : RecRead t r) (k : RecRead t s) : r = s := by
  obtain ⟨h1, rfl⟩ := h
  obtain ⟨n1, e1⟩ := recRead_parts k.2 (recT_list r) (head_noblank r)
  have := nums_one comma_no (nums5_of r) n1 (fun n hn => small_fitI (recP_small h1 n hn)) (fun n hn => small_fitI (recP_small k.1 n hn))
  obtain ⟨a0, a1, a2, a3, a4, a5⟩ := r
  obtain ⟨b0, b1, b2, b3, b4, b5⟩ := s
  simp [GRec.nums] at this e1
  simp [this, e1]

/-- what ReadRecord answers -/
def RecCode (t : ByteArray) (r : GRec) (cd : Int) : Prop := (65536 < t.size ∧ r = zRec ∧ cd = 2) ∨ (t.size ≤ 65536 ∧ RecRead t r ∧ cd = 0) ∨ (t.size ≤ 65536 ∧ NoRec t ∧ r = zRec ∧ cd = 3)

theorem recCode_one {t : ByteArray} {a b : GRec} {c d : Int} (h : RecCode t a c) (k : RecCode t b d) : a = b ∧ c = d := by
  rcases h with ⟨h, rfl, rfl⟩ | ⟨h, h1, rfl⟩ | ⟨h, h1, rfl, rfl⟩ <;> rcases k with ⟨k, rfl, rfl⟩ | ⟨k, k1, rfl⟩ | ⟨k, k1, rfl, rfl⟩
  · exact ⟨rfl, rfl⟩
  · omega
  · omega
  · omega
  · exact ⟨recRead_one h1 k1, rfl⟩
  · exact absurd h1 (k1 _)
  · omega
  · exact absurd k1 (h1 _)
  · exact ⟨rfl, rfl⟩

end Go.Proofs.YthmpmagajbmpaaaGreatDoor
