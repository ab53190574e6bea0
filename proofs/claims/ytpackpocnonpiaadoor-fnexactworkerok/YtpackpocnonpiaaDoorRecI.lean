/-
  What a right entry and a right record are; contracts of what asks whether one is right, in both packages. Conditions: the program's table of paths is as its text lays it; a text's length.
-/
import Derived.Test.YtpackpocnonpiaaDoorRecs
import Derived.Test.YtpackpocnonpiaaDoorTierA
import Derived.Test.YtpackpocnonpiaaDoorRng
import Derived.Test.YtpackpocnonpiaaDoorRdKey
import Derived.Laws.EntriesVeiled
namespace Go.Proofs.YtpackpocnonpiaaDoor
open Go.ChangeShapes Go.WideShapes Go.ChangeAt Go.RowKit Go.Deep Go.Joins
set_option linter.unusedVariables false
set_option linter.unusedSimpArgs false

def AnyKey (key : ByteArray) : Prop := ∃ t n m, IsKey key t n m

/-- an entry is right: its range is not empty, its key a data key of its tier -/
def EntP (e : GEnt) : Prop := (∃ n m, IsKey e.key e.tier n m) ∧ e.beg < e.fin ∧ rngB e.beg e.fin = true

/-- a record is right -/
def RecP (r : GRec) : Prop :=
  (r.kind = 1 ∧ r.tok = 0 ∧ r.tier = 0 ∧ EntP r.ent) ∨ (r.kind = 2 ∧ inB r.tok 1 999999 = true ∧ r.tier = 0 ∧ r.beg = 0 ∧ r.fin = 0 ∧ r.key = ⟨#[]⟩) ∨
  (r.kind = 3 ∧ inB r.tok 1 999999 = true ∧ r.tier ≠ 0 ∧ EntP r.ent) ∨ (r.kind = 4 ∧ inB r.tok 1 999999 = true ∧ EntP r.ent) ∨ (r.kind = 5 ∧ r.tok = 0 ∧ r.tier = 0 ∧ r.beg = 0 ∧ r.fin = 0 ∧ AnyKey r.key)

theorem isKey_size {key : ByteArray} {t n m : Int} (h : IsKey key t n m) : key.size ≤ 17 := by
  rw [h.2]
  unfold keyT
  rw [ByteArray.size_append, ByteArray.size_append, ByteArray.size_append, sixT_size, sixT_size]
  have : (pathT t.toNat).size ≤ 4 := by unfold pathT; split <;> decide
  have : (⟨#[45]⟩ : ByteArray).size = 1 := rfl
  omega

theorem isDataKey_any (key : ByteArray) (w : World) (hk : key.size ≤ 2 ^ 63 - 1) (hp : Paths w) (hz : 1 < w.heap.size) : Calls Tryd.prog 77 #[.string key] w (IsBB (AnyKey key) w) := by
  have Hp := Lib.hid hp; clear hp
  go_enter Tryd.func77, Tryd.ntmps77
  go_wp2_with fail
  refine (readKey_any key w hk Hp.out hz).mono ?_
  rintro e w1 ⟨t, n, m, cd, rfl, hK, hb⟩
  rcases hK with ⟨hl, rfl, rfl, rfl, rfl⟩ | ⟨hl, hK, rfl⟩ | ⟨hl, hN, rfl, rfl, rfl, rfl⟩
  · have HN : Hid (¬ AnyKey key) := Lib.hid (fun ⟨t, n, m, h⟩ => by have := isKey_size h; omega)
    clear hl
    go_wp2
    go_ret
    exact IsBB.no HN.out hb
  · have HY : Hid (AnyKey key) := Lib.hid ⟨t, n, m, hK⟩
    clear hl hK
    go_wp2
    go_ret
    exact IsBB.yes HY.out hb
  · have HN : Hid (¬ AnyKey key) := Lib.hid (fun ⟨t, n, m, h⟩ => hN t n m h)
    clear hl hN
    go_wp2
    go_ret
    exact IsBB.no HN.out hb

theorem EntP.key {e : GEnt} (h : EntP e) : AnyKey e.key := by
  obtain ⟨⟨n, m, h⟩, _⟩ := h
  exact ⟨_, n, m, h⟩

theorem EntP.tier {e : GEnt} (h : EntP e) : 0 ≤ e.tier ∧ e.tier ≤ 2 := by
  obtain ⟨⟨n, m, h⟩, _⟩ := h
  exact ⟨h.1.1, h.1.2.1⟩

theorem entP_iff {e : GEnt} {t n m : Int} (h : IsKey e.key t n m) : EntP e ↔ (t == e.tier) = true ∧ decide (e.beg < e.fin) = true ∧ rngB e.beg e.fin = true := by
  simp only [EntP, beq_iff_eq, decide_eq_true_eq]
  constructor
  · rintro ⟨⟨n', m', h'⟩, h2, h3⟩
    exact ⟨(isKey_one h h').1, h2, h3⟩
  · rintro ⟨rfl, h2, h3⟩
    exact ⟨⟨n, m, h⟩, h2, h3⟩

theorem entRight_any (e : GEnt) (w : World) (hk : e.key.size ≤ 2 ^ 63 - 1) (hp : Paths w) (hz : 1 < w.heap.size) : Calls Tryd.prog 43 #[.agg #[.int .i64 e.tier, .int .i64 e.beg, .int .i64 e.fin, .string e.key]] w (IsBB (EntP e) w) := by
  have Hp := Lib.hid hp; clear hp
  go_enter Tryd.func43, Tryd.ntmps43
  go_wp2_with fail
  refine (readKey_any e.key _ hk (Hp.out.below (bal (Below.refl _ _) _) hz) (by simp <;> omega)).mono ?_
  rintro e' w1 ⟨t, n, m, cd, rfl, hK, hb⟩
  have c0 : w1.cell? ⟨w.heap.size, 0, none⟩ = some (.int .i64 e.tier) := by rw [hb.cell (by simp)]; simp [go_sem]
  have c1 : w1.cell? ⟨w.heap.size, 1, none⟩ = some (.int .i64 e.beg) := by rw [hb.cell (by simp)]; simp [go_sem]
  have c2 : w1.cell? ⟨w.heap.size, 2, none⟩ = some (.int .i64 e.fin) := by rw [hb.cell (by simp)]; simp [go_sem]
  have hbw : Below w.heap.size w w1 := (bal (Below.refl _ _) _).trans (hb.mono (by simp))
  clear hb
  rcases hK with ⟨hl, rfl, rfl, rfl, rfl⟩ | ⟨hl, hK, rfl⟩ | ⟨hl, hN, rfl, rfl, rfl, rfl⟩
  · have HN : Hid (¬ EntP e) := Lib.hid (fun h => by obtain ⟨t, n, m, h⟩ := h.key; have := isKey_size h; omega)
    clear hl
    go_wp2
    go_ret
    exact IsBB.no HN.out hbw
  · have HI := Lib.hid (entP_iff hK)
    clear hl hK
    go_wp2_with (go_at_call 50; refine (isRange_any _ _ _).mono ?_; rintro e w' ⟨rfl, rfl⟩)
    all_goals go_ret
    all_goals refine ⟨_, Iff.trans ?_ HI.out.symm, rfl, hbw⟩
    all_goals first | (simp_all; done) | (simp_all <;> intros <;> omega)
  · have HN : Hid (¬ EntP e) := Lib.hid (fun h => by obtain ⟨t, n, m, h⟩ := h.key; exact hN t n m h)
    clear hl hN
    go_wp2
    go_ret
    exact IsBB.no HN.out hbw

theorem entry_any (r : GRec) (w : World) : Calls Tryd.prog 72 #[.agg #[.int .i64 r.kind, .int .i64 r.tok, .int .i64 r.tier, .int .i64 r.beg, .int .i64 r.fin, .string r.key]] w fun e w' => e = .returned (.agg #[.int .i64 r.tier, .int .i64 r.beg, .int .i64 r.fin, .string r.key]) ∧ Below w.heap.size w w' := by
  go_enter Tryd.func72, Tryd.ntmps72
  go_wp2
  refine bodyPost_ret (v := .agg #[.int .i64 r.tier, .int .i64 r.beg, .int .i64 r.fin, .string r.key]) (by simp [results, Tryd.results72, go_sem]) rfl ⟨rfl, ?_⟩
  repeat' first | exact Below.refl _ _ | refine bal ?_ _ | refine bset ?_ (by simp) _

theorem isToken_any (n : Int) (w : World) : Calls Tryd.prog 39 #[.int .i64 n] w fun e w' => e = .returned (.bool (inB n 1 999999)) ∧ w = w' := by
  go_enter Tryd.func39, Tryd.ntmps39
  go_wp2_with (go_at_call 29; refine (within_any _ _ _ _).mono ?_; rintro e w' ⟨rfl, rfl⟩)
  go_ret
  exact ⟨rfl, rfl⟩

theorem nil_list {k : ByteArray} : (k.toList == (⟨#[]⟩ : ByteArray).toList) = true ↔ k = ⟨#[]⟩ := by
  constructor
  · intro h
    rw [beq_iff_eq, ByteArray.toList_eq, ByteArray.toList_eq] at h
    exact bytes_inj h
  · rintro rfl
    simp

theorem l06Tiered_any (r : GRec) (least : Int) (w : World) (hk : r.key.size ≤ 1048576) : Calls Tryd.prog 11 #[.agg #[.int .i64 r.kind, .int .i64 r.tok, .int .i64 r.tier, .int .i64 r.beg, .int .i64 r.fin, .string r.key], .int .i64 least] w (IsBB (EntP r.ent ∧ least ≤ r.tier) w) := by
  go_enter Tryd.func11, Tryd.ntmps11
  go_wp2_with fail
  refine (toKey_any r.key _ hk).mono ?_
  rintro e w1 ⟨t, n, m, b, rfl, hK, hB⟩
  obtain ⟨c0, c1, c2, c3, c4, c5⟩ : w1.cell? ⟨w.heap.size, 0, none⟩ = some (.int .i64 r.kind) ∧ w1.cell? ⟨w.heap.size, 1, none⟩ = some (.int .i64 r.tok) ∧ w1.cell? ⟨w.heap.size, 2, none⟩ = some (.int .i64 r.tier) ∧ w1.cell? ⟨w.heap.size, 3, none⟩ = some (.int .i64 r.beg) ∧ w1.cell? ⟨w.heap.size, 4, none⟩ = some (.int .i64 r.fin) ∧ w1.cell? ⟨w.heap.size, 5, none⟩ = some (.string r.key) := (RecAt.below (RecAt.new w r 31) hB (by simp)).cells
  have hbw : Below w.heap.size w w1 := (bal (Below.refl _ _) _).trans (hB.mono (by simp))
  clear hB c0 c1 c5
  rcases hK with ⟨rfl, hK⟩ | ⟨rfl, rfl, rfl, rfl, hN⟩
  · have HI : Hid ((EntP r.ent ∧ least ≤ r.tier) ↔ ((t == r.tier) = true ∧ inB r.tier least 2 = true ∧ rngB r.beg r.fin = true ∧ decide (r.beg < r.fin) = true)) := Lib.hid (by
      rw [entP_iff (e := r.ent) hK]
      simp only [GRec.ent, inB_iff, beq_iff_eq, decide_eq_true_eq]
      have := hK.1.2.1
      constructor
      · rintro ⟨⟨a, b, c⟩, d⟩
        exact ⟨a, ⟨d, by omega⟩, c, of_decide_eq_true b⟩
      · rintro ⟨a, ⟨d, _⟩, c, b⟩
        exact ⟨⟨a, decide_eq_true b, c⟩, d⟩)
    clear hK
    go_wp2_with (first | (go_at_call 25; refine (l04Range_any _ _ _).mono ?_; rintro e w' ⟨rfl, rfl⟩) | (go_at_call 12; refine (inL_any _ _ _ _).mono ?_; rintro e w' ⟨rfl, rfl⟩))
    all_goals go_ret
    all_goals refine ⟨_, Iff.trans ?_ HI.out.symm, rfl, hbw⟩
    all_goals simp_all
  · have HN : Hid (¬ EntP r.ent) := Lib.hid (fun h => by obtain ⟨t, n, m, h⟩ := h.key; exact hN t n m h)
    clear hN
    go_wp2
    go_ret
    exact IsBB.no (fun h => HN.out h.1) hbw

end Go.Proofs.YtpackpocnonpiaaDoor
