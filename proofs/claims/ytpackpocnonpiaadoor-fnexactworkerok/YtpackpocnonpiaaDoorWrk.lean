/-
  Words for workers, and contracts of the laws' own helpers on them (sz, to, eq, mark, held). No conditions.
-/
import Derived.Test.YtpackpocnonpiaaDoorRecs
import Derived.Test.YtpackpocnonpiaaDoorEntMark
import Derived.Test.YtpackpocnonpiaaDoorAggLaw
namespace Go.Proofs.YtpackpocnonpiaaDoor
open Go.ChangeShapes Go.WideShapes Go.ChangeAt Go.RowKit Go.Deep Go.Joins
set_option linter.unusedVariables false
set_option linter.unusedSimpArgs false

structure GWrk where
  id : Int
  ph : Int
  tk : Int
  job : GRec
  ins : List GEnt
  got : GAgg
deriving DecidableEq

def GWrk.fit (s : GWrk) : Prop := I64 s.id ∧ I64 s.ph ∧ I64 s.tk ∧ s.job.fit ∧ (∀ o ∈ s.ins, o.fit) ∧ s.ins.length ≤ maxLen ∧ s.got.fit

def GWrk.small (s : GWrk) : Prop := s.job.small ∧ s.ins.length ≤ 1048576 ∧ ∀ o ∈ s.ins, o.small

theorem cellsFarWrk {b o g : Nat} {us : List Value} (hp : b ≠ g) : ∀ (vs : List Value) (w : World) (i : Nat), Cells w b o us → Cells (puts w g i vs) b o us
  | [], _, _, h => h
  | v :: vs, w, i, h => cellsFarWrk hp vs _ (i + 1) (h.far hp v)

theorem slFarWrk {α : Type} {f : α → List Value} {m B g : Nat} {A : Option Addr} {xs : List α} (hp : ∀ b, blk A = some b → b ≠ g) : ∀ (vs : List Value) (w : World) (i : Nat), Sl f m w B A xs → Sl f m (puts w g i vs) B A xs
  | [], _, _, h => h
  | v :: vs, w, i, h => slFarWrk hp vs _ (i + 1) (h.far hp v)

theorem freeFarWrk {w : World} {A : Option Addr} (h : Free w A) (g i : Nat) (vs : List Value) : Free (puts w g i vs) A := fun b e j => (puts_frozen g _ vs w i).trans (h b e j)

theorem belowFarWrk {B : Nat} {a : World} (g : Nat) (hg : B ≤ g) : ∀ (vs : List Value) (w : World) (i : Nat), Below B a w → Below B a (puts w g i vs)
  | [], _, _, h => h
  | v :: vs, w, i, h => belowFarWrk g hg vs _ (i + 1) (h.setCell hg v)

theorem csetWrk {w : World} {b o : Nat} {vs : List Value} (h : Cells w b o vs) {k : Nat} (hk : k < vs.length) (u : Value) : Cells (w.setCell ⟨b, o + k, none⟩ u) b o (vs.set k u) := fun j v hv => by
  by_cases e : k = j
  · subst e
    rw [List.getElem?_set_self hk] at hv
    cases hv
    exact cset_eq _ _ _ _ (h k vs[k] (List.getElem?_eq_getElem hk))
  · rw [List.getElem?_set_ne e] at hv
    exact (cset_ne _ _ _ _ _ (by omega)).trans (h j v hv)

theorem cellsWrk {w : World} {b : Nat} {v0 v1 v2 v3 v4 v5 v6 v7 v8 v9 v10 v11 v12 v13 v14 v15 : Value} (h : Cells w b 0 [v0, v1, v2, v3, v4, v5, v6, v7, v8, v9, v10, v11, v12, v13, v14, v15]) :
    w.cell? ⟨b, 0, none⟩ = some v0 ∧ w.cell? ⟨b, 1, none⟩ = some v1 ∧ w.cell? ⟨b, 2, none⟩ = some v2 ∧ w.cell? ⟨b, 3, none⟩ = some v3 ∧ w.cell? ⟨b, 4, none⟩ = some v4 ∧ w.cell? ⟨b, 5, none⟩ = some v5 ∧ w.cell? ⟨b, 6, none⟩ = some v6 ∧ w.cell? ⟨b, 7, none⟩ = some v7 ∧ w.cell? ⟨b, 8, none⟩ = some v8 ∧ w.cell? ⟨b, 9, none⟩ = some v9 ∧ w.cell? ⟨b, 10, none⟩ = some v10 ∧ w.cell? ⟨b, 11, none⟩ = some v11 ∧ w.cell? ⟨b, 12, none⟩ = some v12 ∧ w.cell? ⟨b, 13, none⟩ = some v13 ∧ w.cell? ⟨b, 14, none⟩ = some v14 ∧ w.cell? ⟨b, 15, none⟩ = some v15 := ⟨h 0 _ rfl, h 1 _ rfl, h 2 _ rfl, h 3 _ rfl, h 4 _ rfl, h 5 _ rfl, h 6 _ rfl, h 7 _ rfl, h 8 _ rfl, h 9 _ rfl, h 10 _ rfl, h 11 _ rfl, h 12 _ rfl, h 13 _ rfl, h 14 _ rfl, h 15 _ rfl⟩

/-- one is answered, in new memory of its own -/
def NewWrk (s : GWrk) (w : World) (e : Ending) (w' : World) : Prop :=
  ∃ (A : Option Addr) (c : Nat), e = .returned (.agg #[.int .i64 s.id, .int .i64 s.ph, .int .i64 s.tk, .int .i64 s.job.kind, .int .i64 s.job.tok, .int .i64 s.job.tier, .int .i64 s.job.beg, .int .i64 s.job.fin, .string s.job.key, .slice A s.ins.length c, .int .i64 s.got.cnt, .int .i64 s.got.sum, .int .i64 s.got.mn, .int .i64 s.got.mx, .int .i64 s.got.fst, .int .i64 s.got.lst]) ∧ EntsAt w' w'.heap.size A s.ins ∧ Free w' A ∧ (∀ b, blk A = some b → w.heap.size ≤ b ∧ b < w'.heap.size) ∧ s.ins.length ≤ c ∧ Below w.heap.size w w'

theorem szWorker_any (A : Option Addr) (c : Nat) (s : GWrk) (left : Int) (B : Nat) (w : World) (h : EntsAt w B A s.ins) (hB : B ≤ w.heap.size) (hf : s.fit) (h0 : 0 ≤ left) (h1 : left ≤ 1048576) :
    Calls Tryd.prog 4 #[.agg #[.int .i64 s.id, .int .i64 s.ph, .int .i64 s.tk, .int .i64 s.job.kind, .int .i64 s.job.tok, .int .i64 s.job.tier, .int .i64 s.job.beg, .int .i64 s.job.fin, .string s.job.key, .slice A s.ins.length c, .int .i64 s.got.cnt, .int .i64 s.got.sum, .int .i64 s.got.mn, .int .i64 s.got.mx, .int .i64 s.got.fst, .int .i64 s.got.lst], .int .i64 left] w (Left s.small left w) := by
  have H := Lib.hid h; clear h
  have Hf := Lib.hid hf; clear hf
  go_enter Tryd.func4, Tryd.ntmps4
  go_wp2_with fail
  refine (szRecord_any s.job left _ Hf.out.2.2.2.1.2.2.2.2.2 h0 h1).mono ?_
  rintro e w1 ⟨u1, hu1, hv1, ht1, rfl, hb1⟩
  have c9 : w1.cell? ⟨w.heap.size, 9, none⟩ = some (.slice A s.ins.length c) := by rw [hb1.cell (by simp)]; simp [go_sem]
  have bb1 : Below w.heap.size w w1 := (bal (Below.refl _ _) _).trans (hb1.mono (by simp))
  have Hu1 := Lib.hid hu1; clear hu1 hb1
  by_cases g1 : u1 < 0
  · have d1 : decide (u1 < 0) = true := by simpa using g1
    go_wp2
    go_ret
    exact ⟨-1, fun h => by omega, by omega, by omega, rfl, bb1⟩
  have d1 : decide (u1 < 0) = false := by simpa using g1
  have q1 : u1 ≤ left := (Hu1.out (by omega)).2
  go_wp2_with fail
  refine (szEntryS_any A c s.ins u1 B _ (Sl.below H.out bb1 hB) (by have := bb1.size; omega) Hf.out.2.2.2.2.1 Hf.out.2.2.2.2.2.1 (by omega) (by omega)).mono ?_
  rintro e w2 ⟨u2, hu2, hv2, ht2, rfl, hb2⟩
  have bb2 : Below w.heap.size w w2 := bnext bb1 hb2
  have Hu2 := Lib.hid hu2; clear hu2 hb2
  by_cases g2 : u2 < 0
  · have d2 : decide (u2 < 0) = true := by simpa using g2
    go_wp2
    go_ret
    exact ⟨-1, fun h => by omega, by omega, by omega, rfl, bb2⟩
  have d2 : decide (u2 < 0) = false := by simpa using g2
  have q2 : u2 ≤ u1 := (Hu2.out (by omega)).2
  have HQ : Hid s.small := Lib.hid ⟨(Hu1.out (by omega)).1, (Hu2.out (by omega)).1⟩
  go_wp2
  go_ret
  exact ⟨u2, fun h => ⟨HQ.out, by omega⟩, by omega, by omega, rfl, bb2⟩

set_option maxRecDepth 100000 in
set_option maxHeartbeats 2000000 in
theorem toWorker_any (A : Option Addr) (c : Nat) (s : GWrk) (B : Nat) (w : World) (h : EntsAt w B A s.ins) (hB : B ≤ w.heap.size) (hl : s.ins.length ≤ 1048576) :
    Calls Tryd.prog 6 #[.agg #[.int .i64 s.id, .int .i64 s.ph, .int .i64 s.tk, .int .i64 s.job.kind, .int .i64 s.job.tok, .int .i64 s.job.tier, .int .i64 s.job.beg, .int .i64 s.job.fin, .string s.job.key, .slice A s.ins.length c, .int .i64 s.got.cnt, .int .i64 s.got.sum, .int .i64 s.got.mn, .int .i64 s.got.mx, .int .i64 s.got.fst, .int .i64 s.got.lst]] w (NewWrk s w) := by
  have H := Lib.hid h; clear h
  go_enter Tryd.func6, Tryd.ntmps6
  go_wp2_with fail
  refine (toRecord_any s.job _).mono ?_
  rintro e w1 ⟨rfl, hb1⟩
  have ca : Cells w1 (w.heap.size) 0 [.int .i64 s.id, .int .i64 s.ph, .int .i64 s.tk, .int .i64 s.job.kind, .int .i64 s.job.tok, .int .i64 s.job.tier, .int .i64 s.job.beg, .int .i64 s.job.fin, .string s.job.key, .slice A s.ins.length c, .int .i64 s.got.cnt, .int .i64 s.got.sum, .int .i64 s.got.mn, .int .i64 s.got.mx, .int .i64 s.got.fst, .int .i64 s.got.lst] := fun j v hv => by
    rw [Nat.zero_add]
    match j, hv with
    | 0, hv => simp only [List.getElem?_cons_zero, List.getElem?_cons_succ, Option.some.injEq] at hv; subst hv; rw [hb1.cell (by simp <;> omega)]; simp [go_sem]
    | 1, hv => simp only [List.getElem?_cons_zero, List.getElem?_cons_succ, Option.some.injEq] at hv; subst hv; rw [hb1.cell (by simp <;> omega)]; simp [go_sem]
    | 2, hv => simp only [List.getElem?_cons_zero, List.getElem?_cons_succ, Option.some.injEq] at hv; subst hv; rw [hb1.cell (by simp <;> omega)]; simp [go_sem]
    | 3, hv => simp only [List.getElem?_cons_zero, List.getElem?_cons_succ, Option.some.injEq] at hv; subst hv; rw [hb1.cell (by simp <;> omega)]; simp [go_sem]
    | 4, hv => simp only [List.getElem?_cons_zero, List.getElem?_cons_succ, Option.some.injEq] at hv; subst hv; rw [hb1.cell (by simp <;> omega)]; simp [go_sem]
    | 5, hv => simp only [List.getElem?_cons_zero, List.getElem?_cons_succ, Option.some.injEq] at hv; subst hv; rw [hb1.cell (by simp <;> omega)]; simp [go_sem]
    | 6, hv => simp only [List.getElem?_cons_zero, List.getElem?_cons_succ, Option.some.injEq] at hv; subst hv; rw [hb1.cell (by simp <;> omega)]; simp [go_sem]
    | 7, hv => simp only [List.getElem?_cons_zero, List.getElem?_cons_succ, Option.some.injEq] at hv; subst hv; rw [hb1.cell (by simp <;> omega)]; simp [go_sem]
    | 8, hv => simp only [List.getElem?_cons_zero, List.getElem?_cons_succ, Option.some.injEq] at hv; subst hv; rw [hb1.cell (by simp <;> omega)]; simp [go_sem]
    | 9, hv => simp only [List.getElem?_cons_zero, List.getElem?_cons_succ, Option.some.injEq] at hv; subst hv; rw [hb1.cell (by simp <;> omega)]; simp [go_sem]
    | 10, hv => simp only [List.getElem?_cons_zero, List.getElem?_cons_succ, Option.some.injEq] at hv; subst hv; rw [hb1.cell (by simp <;> omega)]; simp [go_sem]
    | 11, hv => simp only [List.getElem?_cons_zero, List.getElem?_cons_succ, Option.some.injEq] at hv; subst hv; rw [hb1.cell (by simp <;> omega)]; simp [go_sem]
    | 12, hv => simp only [List.getElem?_cons_zero, List.getElem?_cons_succ, Option.some.injEq] at hv; subst hv; rw [hb1.cell (by simp <;> omega)]; simp [go_sem]
    | 13, hv => simp only [List.getElem?_cons_zero, List.getElem?_cons_succ, Option.some.injEq] at hv; subst hv; rw [hb1.cell (by simp <;> omega)]; simp [go_sem]
    | 14, hv => simp only [List.getElem?_cons_zero, List.getElem?_cons_succ, Option.some.injEq] at hv; subst hv; rw [hb1.cell (by simp <;> omega)]; simp [go_sem]
    | 15, hv => simp only [List.getElem?_cons_zero, List.getElem?_cons_succ, Option.some.injEq] at hv; subst hv; rw [hb1.cell (by simp <;> omega)]; simp [go_sem]
    | j + 16, hv => simp at hv
  have cz : Cells w1 (w.heap.size + 1) 0 [.int .i64 0, .int .i64 0, .int .i64 0, .int .i64 0, .int .i64 0, .int .i64 0, .int .i64 0, .int .i64 0, .string ⟨#[]⟩, .slice none 0 0, .int .i64 0, .int .i64 0, .int .i64 0, .int .i64 0, .int .i64 0, .int .i64 0] := fun j v hv => by
    rw [Nat.zero_add]
    match j, hv with
    | 0, hv => simp only [List.getElem?_cons_zero, List.getElem?_cons_succ, Option.some.injEq] at hv; subst hv; rw [hb1.cell (by simp <;> omega)]; simp [go_sem]
    | 1, hv => simp only [List.getElem?_cons_zero, List.getElem?_cons_succ, Option.some.injEq] at hv; subst hv; rw [hb1.cell (by simp <;> omega)]; simp [go_sem]
    | 2, hv => simp only [List.getElem?_cons_zero, List.getElem?_cons_succ, Option.some.injEq] at hv; subst hv; rw [hb1.cell (by simp <;> omega)]; simp [go_sem]
    | 3, hv => simp only [List.getElem?_cons_zero, List.getElem?_cons_succ, Option.some.injEq] at hv; subst hv; rw [hb1.cell (by simp <;> omega)]; simp [go_sem]
    | 4, hv => simp only [List.getElem?_cons_zero, List.getElem?_cons_succ, Option.some.injEq] at hv; subst hv; rw [hb1.cell (by simp <;> omega)]; simp [go_sem]
    | 5, hv => simp only [List.getElem?_cons_zero, List.getElem?_cons_succ, Option.some.injEq] at hv; subst hv; rw [hb1.cell (by simp <;> omega)]; simp [go_sem]
    | 6, hv => simp only [List.getElem?_cons_zero, List.getElem?_cons_succ, Option.some.injEq] at hv; subst hv; rw [hb1.cell (by simp <;> omega)]; simp [go_sem]
    | 7, hv => simp only [List.getElem?_cons_zero, List.getElem?_cons_succ, Option.some.injEq] at hv; subst hv; rw [hb1.cell (by simp <;> omega)]; simp [go_sem]
    | 8, hv => simp only [List.getElem?_cons_zero, List.getElem?_cons_succ, Option.some.injEq] at hv; subst hv; rw [hb1.cell (by simp <;> omega)]; simp [go_sem]
    | 9, hv => simp only [List.getElem?_cons_zero, List.getElem?_cons_succ, Option.some.injEq] at hv; subst hv; rw [hb1.cell (by simp <;> omega)]; simp [go_sem]
    | 10, hv => simp only [List.getElem?_cons_zero, List.getElem?_cons_succ, Option.some.injEq] at hv; subst hv; rw [hb1.cell (by simp <;> omega)]; simp [go_sem]
    | 11, hv => simp only [List.getElem?_cons_zero, List.getElem?_cons_succ, Option.some.injEq] at hv; subst hv; rw [hb1.cell (by simp <;> omega)]; simp [go_sem]
    | 12, hv => simp only [List.getElem?_cons_zero, List.getElem?_cons_succ, Option.some.injEq] at hv; subst hv; rw [hb1.cell (by simp <;> omega)]; simp [go_sem]
    | 13, hv => simp only [List.getElem?_cons_zero, List.getElem?_cons_succ, Option.some.injEq] at hv; subst hv; rw [hb1.cell (by simp <;> omega)]; simp [go_sem]
    | 14, hv => simp only [List.getElem?_cons_zero, List.getElem?_cons_succ, Option.some.injEq] at hv; subst hv; rw [hb1.cell (by simp <;> omega)]; simp [go_sem]
    | 15, hv => simp only [List.getElem?_cons_zero, List.getElem?_cons_succ, Option.some.injEq] at hv; subst hv; rw [hb1.cell (by simp <;> omega)]; simp [go_sem]
    | j + 16, hv => simp at hv
  have co : Cells w1 (w.heap.size + 1 + 1) 0 [.int .i64 s.id, .int .i64 s.ph, .int .i64 s.tk, .int .i64 0, .int .i64 0, .int .i64 0, .int .i64 0, .int .i64 0, .string ⟨#[]⟩, .slice none 0 0, .int .i64 0, .int .i64 0, .int .i64 0, .int .i64 0, .int .i64 0, .int .i64 0] := fun j v hv => by
    rw [Nat.zero_add]
    match j, hv with
    | 0, hv => simp only [List.getElem?_cons_zero, List.getElem?_cons_succ, Option.some.injEq] at hv; subst hv; rw [hb1.cell (by simp <;> omega)]; simp [go_sem]
    | 1, hv => simp only [List.getElem?_cons_zero, List.getElem?_cons_succ, Option.some.injEq] at hv; subst hv; rw [hb1.cell (by simp <;> omega)]; simp [go_sem]
    | 2, hv => simp only [List.getElem?_cons_zero, List.getElem?_cons_succ, Option.some.injEq] at hv; subst hv; rw [hb1.cell (by simp <;> omega)]; simp [go_sem]
    | 3, hv => simp only [List.getElem?_cons_zero, List.getElem?_cons_succ, Option.some.injEq] at hv; subst hv; rw [hb1.cell (by simp <;> omega)]; simp [go_sem]
    | 4, hv => simp only [List.getElem?_cons_zero, List.getElem?_cons_succ, Option.some.injEq] at hv; subst hv; rw [hb1.cell (by simp <;> omega)]; simp [go_sem]
    | 5, hv => simp only [List.getElem?_cons_zero, List.getElem?_cons_succ, Option.some.injEq] at hv; subst hv; rw [hb1.cell (by simp <;> omega)]; simp [go_sem]
    | 6, hv => simp only [List.getElem?_cons_zero, List.getElem?_cons_succ, Option.some.injEq] at hv; subst hv; rw [hb1.cell (by simp <;> omega)]; simp [go_sem]
    | 7, hv => simp only [List.getElem?_cons_zero, List.getElem?_cons_succ, Option.some.injEq] at hv; subst hv; rw [hb1.cell (by simp <;> omega)]; simp [go_sem]
    | 8, hv => simp only [List.getElem?_cons_zero, List.getElem?_cons_succ, Option.some.injEq] at hv; subst hv; rw [hb1.cell (by simp <;> omega)]; simp [go_sem]
    | 9, hv => simp only [List.getElem?_cons_zero, List.getElem?_cons_succ, Option.some.injEq] at hv; subst hv; rw [hb1.cell (by simp <;> omega)]; simp [go_sem]
    | 10, hv => simp only [List.getElem?_cons_zero, List.getElem?_cons_succ, Option.some.injEq] at hv; subst hv; rw [hb1.cell (by simp <;> omega)]; simp [go_sem]
    | 11, hv => simp only [List.getElem?_cons_zero, List.getElem?_cons_succ, Option.some.injEq] at hv; subst hv; rw [hb1.cell (by simp <;> omega)]; simp [go_sem]
    | 12, hv => simp only [List.getElem?_cons_zero, List.getElem?_cons_succ, Option.some.injEq] at hv; subst hv; rw [hb1.cell (by simp <;> omega)]; simp [go_sem]
    | 13, hv => simp only [List.getElem?_cons_zero, List.getElem?_cons_succ, Option.some.injEq] at hv; subst hv; rw [hb1.cell (by simp <;> omega)]; simp [go_sem]
    | 14, hv => simp only [List.getElem?_cons_zero, List.getElem?_cons_succ, Option.some.injEq] at hv; subst hv; rw [hb1.cell (by simp <;> omega)]; simp [go_sem]
    | 15, hv => simp only [List.getElem?_cons_zero, List.getElem?_cons_succ, Option.some.injEq] at hv; subst hv; rw [hb1.cell (by simp <;> omega)]; simp [go_sem]
    | j + 16, hv => simp at hv
  have fz : ∀ i, w1.frozen? ⟨w.heap.size + 1, i, none⟩ = false := fun i => by rw [hb1.frozen (by simp <;> omega)]; simp [go_sem]
  have fo : ∀ i, w1.frozen? ⟨w.heap.size + 1 + 1, i, none⟩ = false := fun i => by rw [hb1.frozen (by simp <;> omega)]; simp [go_sem]
  have hs1 : w.heap.size + 3 ≤ w1.heap.size := by have := hb1.size; simp at this; omega
  have bb1 : Below w.heap.size w w1 := by
    refine Below.trans ?_ (hb1.mono ?_)
    · repeat' first | exact Below.refl _ _ | refine bal ?_ _ | refine bset ?_ (by simp) _
    · simp <;> omega
  have HH : Hid (∀ w', Below w.heap.size w w' → EntsAt w' B A s.ins) := Lib.hid (fun w' h => Sl.below H.out h hB)
  clear hb1 H
  have HB0 : Hid (B ≤ w.heap.size) := Lib.hid hB
  clear hB
  generalize hx0 : w.heap.size = x0 at *
  have Hx0 := Lib.hid hx0; clear hx0
  have CA1 := Lib.hid ca; have CZ1 := Lib.hid cz; have CO1 := Lib.hid co; have FZ1 := Lib.hid fz; have FO1 := Lib.hid fo
  clear ca cz co fz fo
  have o3 := CO1.out 3 _ rfl
  have g3 := FO1.out 3
  have o4 := CO1.out 4 _ rfl
  have g4 := FO1.out 4
  have o5 := CO1.out 5 _ rfl
  have g5 := FO1.out 5
  have o6 := CO1.out 6 _ rfl
  have g6 := FO1.out 6
  have o7 := CO1.out 7 _ rfl
  have g7 := FO1.out 7
  have o8 := CO1.out 8 _ rfl
  have g8 := FO1.out 8
  have p9 := CA1.out 9 _ rfl
  simp only [Nat.zero_add] at o3 o4 o5 o6 o7 o8 p9
  go_wp2_with fail
  have e1 : ((((((w1.setCell ⟨x0 + 1 + 1, 3, none⟩ (.int .i64 s.job.kind)).setCell ⟨x0 + 1 + 1, 4, none⟩ (.int .i64 s.job.tok)).setCell ⟨x0 + 1 + 1, 5, none⟩ (.int .i64 s.job.tier)).setCell ⟨x0 + 1 + 1, 6, none⟩ (.int .i64 s.job.beg)).setCell ⟨x0 + 1 + 1, 7, none⟩ (.int .i64 s.job.fin)).setCell ⟨x0 + 1 + 1, 8, none⟩ (.string s.job.key)) = puts w1 (x0 + 1 + 1) 3 [.int .i64 s.job.kind, .int .i64 s.job.tok, .int .i64 s.job.tier, .int .i64 s.job.beg, .int .i64 s.job.fin, .string s.job.key] := rfl
  rw [e1]
  have bv1 : Below x0 w (puts w1 (x0 + 1 + 1) 3 [.int .i64 s.job.kind, .int .i64 s.job.tok, .int .i64 s.job.tier, .int .i64 s.job.beg, .int .i64 s.job.fin, .string s.job.key]) := belowFarWrk _ (by omega) _ _ _ bb1
  refine (toEntryS_any A c s.ins B _ (HH.out _ bv1) (by rw [puts_size]; have := HB0.out; omega) hl).mono ?_
  rintro e w2 ⟨D, d, rfl, ho, hfD, hbl, hcD, hb2⟩
  rw [puts_size] at hb2 hbl
  have hs2 : w1.heap.size ≤ w2.heap.size := by have := hb2.size; rw [puts_size] at this; exact this
  have CA2 : Hid (Cells w2 x0 0 [.int .i64 s.id, .int .i64 s.ph, .int .i64 s.tk, .int .i64 s.job.kind, .int .i64 s.job.tok, .int .i64 s.job.tier, .int .i64 s.job.beg, .int .i64 s.job.fin, .string s.job.key, .slice A s.ins.length c, .int .i64 s.got.cnt, .int .i64 s.got.sum, .int .i64 s.got.mn, .int .i64 s.got.mx, .int .i64 s.got.fst, .int .i64 s.got.lst]) := Lib.hid ((cellsFarWrk (by omega) _ _ _ CA1.out).below hb2 (by omega))
  have CZ2 : Hid (Cells w2 (x0 + 1) 0 [.int .i64 0, .int .i64 0, .int .i64 0, .int .i64 0, .int .i64 0, .int .i64 0, .int .i64 0, .int .i64 0, .string ⟨#[]⟩, .slice none 0 0, .int .i64 0, .int .i64 0, .int .i64 0, .int .i64 0, .int .i64 0, .int .i64 0]) := Lib.hid ((cellsFarWrk (by omega) _ _ _ CZ1.out).below hb2 (by omega))
  have CO2 : Hid (Cells w2 (x0 + 1 + 1) 0 [.int .i64 s.id, .int .i64 s.ph, .int .i64 s.tk, .int .i64 s.job.kind, .int .i64 s.job.tok, .int .i64 s.job.tier, .int .i64 s.job.beg, .int .i64 s.job.fin, .string s.job.key, .slice none 0 0, .int .i64 0, .int .i64 0, .int .i64 0, .int .i64 0, .int .i64 0, .int .i64 0]) := Lib.hid ((by
    have h0 := csetWrk (CO1.out) (k := 3) (by simp) (.int .i64 s.job.kind)
    have h1 := csetWrk (h0) (k := 4) (by simp) (.int .i64 s.job.tok)
    have h2 := csetWrk (h1) (k := 5) (by simp) (.int .i64 s.job.tier)
    have h3 := csetWrk (h2) (k := 6) (by simp) (.int .i64 s.job.beg)
    have h4 := csetWrk (h3) (k := 7) (by simp) (.int .i64 s.job.fin)
    have h5 := csetWrk (h4) (k := 8) (by simp) (.string s.job.key)
    simpa [puts] using h5 : Cells (puts w1 (x0 + 1 + 1) 3 [.int .i64 s.job.kind, .int .i64 s.job.tok, .int .i64 s.job.tier, .int .i64 s.job.beg, .int .i64 s.job.fin, .string s.job.key]) (x0 + 1 + 1) 0 [.int .i64 s.id, .int .i64 s.ph, .int .i64 s.tk, .int .i64 s.job.kind, .int .i64 s.job.tok, .int .i64 s.job.tier, .int .i64 s.job.beg, .int .i64 s.job.fin, .string s.job.key, .slice none 0 0, .int .i64 0, .int .i64 0, .int .i64 0, .int .i64 0, .int .i64 0, .int .i64 0]).below hb2 (by omega))
  have FZ2 : Hid (∀ i, w2.frozen? ⟨x0 + 1, i, none⟩ = false) := Lib.hid (fun i => (hb2.frozen (p := ⟨x0 + 1, i, none⟩) (by show x0 + 1 < _; omega)).trans ((puts_frozen _ _ _ _ _).trans (FZ1.out i)))
  have FO2 : Hid (∀ i, w2.frozen? ⟨x0 + 1 + 1, i, none⟩ = false) := Lib.hid (fun i => (hb2.frozen (p := ⟨x0 + 1 + 1, i, none⟩) (by show x0 + 1 + 1 < _; omega)).trans ((puts_frozen _ _ _ _ _).trans (FO1.out i)))
  have bb2 : Below x0 w w2 := bv1.trans (hb2.mono (by omega))
  have HO2 : Hid (EntsAt w2 w2.heap.size D s.ins) := Lib.hid ho; have HF2 := Lib.hid hfD; have HL : Hid (∀ b, blk D = some b → x0 + 3 ≤ b ∧ b < w2.heap.size) := Lib.hid (fun b e => by have := hbl b e; omega); clear ho hfD hbl
  clear CA1 CZ1 CO1 FZ1 FO1 bb1 bv1 hb2 e1 o3 g3 o4 g4 o5 g5 o6 g6 o7 g7 o8 g8 p9
  have o9 := CO2.out 9 _ rfl
  have g9 := FO2.out 9
  have p10 := CA2.out 10 _ rfl
  have p11 := CA2.out 11 _ rfl
  have p12 := CA2.out 12 _ rfl
  have p13 := CA2.out 13 _ rfl
  have p14 := CA2.out 14 _ rfl
  have p15 := CA2.out 15 _ rfl
  simp only [Nat.zero_add] at o9 p10 p11 p12 p13 p14 p15
  go_wp2_with fail
  have e2 : (w2.setCell ⟨x0 + 1 + 1, 9, none⟩ (.slice D s.ins.length d)) = puts w2 (x0 + 1 + 1) 9 [.slice D s.ins.length d] := rfl
  rw [e2]
  have bv2 : Below x0 w (puts w2 (x0 + 1 + 1) 9 [.slice D s.ins.length d]) := belowFarWrk _ (by omega) _ _ _ bb2
  refine (toAgg_any s.got _).mono ?_
  rintro e w3 ⟨rfl, hb3⟩
  rw [puts_size] at hb3
  have hs3 : w2.heap.size ≤ w3.heap.size := by have := hb3.size; rw [puts_size] at this; exact this
  have CA3 : Hid (Cells w3 x0 0 [.int .i64 s.id, .int .i64 s.ph, .int .i64 s.tk, .int .i64 s.job.kind, .int .i64 s.job.tok, .int .i64 s.job.tier, .int .i64 s.job.beg, .int .i64 s.job.fin, .string s.job.key, .slice A s.ins.length c, .int .i64 s.got.cnt, .int .i64 s.got.sum, .int .i64 s.got.mn, .int .i64 s.got.mx, .int .i64 s.got.fst, .int .i64 s.got.lst]) := Lib.hid ((cellsFarWrk (by omega) _ _ _ CA2.out).below hb3 (by omega))
  have CZ3 : Hid (Cells w3 (x0 + 1) 0 [.int .i64 0, .int .i64 0, .int .i64 0, .int .i64 0, .int .i64 0, .int .i64 0, .int .i64 0, .int .i64 0, .string ⟨#[]⟩, .slice none 0 0, .int .i64 0, .int .i64 0, .int .i64 0, .int .i64 0, .int .i64 0, .int .i64 0]) := Lib.hid ((cellsFarWrk (by omega) _ _ _ CZ2.out).below hb3 (by omega))
  have CO3 : Hid (Cells w3 (x0 + 1 + 1) 0 [.int .i64 s.id, .int .i64 s.ph, .int .i64 s.tk, .int .i64 s.job.kind, .int .i64 s.job.tok, .int .i64 s.job.tier, .int .i64 s.job.beg, .int .i64 s.job.fin, .string s.job.key, .slice D s.ins.length d, .int .i64 0, .int .i64 0, .int .i64 0, .int .i64 0, .int .i64 0, .int .i64 0]) := Lib.hid ((by
    have h0 := csetWrk (CO2.out) (k := 9) (by simp) (.slice D s.ins.length d)
    simpa [puts] using h0 : Cells (puts w2 (x0 + 1 + 1) 9 [.slice D s.ins.length d]) (x0 + 1 + 1) 0 [.int .i64 s.id, .int .i64 s.ph, .int .i64 s.tk, .int .i64 s.job.kind, .int .i64 s.job.tok, .int .i64 s.job.tier, .int .i64 s.job.beg, .int .i64 s.job.fin, .string s.job.key, .slice D s.ins.length d, .int .i64 0, .int .i64 0, .int .i64 0, .int .i64 0, .int .i64 0, .int .i64 0]).below hb3 (by omega))
  have FZ3 : Hid (∀ i, w3.frozen? ⟨x0 + 1, i, none⟩ = false) := Lib.hid (fun i => (hb3.frozen (p := ⟨x0 + 1, i, none⟩) (by show x0 + 1 < _; omega)).trans ((puts_frozen _ _ _ _ _).trans (FZ2.out i)))
  have FO3 : Hid (∀ i, w3.frozen? ⟨x0 + 1 + 1, i, none⟩ = false) := Lib.hid (fun i => (hb3.frozen (p := ⟨x0 + 1 + 1, i, none⟩) (by show x0 + 1 + 1 < _; omega)).trans ((puts_frozen _ _ _ _ _).trans (FO2.out i)))
  have HO3 : Hid (EntsAt w3 w2.heap.size D s.ins) := Lib.hid (Sl.below (slFarWrk (fun b e => by have := (HL.out b e).1; omega) _ _ _ HO2.out) hb3 (by omega))
  have HF3 : Hid (Free w3 D) := Lib.hid ((freeFarWrk HF2.out _ _ _).below hb3 (fun b e => by have := (HL.out b e).2; omega))
  have bb3 : Below x0 w w3 := bv2.trans (hb3.mono (by omega))
  clear CA2 CZ2 CO2 FZ2 FO2 bb2 bv2 hb3 e2 o9 g9 p10 p11 p12 p13 p14 p15 HO2 HF2
  have o10 := CO3.out 10 _ rfl
  have g10 := FO3.out 10
  have o11 := CO3.out 11 _ rfl
  have g11 := FO3.out 11
  have o12 := CO3.out 12 _ rfl
  have g12 := FO3.out 12
  have o13 := CO3.out 13 _ rfl
  have g13 := FO3.out 13
  have o14 := CO3.out 14 _ rfl
  have g14 := FO3.out 14
  have o15 := CO3.out 15 _ rfl
  have g15 := FO3.out 15
  have o0 := CO3.out 0 _ rfl
  have o1 := CO3.out 1 _ rfl
  have o2 := CO3.out 2 _ rfl
  have o3 := CO3.out 3 _ rfl
  have o4 := CO3.out 4 _ rfl
  have o5 := CO3.out 5 _ rfl
  have o6 := CO3.out 6 _ rfl
  have o7 := CO3.out 7 _ rfl
  have o8 := CO3.out 8 _ rfl
  have o9 := CO3.out 9 _ rfl
  have z0 := CZ3.out 0 _ rfl
  have y0 := FZ3.out 0
  have z1 := CZ3.out 1 _ rfl
  have y1 := FZ3.out 1
  have z2 := CZ3.out 2 _ rfl
  have y2 := FZ3.out 2
  have z3 := CZ3.out 3 _ rfl
  have y3 := FZ3.out 3
  have z4 := CZ3.out 4 _ rfl
  have y4 := FZ3.out 4
  have z5 := CZ3.out 5 _ rfl
  have y5 := FZ3.out 5
  have z6 := CZ3.out 6 _ rfl
  have y6 := FZ3.out 6
  have z7 := CZ3.out 7 _ rfl
  have y7 := FZ3.out 7
  have z8 := CZ3.out 8 _ rfl
  have y8 := FZ3.out 8
  have z9 := CZ3.out 9 _ rfl
  have y9 := FZ3.out 9
  have z10 := CZ3.out 10 _ rfl
  have y10 := FZ3.out 10
  have z11 := CZ3.out 11 _ rfl
  have y11 := FZ3.out 11
  have z12 := CZ3.out 12 _ rfl
  have y12 := FZ3.out 12
  have z13 := CZ3.out 13 _ rfl
  have y13 := FZ3.out 13
  have z14 := CZ3.out 14 _ rfl
  have y14 := FZ3.out 14
  have z15 := CZ3.out 15 _ rfl
  have y15 := FZ3.out 15
  simp only [Nat.zero_add] at o0 o1 o2 o3 o4 o5 o6 o7 o8 o9 o10 o11 o12 o13 o14 o15 z0 z1 z2 z3 z4 z5 z6 z7 z8 z9 z10 z11 z12 z13 z14 z15
  go_wp2
  refine bodyPost_ret (v := .agg #[.int .i64 s.id, .int .i64 s.ph, .int .i64 s.tk, .int .i64 s.job.kind, .int .i64 s.job.tok, .int .i64 s.job.tier, .int .i64 s.job.beg, .int .i64 s.job.fin, .string s.job.key, .slice D s.ins.length d, .int .i64 s.got.cnt, .int .i64 s.got.sum, .int .i64 s.got.mn, .int .i64 s.got.mx, .int .i64 s.got.fst, .int .i64 s.got.lst]) (by simp [results, Tryd.results6, go_sem, *]) rfl ⟨D, d, rfl, ?_⟩
  obtain ⟨wz, hwz⟩ : ∃ wz, wz = puts (puts w3 (x0 + 1 + 1) 10 [.int .i64 s.got.cnt, .int .i64 s.got.sum, .int .i64 s.got.mn, .int .i64 s.got.mx, .int .i64 s.got.fst, .int .i64 s.got.lst]) (x0 + 1) 0 [.int .i64 s.id, .int .i64 s.ph, .int .i64 s.tk, .int .i64 s.job.kind, .int .i64 s.job.tok, .int .i64 s.job.tier, .int .i64 s.job.beg, .int .i64 s.job.fin, .string s.job.key, .slice D s.ins.length d, .int .i64 s.got.cnt, .int .i64 s.got.sum, .int .i64 s.got.mn, .int .i64 s.got.mx, .int .i64 s.got.fst, .int .i64 s.got.lst] := ⟨_, rfl⟩
  have hzz : wz.heap.size = w3.heap.size := by rw [hwz, puts_size, puts_size]
  have hbz : Below x0 w wz := by rw [hwz]; exact belowFarWrk _ (by omega) _ _ _ (belowFarWrk _ (by omega) _ _ _ bb3)
  have hEz : EntsAt wz w2.heap.size D s.ins := by rw [hwz]; exact slFarWrk (fun b e => by have := (HL.out b e).1; omega) _ _ _ (slFarWrk (fun b e => by have := (HL.out b e).1; omega) _ _ _ HO3.out)
  have hFz : Free wz D := by rw [hwz]; exact freeFarWrk (freeFarWrk HF3.out _ _ _) _ _ _
  have fin : EntsAt wz wz.heap.size D s.ins ∧ Free wz D ∧ (∀ b, blk D = some b → x0 ≤ b ∧ b < wz.heap.size) ∧ s.ins.length ≤ d ∧ Below x0 w wz :=
    ⟨Sl.more hEz (by omega), hFz, fun b e => by have := HL.out b e; omega, hcD, hbz⟩
  rw [hwz] at fin
  rw [Hx0.out]
  exact fin

theorem lenWrk {s : GWrk} (h : s.small) : s.ins.length ≤ 1048576 := h.2.1

set_option maxRecDepth 100000 in
set_option maxHeartbeats 2000000 in
theorem eqWorker_any (A : Option Addr) (c : Nat) (D : Option Addr) (d : Nat) (s t : GWrk) (B : Nat) (w : World) (h : EntsAt w B A s.ins) (k : EntsAt w B D t.ins) (hB : B ≤ w.heap.size)
    (hl : s.ins.length ≤ 4611686018427387904) (kl : t.ins.length ≤ 4611686018427387904) :
    Calls Tryd.prog 8 #[.agg #[.int .i64 s.id, .int .i64 s.ph, .int .i64 s.tk, .int .i64 s.job.kind, .int .i64 s.job.tok, .int .i64 s.job.tier, .int .i64 s.job.beg, .int .i64 s.job.fin, .string s.job.key, .slice A s.ins.length c, .int .i64 s.got.cnt, .int .i64 s.got.sum, .int .i64 s.got.mn, .int .i64 s.got.mx, .int .i64 s.got.fst, .int .i64 s.got.lst], .agg #[.int .i64 t.id, .int .i64 t.ph, .int .i64 t.tk, .int .i64 t.job.kind, .int .i64 t.job.tok, .int .i64 t.job.tier, .int .i64 t.job.beg, .int .i64 t.job.fin, .string t.job.key, .slice D t.ins.length d, .int .i64 t.got.cnt, .int .i64 t.got.sum, .int .i64 t.got.mn, .int .i64 t.got.mx, .int .i64 t.got.fst, .int .i64 t.got.lst]] w (IsBB (s = t) w) := by
  have Bw : ∀ o1 o2, Below w.heap.size w ((w.alloc o1).alloc o2) := fun o1 o2 => bal (bal (Below.refl _ _) _) _
  have BW := Lib.hid Bw; clear Bw
  have H := Lib.hid h; clear h
  have K := Lib.hid k; clear k
  by_cases e0 : s.id = t.id
  rotate_left
  · have u0 : (s.id != t.id) = true := by simpa using e0
    have r0 : (s.id == t.id) = false := by simpa using e0
    have Hn : Hid (¬ s = t) := Lib.hid (fun h => e0 (by rw [h]))
    clear e0
    go_enter Tryd.func8, Tryd.ntmps8
    go_wp2
    go_ret
    exact ⟨false, by simp [Hn.out], rfl, BW.out _ _⟩
  by_cases e1 : s.ph = t.ph
  rotate_left
  · have u0 : (s.id != t.id) = false := by simpa using e0
    have r0 : (s.id == t.id) = true := by simpa using e0
    have u1 : (s.ph != t.ph) = true := by simpa using e1
    have r1 : (s.ph == t.ph) = false := by simpa using e1
    have Hn : Hid (¬ s = t) := Lib.hid (fun h => e1 (by rw [h]))
    clear e0 e1
    go_enter Tryd.func8, Tryd.ntmps8
    go_wp2
    go_ret
    exact ⟨false, by simp [Hn.out], rfl, BW.out _ _⟩
  by_cases e2 : s.tk = t.tk
  rotate_left
  · have u0 : (s.id != t.id) = false := by simpa using e0
    have r0 : (s.id == t.id) = true := by simpa using e0
    have u1 : (s.ph != t.ph) = false := by simpa using e1
    have r1 : (s.ph == t.ph) = true := by simpa using e1
    have u2 : (s.tk != t.tk) = true := by simpa using e2
    have r2 : (s.tk == t.tk) = false := by simpa using e2
    have Hn : Hid (¬ s = t) := Lib.hid (fun h => e2 (by rw [h]))
    clear e0 e1 e2
    go_enter Tryd.func8, Tryd.ntmps8
    go_wp2
    go_ret
    exact ⟨false, by simp [Hn.out], rfl, BW.out _ _⟩
  have u0 : (s.id != t.id) = false := by simpa using e0
  have r0 : (s.id == t.id) = true := by simpa using e0
  have E0 := Lib.hid e0; clear e0
  have u1 : (s.ph != t.ph) = false := by simpa using e1
  have r1 : (s.ph == t.ph) = true := by simpa using e1
  have E1 := Lib.hid e1; clear e1
  have u2 : (s.tk != t.tk) = false := by simpa using e2
  have r2 : (s.tk == t.tk) = true := by simpa using e2
  have E2 := Lib.hid e2; clear e2
  go_enter Tryd.func8, Tryd.ntmps8
  go_wp2_with fail
  refine (eqRecord_any s.job t.job _).mono ?_
  rintro e w1 ⟨b1, hb1, rfl, hB1⟩
  have ca : Cells w1 (w.heap.size) 0 [.int .i64 s.id, .int .i64 s.ph, .int .i64 s.tk, .int .i64 s.job.kind, .int .i64 s.job.tok, .int .i64 s.job.tier, .int .i64 s.job.beg, .int .i64 s.job.fin, .string s.job.key, .slice A s.ins.length c, .int .i64 s.got.cnt, .int .i64 s.got.sum, .int .i64 s.got.mn, .int .i64 s.got.mx, .int .i64 s.got.fst, .int .i64 s.got.lst] := fun j v hv => by
    rw [Nat.zero_add]
    match j, hv with
    | 0, hv => simp only [List.getElem?_cons_zero, List.getElem?_cons_succ, Option.some.injEq] at hv; subst hv; rw [hB1.cell (by simp <;> omega)]; simp [go_sem]
    | 1, hv => simp only [List.getElem?_cons_zero, List.getElem?_cons_succ, Option.some.injEq] at hv; subst hv; rw [hB1.cell (by simp <;> omega)]; simp [go_sem]
    | 2, hv => simp only [List.getElem?_cons_zero, List.getElem?_cons_succ, Option.some.injEq] at hv; subst hv; rw [hB1.cell (by simp <;> omega)]; simp [go_sem]
    | 3, hv => simp only [List.getElem?_cons_zero, List.getElem?_cons_succ, Option.some.injEq] at hv; subst hv; rw [hB1.cell (by simp <;> omega)]; simp [go_sem]
    | 4, hv => simp only [List.getElem?_cons_zero, List.getElem?_cons_succ, Option.some.injEq] at hv; subst hv; rw [hB1.cell (by simp <;> omega)]; simp [go_sem]
    | 5, hv => simp only [List.getElem?_cons_zero, List.getElem?_cons_succ, Option.some.injEq] at hv; subst hv; rw [hB1.cell (by simp <;> omega)]; simp [go_sem]
    | 6, hv => simp only [List.getElem?_cons_zero, List.getElem?_cons_succ, Option.some.injEq] at hv; subst hv; rw [hB1.cell (by simp <;> omega)]; simp [go_sem]
    | 7, hv => simp only [List.getElem?_cons_zero, List.getElem?_cons_succ, Option.some.injEq] at hv; subst hv; rw [hB1.cell (by simp <;> omega)]; simp [go_sem]
    | 8, hv => simp only [List.getElem?_cons_zero, List.getElem?_cons_succ, Option.some.injEq] at hv; subst hv; rw [hB1.cell (by simp <;> omega)]; simp [go_sem]
    | 9, hv => simp only [List.getElem?_cons_zero, List.getElem?_cons_succ, Option.some.injEq] at hv; subst hv; rw [hB1.cell (by simp <;> omega)]; simp [go_sem]
    | 10, hv => simp only [List.getElem?_cons_zero, List.getElem?_cons_succ, Option.some.injEq] at hv; subst hv; rw [hB1.cell (by simp <;> omega)]; simp [go_sem]
    | 11, hv => simp only [List.getElem?_cons_zero, List.getElem?_cons_succ, Option.some.injEq] at hv; subst hv; rw [hB1.cell (by simp <;> omega)]; simp [go_sem]
    | 12, hv => simp only [List.getElem?_cons_zero, List.getElem?_cons_succ, Option.some.injEq] at hv; subst hv; rw [hB1.cell (by simp <;> omega)]; simp [go_sem]
    | 13, hv => simp only [List.getElem?_cons_zero, List.getElem?_cons_succ, Option.some.injEq] at hv; subst hv; rw [hB1.cell (by simp <;> omega)]; simp [go_sem]
    | 14, hv => simp only [List.getElem?_cons_zero, List.getElem?_cons_succ, Option.some.injEq] at hv; subst hv; rw [hB1.cell (by simp <;> omega)]; simp [go_sem]
    | 15, hv => simp only [List.getElem?_cons_zero, List.getElem?_cons_succ, Option.some.injEq] at hv; subst hv; rw [hB1.cell (by simp <;> omega)]; simp [go_sem]
    | j + 16, hv => simp at hv
  have cb : Cells w1 (w.heap.size + 1) 0 [.int .i64 t.id, .int .i64 t.ph, .int .i64 t.tk, .int .i64 t.job.kind, .int .i64 t.job.tok, .int .i64 t.job.tier, .int .i64 t.job.beg, .int .i64 t.job.fin, .string t.job.key, .slice D t.ins.length d, .int .i64 t.got.cnt, .int .i64 t.got.sum, .int .i64 t.got.mn, .int .i64 t.got.mx, .int .i64 t.got.fst, .int .i64 t.got.lst] := fun j v hv => by
    rw [Nat.zero_add]
    match j, hv with
    | 0, hv => simp only [List.getElem?_cons_zero, List.getElem?_cons_succ, Option.some.injEq] at hv; subst hv; rw [hB1.cell (by simp <;> omega)]; simp [go_sem]
    | 1, hv => simp only [List.getElem?_cons_zero, List.getElem?_cons_succ, Option.some.injEq] at hv; subst hv; rw [hB1.cell (by simp <;> omega)]; simp [go_sem]
    | 2, hv => simp only [List.getElem?_cons_zero, List.getElem?_cons_succ, Option.some.injEq] at hv; subst hv; rw [hB1.cell (by simp <;> omega)]; simp [go_sem]
    | 3, hv => simp only [List.getElem?_cons_zero, List.getElem?_cons_succ, Option.some.injEq] at hv; subst hv; rw [hB1.cell (by simp <;> omega)]; simp [go_sem]
    | 4, hv => simp only [List.getElem?_cons_zero, List.getElem?_cons_succ, Option.some.injEq] at hv; subst hv; rw [hB1.cell (by simp <;> omega)]; simp [go_sem]
    | 5, hv => simp only [List.getElem?_cons_zero, List.getElem?_cons_succ, Option.some.injEq] at hv; subst hv; rw [hB1.cell (by simp <;> omega)]; simp [go_sem]
    | 6, hv => simp only [List.getElem?_cons_zero, List.getElem?_cons_succ, Option.some.injEq] at hv; subst hv; rw [hB1.cell (by simp <;> omega)]; simp [go_sem]
    | 7, hv => simp only [List.getElem?_cons_zero, List.getElem?_cons_succ, Option.some.injEq] at hv; subst hv; rw [hB1.cell (by simp <;> omega)]; simp [go_sem]
    | 8, hv => simp only [List.getElem?_cons_zero, List.getElem?_cons_succ, Option.some.injEq] at hv; subst hv; rw [hB1.cell (by simp <;> omega)]; simp [go_sem]
    | 9, hv => simp only [List.getElem?_cons_zero, List.getElem?_cons_succ, Option.some.injEq] at hv; subst hv; rw [hB1.cell (by simp <;> omega)]; simp [go_sem]
    | 10, hv => simp only [List.getElem?_cons_zero, List.getElem?_cons_succ, Option.some.injEq] at hv; subst hv; rw [hB1.cell (by simp <;> omega)]; simp [go_sem]
    | 11, hv => simp only [List.getElem?_cons_zero, List.getElem?_cons_succ, Option.some.injEq] at hv; subst hv; rw [hB1.cell (by simp <;> omega)]; simp [go_sem]
    | 12, hv => simp only [List.getElem?_cons_zero, List.getElem?_cons_succ, Option.some.injEq] at hv; subst hv; rw [hB1.cell (by simp <;> omega)]; simp [go_sem]
    | 13, hv => simp only [List.getElem?_cons_zero, List.getElem?_cons_succ, Option.some.injEq] at hv; subst hv; rw [hB1.cell (by simp <;> omega)]; simp [go_sem]
    | 14, hv => simp only [List.getElem?_cons_zero, List.getElem?_cons_succ, Option.some.injEq] at hv; subst hv; rw [hB1.cell (by simp <;> omega)]; simp [go_sem]
    | 15, hv => simp only [List.getElem?_cons_zero, List.getElem?_cons_succ, Option.some.injEq] at hv; subst hv; rw [hB1.cell (by simp <;> omega)]; simp [go_sem]
    | j + 16, hv => simp at hv
  have bb1 : Below w.heap.size w w1 := (BW.out _ _).trans (hB1.mono (by simp <;> omega))
  have hs1 : w.heap.size + 2 ≤ w1.heap.size := by have := hB1.size; simp at this; omega
  clear hB1 BW
  have CA1 := Lib.hid ca; have CB1 := Lib.hid cb; clear ca cb
  have HB0 : Hid (B ≤ w.heap.size) := Lib.hid hB
  clear hB
  generalize hx0 : w.heap.size = x0 at *
  have Hx0 := Lib.hid hx0; clear hx0
  cases b1
  · have Hn : Hid (¬ s = t) := Lib.hid (fun h => by have := hb1.2 (by rw [h]); cases this)
    clear hb1
    go_wp2
    go_ret
    exact ⟨false, by simp [Hn.out], rfl, by rw [Hx0.out]; exact bb1⟩
  have E3 := Lib.hid (hb1.1 rfl); clear hb1
  have p9 := CA1.out 9 _ rfl
  have q9 := CB1.out 9 _ rfl
  simp only [Nat.zero_add] at p9 q9
  go_wp2_with fail
  refine (eqEntryS_any A D c d s.ins t.ins B _ (Sl.below H.out bb1 (by have := HB0.out; omega)) (Sl.below K.out bb1 (by have := HB0.out; omega)) (by have := HB0.out; omega) hl kl).mono ?_
  rintro e w2 ⟨b1, hb1, rfl, hB1⟩
  have CA2 := Lib.hid (CA1.out.below hB1 (by omega))
  have CB2 := Lib.hid (CB1.out.below hB1 (by omega))
  have bb2 : Below x0 w w2 := bb1.trans (hB1.mono (by omega))
  have hs2 : x0 + 2 ≤ w2.heap.size := by have := hB1.size; omega
  clear CA1 CB1 hB1 bb1 hs1 p9 q9
  cases b1
  · have Hn : Hid (¬ s = t) := Lib.hid (fun h => by have := hb1.2 (by rw [h]); cases this)
    clear hb1
    go_wp2
    go_ret
    exact ⟨false, by simp [Hn.out], rfl, by rw [Hx0.out]; exact bb2⟩
  have E4 := Lib.hid (hb1.1 rfl); clear hb1
  have p10 := CA2.out 10 _ rfl
  have q10 := CB2.out 10 _ rfl
  have p11 := CA2.out 11 _ rfl
  have q11 := CB2.out 11 _ rfl
  have p12 := CA2.out 12 _ rfl
  have q12 := CB2.out 12 _ rfl
  have p13 := CA2.out 13 _ rfl
  have q13 := CB2.out 13 _ rfl
  have p14 := CA2.out 14 _ rfl
  have q14 := CB2.out 14 _ rfl
  have p15 := CA2.out 15 _ rfl
  have q15 := CB2.out 15 _ rfl
  simp only [Nat.zero_add] at p10 q10 p11 q11 p12 q12 p13 q13 p14 q14 p15 q15
  go_wp2_with fail
  refine (eqAgg_any s.got t.got _).mono ?_
  rintro e w3 ⟨b1, hb1, rfl, hB1⟩
  have CA3 := Lib.hid (CA2.out.below hB1 (by omega))
  have CB3 := Lib.hid (CB2.out.below hB1 (by omega))
  have bb3 : Below x0 w w3 := bb2.trans (hB1.mono (by omega))
  have hs3 : x0 + 2 ≤ w3.heap.size := by have := hB1.size; omega
  clear CA2 CB2 hB1 bb2 hs2 p10 q10 p11 q11 p12 q12 p13 q13 p14 q14 p15 q15
  cases b1
  · have Hn : Hid (¬ s = t) := Lib.hid (fun h => by have := hb1.2 (by rw [h]); cases this)
    clear hb1
    go_wp2
    go_ret
    exact ⟨false, by simp [Hn.out], rfl, by rw [Hx0.out]; exact bb3⟩
  have E5 := Lib.hid (hb1.1 rfl); clear hb1
  have Hy : Hid (s = t) := Lib.hid (by
    have h0 := E0.out; have h1 := E1.out; have h2 := E2.out; have h3 := E3.out; have h4 := E4.out; have h5 := E5.out
    clear H K CA3 CB3
    cases s; cases t
    simp at h0 h1 h2 h3 h4 h5
    simp [h0, h1, h2, h3, h4, h5])
  go_wp2
  go_ret
  exact ⟨true, by simp [Hy.out], rfl, by rw [Hx0.out]; exact bb3⟩

end Go.Proofs.YtpackpocnonpiaaDoor
