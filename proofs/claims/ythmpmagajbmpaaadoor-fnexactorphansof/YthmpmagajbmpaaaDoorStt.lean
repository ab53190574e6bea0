/-
  Words for states, and contracts of the laws' own helpers on them (sz, to, eq, mark, held). No conditions.
-/
import Derived.Test.YthmpmagajbmpaaaDoorTri3
import Derived.Test.YthmpmagajbmpaaaDoorEntMark
import Derived.Test.YthmpmagajbmpaaaDoorTmbMark
namespace Go.Proofs.YthmpmagajbmpaaaDoor
open Go.ChangeShapes Go.WideShapes Go.ChangeAt Go.RowKit Go.Deep Go.Joins
set_option linter.unusedVariables false
set_option linter.unusedSimpArgs false

/-- a state as data -/
structure GSt where
  sq : Int
  fe : Int
  ents : List GEnt
  tmbs : List GTmb
  lo : GTri
  hi : GTri
deriving DecidableEq

def zSt : GSt := ⟨0, 0, [], [], zTri, zTri⟩

/-- its two lists lie there -/
def StAt (w : World) (B : Nat) (A A2 : Option Addr) (s : GSt) : Prop := EntsAt w B A s.ents ∧ TmbsAt w B A2 s.tmbs

theorem StAt.below {w w' : World} {B B' : Nat} {A A2 : Option Addr} {s : GSt} (h : StAt w B A A2 s) (hb : Below B' w w') (hB : B ≤ B') : StAt w' B A A2 s := ⟨Sl.below h.1 hb hB, Sl.below h.2 hb hB⟩

theorem StAt.more {w : World} {B B' : Nat} {A A2 : Option Addr} {s : GSt} (h : StAt w B A A2 s) (hB : B ≤ B') : StAt w B' A A2 s := ⟨Sl.more h.1 hB, Sl.more h.2 hB⟩

/-- both lists lie in blocks of their own, from x on, that may be written -/
def StOwn (x : Nat) (w : World) (A A2 : Option Addr) : Prop := Free w A ∧ Free w A2 ∧ (∀ b, blk A = some b → x ≤ b ∧ b < w.heap.size) ∧ (∀ b, blk A2 = some b → x ≤ b ∧ b < w.heap.size) ∧ ∀ b, blk A = some b → blk A2 ≠ some b

theorem StOwn.below {x B : Nat} {w w' : World} {A A2 : Option Addr} (h : StOwn x w A A2) (hb : Below B w w') (hB : w.heap.size ≤ B) : StOwn x w' A A2 :=
  ⟨h.1.below hb (fun b e => Nat.lt_of_lt_of_le (h.2.2.1 b e).2 hB), h.2.1.below hb (fun b e => Nat.lt_of_lt_of_le (h.2.2.2.1 b e).2 hB), fun b e => ⟨(h.2.2.1 b e).1, Nat.lt_of_lt_of_le (h.2.2.1 b e).2 hb.size⟩, fun b e => ⟨(h.2.2.2.1 b e).1, Nat.lt_of_lt_of_le (h.2.2.2.1 b e).2 hb.size⟩, h.2.2.2.2⟩

/-- a state is answered, in new memory of its own -/
def NewStt (s : GSt) (w : World) (e : Ending) (w' : World) : Prop :=
  ∃ (A : Option Addr) (c : Nat) (A2 : Option Addr) (c2 : Nat), e = .returned (.agg #[.int .i64 s.sq, .int .i64 s.fe, .slice A s.ents.length c, .slice A2 s.tmbs.length c2, .int .i64 s.lo.a, .int .i64 s.lo.b, .int .i64 s.lo.c, .int .i64 s.hi.a, .int .i64 s.hi.b, .int .i64 s.hi.c]) ∧ StAt w' w'.heap.size A A2 s ∧ StOwn w.heap.size w' A A2 ∧ s.ents.length ≤ c ∧ s.tmbs.length ≤ c2 ∧ Below w.heap.size w w'

theorem Cells.set {w : World} {b o : Nat} {vs : List Value} (h : Cells w b o vs) {k : Nat} (hk : k < vs.length) (u : Value) : Cells (w.setCell ⟨b, o + k, none⟩ u) b o (vs.set k u) := fun j v hv => by
  by_cases e : k = j
  · subst e
    rw [List.getElem?_set_self hk] at hv
    cases hv
    exact cset_eq _ _ _ _ (h k vs[k] (List.getElem?_eq_getElem hk))
  · rw [List.getElem?_set_ne e] at hv
    exact (cset_ne _ _ _ _ _ (by omega)).trans (h j v hv)

theorem sl_putsFar {α : Type} {f : α → List Value} {m B g : Nat} {A : Option Addr} {xs : List α} (hp : ∀ b, blk A = some b → b ≠ g) : ∀ (vs : List Value) (w : World) (i : Nat), Sl f m w B A xs → Sl f m (puts w g i vs) B A xs
  | [], _, _, h => h
  | v :: vs, w, i, h => sl_putsFar hp vs _ (i + 1) (h.far hp v)

theorem free_putsFar {w : World} {A : Option Addr} (h : Free w A) (g i : Nat) (vs : List Value) : Free (puts w g i vs) A := fun b e j => (puts_frozen g _ vs w i).trans (h b e j)

theorem cells_putsFar {b o g : Nat} {us : List Value} (hp : b ≠ g) : ∀ (vs : List Value) (w : World) (i : Nat), Cells w b o us → Cells (puts w g i vs) b o us
  | [], _, _, h => h
  | v :: vs, w, i, h => cells_putsFar hp vs _ (i + 1) (h.far hp v)

theorem puts_belowB {B : Nat} {a : World} (g : Nat) (hg : B ≤ g) : ∀ (vs : List Value) (w : World) (i : Nat), Below B a w → Below B a (puts w g i vs)
  | [], _, _, h => h
  | v :: vs, w, i, h => puts_belowB g hg vs _ (i + 1) (h.setCell hg v)

theorem Cells.ten {w : World} {b : Nat} {v0 v1 v2 v3 v4 v5 v6 v7 v8 v9 : Value} (h : Cells w b 0 [v0, v1, v2, v3, v4, v5, v6, v7, v8, v9]) :
    w.cell? ⟨b, 0, none⟩ = some v0 ∧ w.cell? ⟨b, 1, none⟩ = some v1 ∧ w.cell? ⟨b, 2, none⟩ = some v2 ∧ w.cell? ⟨b, 3, none⟩ = some v3 ∧ w.cell? ⟨b, 4, none⟩ = some v4 ∧ w.cell? ⟨b, 5, none⟩ = some v5 ∧ w.cell? ⟨b, 6, none⟩ = some v6 ∧ w.cell? ⟨b, 7, none⟩ = some v7 ∧ w.cell? ⟨b, 8, none⟩ = some v8 ∧ w.cell? ⟨b, 9, none⟩ = some v9 := ⟨h 0 _ rfl, h 1 _ rfl, h 2 _ rfl, h 3 _ rfl, h 4 _ rfl, h 5 _ rfl, h 6 _ rfl, h 7 _ rfl, h 8 _ rfl, h 9 _ rfl⟩

theorem szState_any (A : Option Addr) (c : Nat) (A2 : Option Addr) (c2 : Nat) (s : GSt) (left : Int) (B : Nat) (w : World) (h : StAt w B A A2 s) (hB : B ≤ w.heap.size) (hf : ∀ o ∈ s.ents, o.fit) (hf2 : ∀ o ∈ s.tmbs, o.fit) (hl : s.ents.length ≤ maxLen) (hl2 : s.tmbs.length ≤ maxLen) (h0 : 0 ≤ left) (h1 : left ≤ 1048576) :
    Calls Tryd.prog 8 #[.agg #[.int .i64 s.sq, .int .i64 s.fe, .slice A s.ents.length c, .slice A2 s.tmbs.length c2, .int .i64 s.lo.a, .int .i64 s.lo.b, .int .i64 s.lo.c, .int .i64 s.hi.a, .int .i64 s.hi.b, .int .i64 s.hi.c], .int .i64 left] w (Left ((s.ents.length ≤ 1048576 ∧ ∀ o ∈ s.ents, o.small) ∧ s.tmbs.length ≤ 1048576 ∧ ∀ o ∈ s.tmbs, o.small) left w) := by
  have H := Lib.hid h; clear h
  have Hf := Lib.hid hf; clear hf
  have Hf2 := Lib.hid hf2; clear hf2
  go_enter Tryd.func8, Tryd.ntmps8
  go_wp2_with fail
  refine (szEntryS_any A c s.ents left B _ (Sl.below H.out.1 (bal (Below.refl _ _) _) hB) (by simp; omega) Hf.out hl h0 h1).mono ?_
  rintro e w1 ⟨u, hu, hu1, hu2, rfl, hb1⟩
  have c3 : w1.cell? ⟨w.heap.size, 3, none⟩ = some (.slice A2 s.tmbs.length c2) := by rw [hb1.cell (by simp)]; simp [go_sem]
  have hb2 : Below w.heap.size w w1 := (bal (Below.refl _ _) _).trans (hb1.mono (by simp))
  have Hu := Lib.hid hu; clear hu hb1
  by_cases g1 : u < 0
  · have d2 : decide (u < 0) = true := by simpa using g1
    go_wp2
    go_ret
    exact ⟨-1, fun h => by omega, by omega, by omega, rfl, hb2⟩
  · have d2 : decide (u < 0) = false := by simpa using g1
    obtain ⟨hP, hle⟩ := Hu.out (by omega)
    have HP := Lib.hid hP; clear hP
    go_wp2_with fail
    refine (szTombS_any A2 c2 s.tmbs u B _ (Sl.below H.out.2 hb2 hB) (by have := hb2.size; omega) Hf2.out hl2 (by omega) (by omega)).mono ?_
    rintro e w2 ⟨v, hv, hv1, hv2, rfl, hb3⟩
    have hb4 := bnext hb2 hb3
    have Hv := Lib.hid hv; clear hv hb3 c3
    by_cases g2 : v < 0
    · have d3 : decide (v < 0) = true := by simpa using g2
      go_wp2
      go_ret
      exact ⟨-1, fun h => by omega, by omega, by omega, rfl, hb4⟩
    · have d3 : decide (v < 0) = false := by simpa using g2
      obtain ⟨hQ, hle2⟩ := Hv.out (by omega)
      have HQ := Lib.hid hQ; clear hQ
      go_wp2
      go_ret
      exact ⟨v, fun h => ⟨⟨HP.out, HQ.out⟩, by omega⟩, hv1, hv2, rfl, hb4⟩

set_option maxRecDepth 100000 in
set_option maxHeartbeats 1000000 in
theorem toState_any (A : Option Addr) (c : Nat) (A2 : Option Addr) (c2 : Nat) (s : GSt) (B : Nat) (w : World) (h : StAt w B A A2 s) (hB : B ≤ w.heap.size) (hl : s.ents.length ≤ 1048576) (hl2 : s.tmbs.length ≤ 1048576) :
    Calls Tryd.prog 10 #[.agg #[.int .i64 s.sq, .int .i64 s.fe, .slice A s.ents.length c, .slice A2 s.tmbs.length c2, .int .i64 s.lo.a, .int .i64 s.lo.b, .int .i64 s.lo.c, .int .i64 s.hi.a, .int .i64 s.hi.b, .int .i64 s.hi.c]] w (NewStt s w) := by
  have H := Lib.hid h; clear h
  go_enter Tryd.func10, Tryd.ntmps10
  go_wp2_with fail
  refine (toEntryS_any A c s.ents B _ (Sl.below H.out.1 (by repeat' first | exact Below.refl _ _ | refine bal ?_ _ | refine bset ?_ (by simp) _) hB) (by simp; omega) hl).mono ?_
  rintro e w1 ⟨A1, c1, rfl, ho, hf, hbl, hc, hb1⟩
  have ca : Cells w1 w.heap.size 0 [.int .i64 s.sq, .int .i64 s.fe, .slice A s.ents.length c, .slice A2 s.tmbs.length c2, .int .i64 s.lo.a, .int .i64 s.lo.b, .int .i64 s.lo.c, .int .i64 s.hi.a, .int .i64 s.hi.b, .int .i64 s.hi.c] := fun j v hv => by
    rw [Nat.zero_add]
    match j, hv with
    | 0, hv => simp only [List.getElem?_cons_zero, List.getElem?_cons_succ, Option.some.injEq] at hv; subst hv; rw [hb1.cell (by simp <;> omega)]; simp [go_sem]
    | 1, hv => simp only [List.getElem?_cons_zero, List.getElem?_cons_succ, Option.some.injEq] at hv; subst hv; rw [hb1.cell (by simp <;> omega)]; simp [go_sem]
    | 2, hv => simp only [List.getElem?_cons_zero, List.getElem?_cons_succ, Option.some.injEq] at hv; subst hv; rw [hb1.cell (by simp <;> omega)]; simp [go_sem]
    | 3, hv => simp only [List.getElem?_cons_zero, List.getElem?_cons_succ, Option.some.injEq] at hv; subst hv; rw [hb1.cell (by simp <;> omega)]; simp [go_sem]
    | 4, hv => simp only [List.getElem?_cons_zero, List.getElem?_cons_succ, Option.some.injEq] at hv; subst hv; rw [hb1.cell (by simp <;> omega)]; simp [go_sem]
    | 5, hv => simp only [List.getElem?_cons_zero, List.getElem?_cons_succ, Option.some.injEq] at hv; subst hv; rw [hb1.cell (by simp <;> omega)]; simp [go_sem]
    | 6, hv => simp only [List.getElem?_cons_zero, List.getElem?_cons_succ, Option.some.injEq] at hv; subst hv; rw [hb1.cell (by simp <;> omega)]; simp [go_sem]
    | 7, hv => simp only [List.getElem?_cons_zero, List.getElem?_cons_succ, Option.some.injEq] at hv; subst hv; rw [hb1.cell (by simp <;> omega)]; simp [go_sem]
    | 8, hv => simp only [List.getElem?_cons_zero, List.getElem?_cons_succ, Option.some.injEq] at hv; subst hv; rw [hb1.cell (by simp <;> omega)]; simp [go_sem]
    | 9, hv => simp only [List.getElem?_cons_zero, List.getElem?_cons_succ, Option.some.injEq] at hv; subst hv; rw [hb1.cell (by simp <;> omega)]; simp [go_sem]
    | j + 10, hv => simp at hv
  have cz : Cells w1 (w.heap.size + 1) 0 [.int .i64 0, .int .i64 0, .slice none 0 0, .slice none 0 0, .int .i64 0, .int .i64 0, .int .i64 0, .int .i64 0, .int .i64 0, .int .i64 0] := fun j v hv => by
    rw [Nat.zero_add]
    match j, hv with
    | 0, hv => simp only [List.getElem?_cons_zero, List.getElem?_cons_succ, Option.some.injEq] at hv; subst hv; rw [hb1.cell (by simp <;> omega)]; simp [go_sem]
    | 1, hv => simp only [List.getElem?_cons_zero, List.getElem?_cons_succ, Option.some.injEq] at hv; subst hv; rw [hb1.cell (by simp <;> omega)]; simp [go_sem]
    | 2, hv => simp only [List.getElem?_cons_zero, List.getElem?_cons_succ, Option.some.injEq] at hv; subst hv; rw [hb1.cell (by simp <;> omega)]; simp [go_sem]
    | 3, hv => simp only [List.getElem?_cons_zero, List.getElem?_cons_succ, Option.some.injEq] at hv; subst hv; rw [hb1.cell (by simp <;> omega)]; simp [go_sem]
    | 4, hv => simp only [List.getElem?_cons_zero, List.getElem?_cons_succ, Option.some.injEq] at hv; subst hv; rw [hb1.cell (by simp <;> omega)]; simp [go_sem]
    | 5, hv => simp only [List.getElem?_cons_zero, List.getElem?_cons_succ, Option.some.injEq] at hv; subst hv; rw [hb1.cell (by simp <;> omega)]; simp [go_sem]
    | 6, hv => simp only [List.getElem?_cons_zero, List.getElem?_cons_succ, Option.some.injEq] at hv; subst hv; rw [hb1.cell (by simp <;> omega)]; simp [go_sem]
    | 7, hv => simp only [List.getElem?_cons_zero, List.getElem?_cons_succ, Option.some.injEq] at hv; subst hv; rw [hb1.cell (by simp <;> omega)]; simp [go_sem]
    | 8, hv => simp only [List.getElem?_cons_zero, List.getElem?_cons_succ, Option.some.injEq] at hv; subst hv; rw [hb1.cell (by simp <;> omega)]; simp [go_sem]
    | 9, hv => simp only [List.getElem?_cons_zero, List.getElem?_cons_succ, Option.some.injEq] at hv; subst hv; rw [hb1.cell (by simp <;> omega)]; simp [go_sem]
    | j + 10, hv => simp at hv
  have co : Cells w1 (w.heap.size + 1 + 1) 0 [.int .i64 s.sq, .int .i64 s.fe, .slice none 0 0, .slice none 0 0, .int .i64 0, .int .i64 0, .int .i64 0, .int .i64 0, .int .i64 0, .int .i64 0] := fun j v hv => by
    rw [Nat.zero_add]
    match j, hv with
    | 0, hv => simp only [List.getElem?_cons_zero, List.getElem?_cons_succ, Option.some.injEq] at hv; subst hv; rw [hb1.cell (by simp <;> omega)]; simp [go_sem]
    | 1, hv => simp only [List.getElem?_cons_zero, List.getElem?_cons_succ, Option.some.injEq] at hv; subst hv; rw [hb1.cell (by simp <;> omega)]; simp [go_sem]
    | 2, hv => simp only [List.getElem?_cons_zero, List.getElem?_cons_succ, Option.some.injEq] at hv; subst hv; rw [hb1.cell (by simp <;> omega)]; simp [go_sem]
    | 3, hv => simp only [List.getElem?_cons_zero, List.getElem?_cons_succ, Option.some.injEq] at hv; subst hv; rw [hb1.cell (by simp <;> omega)]; simp [go_sem]
    | 4, hv => simp only [List.getElem?_cons_zero, List.getElem?_cons_succ, Option.some.injEq] at hv; subst hv; rw [hb1.cell (by simp <;> omega)]; simp [go_sem]
    | 5, hv => simp only [List.getElem?_cons_zero, List.getElem?_cons_succ, Option.some.injEq] at hv; subst hv; rw [hb1.cell (by simp <;> omega)]; simp [go_sem]
    | 6, hv => simp only [List.getElem?_cons_zero, List.getElem?_cons_succ, Option.some.injEq] at hv; subst hv; rw [hb1.cell (by simp <;> omega)]; simp [go_sem]
    | 7, hv => simp only [List.getElem?_cons_zero, List.getElem?_cons_succ, Option.some.injEq] at hv; subst hv; rw [hb1.cell (by simp <;> omega)]; simp [go_sem]
    | 8, hv => simp only [List.getElem?_cons_zero, List.getElem?_cons_succ, Option.some.injEq] at hv; subst hv; rw [hb1.cell (by simp <;> omega)]; simp [go_sem]
    | 9, hv => simp only [List.getElem?_cons_zero, List.getElem?_cons_succ, Option.some.injEq] at hv; subst hv; rw [hb1.cell (by simp <;> omega)]; simp [go_sem]
    | j + 10, hv => simp at hv
  have fz : ∀ i, w1.frozen? ⟨w.heap.size + 1, i, none⟩ = false := fun i => by rw [hb1.frozen (by simp <;> omega)]; simp [go_sem]
  have fo : ∀ i, w1.frozen? ⟨w.heap.size + 1 + 1, i, none⟩ = false := fun i => by rw [hb1.frozen (by simp <;> omega)]; simp [go_sem]
  have hsz : w.heap.size + 3 ≤ w1.heap.size := by have := hb1.size; simp at this; omega
  have hbw : Below w.heap.size w w1 := by
    refine Below.trans ?_ (hb1.mono ?_)
    · repeat' first | exact Below.refl _ _ | refine bal ?_ _ | refine bset ?_ (by simp) _
    · simp <;> omega
  have hbl1 : ∀ b, blk A1 = some b → w.heap.size + 3 ≤ b ∧ b < w1.heap.size := fun b e => ⟨by have := (hbl b e).1; simp at this; omega, (hbl b e).2⟩
  have HO := Lib.hid ho; have HF := Lib.hid hf; have HL := Lib.hid hbl1
  have HH : Hid (∀ w', Below w.heap.size w w' → TmbsAt w' B A2 s.tmbs) := Lib.hid (fun w' h => Sl.below H.out.2 h hB)
  clear ho hf hbl hbl1 hb1 H
  have HB0 : Hid (B ≤ w.heap.size) := Lib.hid hB
  clear hB
  generalize hx0 : w.heap.size = x0 at *
  have Hx0 := Lib.hid hx0; clear hx0
  have o2 := co 2 _ rfl
  have g2 := fo 2
  have p3 := ca 3 _ rfl
  simp only [Nat.zero_add] at o2 p3
  have CA := Lib.hid ca; have CZ := Lib.hid cz; have CO := Lib.hid co; have FZ := Lib.hid fz; have FO := Lib.hid fo
  clear ca cz co fz fo
  go_wp2_with fail
  have hbv1 : Below x0 w (w1.setCell ⟨x0 + 1 + 1, 2, none⟩ (.slice A1 s.ents.length c1)) := hbw.setCell (by show x0 ≤ x0 + 1 + 1; omega) _
  refine (toTombS_any A2 c2 s.tmbs B _ (HH.out _ hbv1) (by rw [size_setCell]; have := HB0.out; omega) hl2).mono ?_
  rintro e w2 ⟨A3, c3, rfl, ho2, hf2, hbl2, hc2, hb2⟩
  rw [size_setCell] at hb2 hbl2
  have hs2 : w1.heap.size ≤ w2.heap.size := by have := hb2.size; rw [size_setCell] at this; exact this
  have CA2 : Hid (Cells w2 x0 0 [.int .i64 s.sq, .int .i64 s.fe, .slice A s.ents.length c, .slice A2 s.tmbs.length c2, .int .i64 s.lo.a, .int .i64 s.lo.b, .int .i64 s.lo.c, .int .i64 s.hi.a, .int .i64 s.hi.b, .int .i64 s.hi.c]) := Lib.hid ((CA.out.far (by show x0 ≠ x0 + 1 + 1; omega) _).below hb2 (by omega))
  have CZ2 : Hid (Cells w2 (x0 + 1) 0 [.int .i64 0, .int .i64 0, .slice none 0 0, .slice none 0 0, .int .i64 0, .int .i64 0, .int .i64 0, .int .i64 0, .int .i64 0, .int .i64 0]) := Lib.hid ((CZ.out.far (by show x0 + 1 ≠ x0 + 1 + 1; omega) _).below hb2 (by omega))
  have CO2 : Hid (Cells w2 (x0 + 1 + 1) 0 [.int .i64 s.sq, .int .i64 s.fe, .slice A1 s.ents.length c1, .slice none 0 0, .int .i64 0, .int .i64 0, .int .i64 0, .int .i64 0, .int .i64 0, .int .i64 0]) := Lib.hid ((by simpa using CO.out.set (k := 2) (by simp) (.slice A1 s.ents.length c1) : Cells (w1.setCell ⟨x0 + 1 + 1, 2, none⟩ (.slice A1 s.ents.length c1)) (x0 + 1 + 1) 0 [.int .i64 s.sq, .int .i64 s.fe, .slice A1 s.ents.length c1, .slice none 0 0, .int .i64 0, .int .i64 0, .int .i64 0, .int .i64 0, .int .i64 0, .int .i64 0]).below hb2 (by omega))
  have FZ2 : Hid (∀ i, w2.frozen? ⟨x0 + 1, i, none⟩ = false) := Lib.hid (fun i => (hb2.frozen (p := ⟨x0 + 1, i, none⟩) (by show x0 + 1 < _; omega)).trans ((frozen_setCell _ _ _ _).trans (FZ.out i)))
  have FO2 : Hid (∀ i, w2.frozen? ⟨x0 + 1 + 1, i, none⟩ = false) := Lib.hid (fun i => (hb2.frozen (p := ⟨x0 + 1 + 1, i, none⟩) (by show x0 + 1 + 1 < _; omega)).trans ((frozen_setCell _ _ _ _).trans (FO.out i)))
  have HO2 : Hid (EntsAt w2 w1.heap.size A1 s.ents) := Lib.hid (Sl.below (Sl.far HO.out (fun b e => by have := (HL.out b e).1; show b ≠ x0 + 1 + 1; omega) _) hb2 (Nat.le_refl _))
  have HF2 : Hid (Free w2 A1) := Lib.hid ((HF.out.setCell _ _).below hb2 (fun b e => (HL.out b e).2))
  have hbw2 : Below x0 w w2 := hbv1.trans (hb2.mono (by omega))
  have HO3 := Lib.hid ho2; have HF3 := Lib.hid hf2; have HL3 := Lib.hid hbl2
  clear ho2 hf2 hbl2 CA CZ CO FZ FO HO HF hbw hbv1 HH o2 g2 p3 hb2
  have o3 := CO2.out 3 _ rfl
  have g3 := FO2.out 3
  have p4 := CA2.out 4 _ rfl
  have p5 := CA2.out 5 _ rfl
  have p6 := CA2.out 6 _ rfl
  simp only [Nat.zero_add] at o3 p4 p5 p6
  go_wp2_with fail
  have hbv2 : Below x0 w (w2.setCell ⟨x0 + 1 + 1, 3, none⟩ (.slice A3 s.tmbs.length c3)) := hbw2.setCell (by show x0 ≤ x0 + 1 + 1; omega) _
  refine (toIntA3_any s.lo _).mono ?_
  rintro e w3 ⟨rfl, hb3⟩
  rw [size_setCell] at hb3
  have hs3 : w2.heap.size ≤ w3.heap.size := by have := hb3.size; rw [size_setCell] at this; exact this
  have CA3 : Hid (Cells w3 x0 0 [.int .i64 s.sq, .int .i64 s.fe, .slice A s.ents.length c, .slice A2 s.tmbs.length c2, .int .i64 s.lo.a, .int .i64 s.lo.b, .int .i64 s.lo.c, .int .i64 s.hi.a, .int .i64 s.hi.b, .int .i64 s.hi.c]) := Lib.hid ((CA2.out.far (by show x0 ≠ x0 + 1 + 1; omega) _).below hb3 (by omega))
  have CZ3 : Hid (Cells w3 (x0 + 1) 0 [.int .i64 0, .int .i64 0, .slice none 0 0, .slice none 0 0, .int .i64 0, .int .i64 0, .int .i64 0, .int .i64 0, .int .i64 0, .int .i64 0]) := Lib.hid ((CZ2.out.far (by show x0 + 1 ≠ x0 + 1 + 1; omega) _).below hb3 (by omega))
  have CO3 : Hid (Cells w3 (x0 + 1 + 1) 0 [.int .i64 s.sq, .int .i64 s.fe, .slice A1 s.ents.length c1, .slice A3 s.tmbs.length c3, .int .i64 0, .int .i64 0, .int .i64 0, .int .i64 0, .int .i64 0, .int .i64 0]) := Lib.hid ((by simpa using CO2.out.set (k := 3) (by simp) (.slice A3 s.tmbs.length c3) : Cells (w2.setCell ⟨x0 + 1 + 1, 3, none⟩ (.slice A3 s.tmbs.length c3)) (x0 + 1 + 1) 0 [.int .i64 s.sq, .int .i64 s.fe, .slice A1 s.ents.length c1, .slice A3 s.tmbs.length c3, .int .i64 0, .int .i64 0, .int .i64 0, .int .i64 0, .int .i64 0, .int .i64 0]).below hb3 (by omega))
  have FZ3 : Hid (∀ i, w3.frozen? ⟨x0 + 1, i, none⟩ = false) := Lib.hid (fun i => (hb3.frozen (p := ⟨x0 + 1, i, none⟩) (by show x0 + 1 < _; omega)).trans ((frozen_setCell _ _ _ _).trans (FZ2.out i)))
  have FO3 : Hid (∀ i, w3.frozen? ⟨x0 + 1 + 1, i, none⟩ = false) := Lib.hid (fun i => (hb3.frozen (p := ⟨x0 + 1 + 1, i, none⟩) (by show x0 + 1 + 1 < _; omega)).trans ((frozen_setCell _ _ _ _).trans (FO2.out i)))
  have HO4 : Hid (EntsAt w3 w1.heap.size A1 s.ents) := Lib.hid (Sl.below (Sl.far HO2.out (fun b e => by have := (HL.out b e).1; show b ≠ x0 + 1 + 1; omega) _) hb3 hs2)
  have HF4 : Hid (Free w3 A1) := Lib.hid ((HF2.out.setCell _ _).below hb3 (fun b e => Nat.lt_of_lt_of_le (HL.out b e).2 hs2))
  have HO5 : Hid (TmbsAt w3 w2.heap.size A3 s.tmbs) := Lib.hid (Sl.below (Sl.far HO3.out (fun b e => by have := (HL3.out b e).1; show b ≠ x0 + 1 + 1; omega) _) hb3 (Nat.le_refl _))
  have HF5 : Hid (Free w3 A3) := Lib.hid ((HF3.out.setCell _ _).below hb3 (fun b e => (HL3.out b e).2))
  have hbw3 : Below x0 w w3 := hbv2.trans (hb3.mono (by omega))
  clear CA2 CZ2 CO2 FZ2 FO2 HO2 HF2 HO3 HF3 hbw2 hbv2 o3 g3 p4 p5 p6 hb3
  have o4 := CO3.out 4 _ rfl
  have o5 := CO3.out 5 _ rfl
  have o6 := CO3.out 6 _ rfl
  have g4 := FO3.out 4
  have g5 := FO3.out 5
  have g6 := FO3.out 6
  have p7 := CA3.out 7 _ rfl
  have p8 := CA3.out 8 _ rfl
  have p9 := CA3.out 9 _ rfl
  simp only [Nat.zero_add] at o4 o5 o6 p7 p8 p9
  go_wp2_with fail
  have e3 : ((w3.setCell ⟨x0 + 1 + 1, 4, none⟩ (.int .i64 s.lo.a)).setCell ⟨x0 + 1 + 1, 5, none⟩ (.int .i64 s.lo.b)).setCell ⟨x0 + 1 + 1, 6, none⟩ (.int .i64 s.lo.c) = puts w3 (x0 + 1 + 1) 4 [.int .i64 s.lo.a, .int .i64 s.lo.b, .int .i64 s.lo.c] := rfl
  rw [e3]
  have hbv3 : Below x0 w (puts w3 (x0 + 1 + 1) 4 [.int .i64 s.lo.a, .int .i64 s.lo.b, .int .i64 s.lo.c]) := puts_belowB _ (by omega) _ _ _ hbw3
  refine (toIntA3_any s.hi _).mono ?_
  rintro e w4 ⟨rfl, hb4⟩
  rw [puts_size] at hb4
  have hs4 : w3.heap.size ≤ w4.heap.size := by have := hb4.size; rw [puts_size] at this; exact this
  have CZ4 : Hid (Cells w4 (x0 + 1) 0 [.int .i64 0, .int .i64 0, .slice none 0 0, .slice none 0 0, .int .i64 0, .int .i64 0, .int .i64 0, .int .i64 0, .int .i64 0, .int .i64 0]) := Lib.hid ((cells_putsFar (by omega) _ _ _ CZ3.out).below hb4 (by omega))
  have CO4 : Hid (Cells w4 (x0 + 1 + 1) 0 [.int .i64 s.sq, .int .i64 s.fe, .slice A1 s.ents.length c1, .slice A3 s.tmbs.length c3, .int .i64 s.lo.a, .int .i64 s.lo.b, .int .i64 s.lo.c, .int .i64 0, .int .i64 0, .int .i64 0]) := Lib.hid ((by
    have h1 := CO3.out.set (k := 4) (by simp) (.int .i64 s.lo.a)
    have h2 := h1.set (k := 5) (by simp) (.int .i64 s.lo.b)
    have h3 := h2.set (k := 6) (by simp) (.int .i64 s.lo.c)
    simpa [puts] using h3 : Cells (puts w3 (x0 + 1 + 1) 4 [.int .i64 s.lo.a, .int .i64 s.lo.b, .int .i64 s.lo.c]) (x0 + 1 + 1) 0 [.int .i64 s.sq, .int .i64 s.fe, .slice A1 s.ents.length c1, .slice A3 s.tmbs.length c3, .int .i64 s.lo.a, .int .i64 s.lo.b, .int .i64 s.lo.c, .int .i64 0, .int .i64 0, .int .i64 0]).below hb4 (by omega))
  have FZ4 : Hid (∀ i, w4.frozen? ⟨x0 + 1, i, none⟩ = false) := Lib.hid (fun i => (hb4.frozen (p := ⟨x0 + 1, i, none⟩) (by show x0 + 1 < _; omega)).trans ((puts_frozen _ _ _ _ _).trans (FZ3.out i)))
  have FO4 : Hid (∀ i, w4.frozen? ⟨x0 + 1 + 1, i, none⟩ = false) := Lib.hid (fun i => (hb4.frozen (p := ⟨x0 + 1 + 1, i, none⟩) (by show x0 + 1 + 1 < _; omega)).trans ((puts_frozen _ _ _ _ _).trans (FO3.out i)))
  have HO6 : Hid (EntsAt w4 w1.heap.size A1 s.ents) := Lib.hid (Sl.below (sl_putsFar (fun b e => by have := (HL.out b e).1; omega) _ _ _ HO4.out) hb4 (by omega))
  have HF6 : Hid (Free w4 A1) := Lib.hid ((free_putsFar HF4.out _ _ _).below hb4 (fun b e => by have := (HL.out b e).2; omega))
  have HO7 : Hid (TmbsAt w4 w2.heap.size A3 s.tmbs) := Lib.hid (Sl.below (sl_putsFar (fun b e => by have := (HL3.out b e).1; omega) _ _ _ HO5.out) hb4 (by omega))
  have HF7 : Hid (Free w4 A3) := Lib.hid ((free_putsFar HF5.out _ _ _).below hb4 (fun b e => by have := (HL3.out b e).2; omega))
  have hbw4 : Below x0 w w4 := hbv3.trans (hb4.mono (by omega))
  clear CA3 CZ3 CO3 FZ3 FO3 HO4 HF4 HO5 HF5 hbw3 hbv3 o4 o5 o6 g4 g5 g6 p7 p8 p9 hb4 e3
  have o0 := CO4.out 0 _ rfl
  have o1 := CO4.out 1 _ rfl
  have o2 := CO4.out 2 _ rfl
  have o3 := CO4.out 3 _ rfl
  have o4 := CO4.out 4 _ rfl
  have o5 := CO4.out 5 _ rfl
  have o6 := CO4.out 6 _ rfl
  have o7 := CO4.out 7 _ rfl
  have o8 := CO4.out 8 _ rfl
  have o9 := CO4.out 9 _ rfl
  have g7 := FO4.out 7
  have g8 := FO4.out 8
  have g9 := FO4.out 9
  have z0 := CZ4.out 0 _ rfl
  have z1 := CZ4.out 1 _ rfl
  have z2 := CZ4.out 2 _ rfl
  have z3 := CZ4.out 3 _ rfl
  have z4 := CZ4.out 4 _ rfl
  have z5 := CZ4.out 5 _ rfl
  have z6 := CZ4.out 6 _ rfl
  have z7 := CZ4.out 7 _ rfl
  have z8 := CZ4.out 8 _ rfl
  have z9 := CZ4.out 9 _ rfl
  have y0 := FZ4.out 0
  have y1 := FZ4.out 1
  have y2 := FZ4.out 2
  have y3 := FZ4.out 3
  have y4 := FZ4.out 4
  have y5 := FZ4.out 5
  have y6 := FZ4.out 6
  have y7 := FZ4.out 7
  have y8 := FZ4.out 8
  have y9 := FZ4.out 9
  simp only [Nat.zero_add] at o0 o1 o2 o3 o4 o5 o6 o7 o8 o9 z0 z1 z2 z3 z4 z5 z6 z7 z8 z9
  go_wp2
  refine bodyPost_ret (v := .agg #[.int .i64 s.sq, .int .i64 s.fe, .slice A1 s.ents.length c1, .slice A3 s.tmbs.length c3, .int .i64 s.lo.a, .int .i64 s.lo.b, .int .i64 s.lo.c, .int .i64 s.hi.a, .int .i64 s.hi.b, .int .i64 s.hi.c]) (by simp [results, Tryd.results10, go_sem, *]) rfl ⟨A1, c1, A3, c3, rfl, ?_⟩
  obtain ⟨w5, hw5⟩ : ∃ w5, w5 = puts (puts w4 (x0 + 1 + 1) 7 [.int .i64 s.hi.a, .int .i64 s.hi.b, .int .i64 s.hi.c]) (x0 + 1) 0 [.int .i64 s.sq, .int .i64 s.fe, .slice A1 s.ents.length c1, .slice A3 s.tmbs.length c3, .int .i64 s.lo.a, .int .i64 s.lo.b, .int .i64 s.lo.c, .int .i64 s.hi.a, .int .i64 s.hi.b, .int .i64 s.hi.c] := ⟨_, rfl⟩
  have hz5 : w5.heap.size = w4.heap.size := by rw [hw5, puts_size, puts_size]
  have hb5 : Below x0 w w5 := by rw [hw5]; exact puts_belowB _ (by omega) _ _ _ (puts_belowB _ (by omega) _ _ _ hbw4)
  have hE5 : EntsAt w5 w1.heap.size A1 s.ents := by rw [hw5]; exact sl_putsFar (fun b e => by have := (HL.out b e).1; omega) _ _ _ (sl_putsFar (fun b e => by have := (HL.out b e).1; omega) _ _ _ HO6.out)
  have hT5 : TmbsAt w5 w2.heap.size A3 s.tmbs := by rw [hw5]; exact sl_putsFar (fun b e => by have := (HL3.out b e).1; omega) _ _ _ (sl_putsFar (fun b e => by have := (HL3.out b e).1; omega) _ _ _ HO7.out)
  have hF5 : Free w5 A1 := by rw [hw5]; exact free_putsFar (free_putsFar HF6.out _ _ _) _ _ _
  have hG5 : Free w5 A3 := by rw [hw5]; exact free_putsFar (free_putsFar HF7.out _ _ _) _ _ _
  have fin : StAt w5 w5.heap.size A1 A3 s ∧ StOwn x0 w5 A1 A3 ∧ s.ents.length ≤ c1 ∧ s.tmbs.length ≤ c3 ∧ Below x0 w w5 :=
    ⟨⟨Sl.more hE5 (by omega), Sl.more hT5 (by omega)⟩, ⟨hF5, hG5, fun b e => by have := HL.out b e; omega, fun b e => by have := HL3.out b e; omega, fun b e e' => by have h1 := HL.out b e; have h2 := HL3.out b e'; omega⟩, hc, hc2, hb5⟩
  rw [hw5] at fin
  rw [Hx0.out]
  exact fin

set_option maxRecDepth 100000 in
theorem eqState_any (A : Option Addr) (c : Nat) (A2 : Option Addr) (c2 : Nat) (D : Option Addr) (d : Nat) (D2 : Option Addr) (d2 : Nat) (s t : GSt) (B : Nat) (w : World) (h : StAt w B A A2 s) (k : StAt w B D D2 t) (hB : B ≤ w.heap.size)
    (hl : s.ents.length ≤ 4611686018427387904) (hl2 : s.tmbs.length ≤ 4611686018427387904) (kl : t.ents.length ≤ 4611686018427387904) (kl2 : t.tmbs.length ≤ 4611686018427387904) :
    Calls Tryd.prog 12 #[.agg #[.int .i64 s.sq, .int .i64 s.fe, .slice A s.ents.length c, .slice A2 s.tmbs.length c2, .int .i64 s.lo.a, .int .i64 s.lo.b, .int .i64 s.lo.c, .int .i64 s.hi.a, .int .i64 s.hi.b, .int .i64 s.hi.c], .agg #[.int .i64 t.sq, .int .i64 t.fe, .slice D t.ents.length d, .slice D2 t.tmbs.length d2, .int .i64 t.lo.a, .int .i64 t.lo.b, .int .i64 t.lo.c, .int .i64 t.hi.a, .int .i64 t.hi.b, .int .i64 t.hi.c]] w (IsBB (s = t) w) := by
  have Bw : ∀ o1 o2, Below w.heap.size w ((w.alloc o1).alloc o2) := fun o1 o2 => bal (bal (Below.refl _ _) _) _
  have BW := Lib.hid Bw; clear Bw
  have H := Lib.hid h; clear h
  have K := Lib.hid k; clear k
  by_cases e0 : s.sq = t.sq
  rotate_left
  · have u0 : (s.sq != t.sq) = true := by simpa using e0
    have u1 : (s.sq == t.sq) = false := by simpa using e0
    have Hn : Hid (¬ s = t) := Lib.hid (fun h => e0 (by rw [h]))
    clear e0
    go_enter Tryd.func12, Tryd.ntmps12
    go_wp2
    go_ret
    exact ⟨false, by simp [Hn.out], rfl, BW.out _ _⟩
  by_cases e1 : s.fe = t.fe
  rotate_left
  · have u0 : (s.sq != t.sq) = false := by simpa using e0
    have u1 : (s.sq == t.sq) = true := by simpa using e0
    have u2 : (s.fe != t.fe) = true := by simpa using e1
    have u3 : (s.fe == t.fe) = false := by simpa using e1
    have Hn : Hid (¬ s = t) := Lib.hid (fun h => e1 (by rw [h]))
    clear e0 e1
    go_enter Tryd.func12, Tryd.ntmps12
    go_wp2
    go_ret
    exact ⟨false, by simp [Hn.out], rfl, BW.out _ _⟩
  have u0 : (s.sq != t.sq) = false := by simpa using e0
  have u1 : (s.sq == t.sq) = true := by simpa using e0
  have u2 : (s.fe != t.fe) = false := by simpa using e1
  have u3 : (s.fe == t.fe) = true := by simpa using e1
  have E0 := Lib.hid e0; have E1 := Lib.hid e1
  clear e0 e1
  go_enter Tryd.func12, Tryd.ntmps12
  go_wp2_with fail
  refine (eqEntryS_any A D c d s.ents t.ents B _ (Sl.below H.out.1 (BW.out _ _) hB) (Sl.below K.out.1 (BW.out _ _) hB) (by simp; omega) hl kl).mono ?_
  rintro e w1 ⟨b1, hb1, rfl, hB1⟩
  have ca : Cells w1 w.heap.size 0 [.int .i64 s.sq, .int .i64 s.fe, .slice A s.ents.length c, .slice A2 s.tmbs.length c2, .int .i64 s.lo.a, .int .i64 s.lo.b, .int .i64 s.lo.c, .int .i64 s.hi.a, .int .i64 s.hi.b, .int .i64 s.hi.c] := fun j v hv => by
    rw [Nat.zero_add]
    match j, hv with
    | 0, hv => simp only [List.getElem?_cons_zero, List.getElem?_cons_succ, Option.some.injEq] at hv; subst hv; rw [hB1.cell (by simp <;> omega)]; simp [go_sem]
    | 1, hv => simp only [List.getElem?_cons_zero, List.getElem?_cons_succ, Option.some.injEq] at hv; subst hv; rw [hB1.cell (by simp <;> omega)]; simp [go_sem]
    | 2, hv => simp only [List.getElem?_cons_zero, List.getElem?_cons_succ, Option.some.injEq] at hv; subst hv; rw [hB1.cell (by simp <;> omega)]; simp [go_sem]
    | 3, hv => simp only [List.getElem?_cons_zero, List.getElem?_cons_succ, Option.some.injEq] at hv; subst hv; rw [hB1.cell (by simp <;> omega)]; simp [go_sem]
    | 4, hv => simp only [List.getElem?_cons_zero, List.getElem?_cons_succ, Option.some.injEq] at hv; subst hv; rw [hB1.cell (by simp <;> omega)]; simp [go_sem]
    | 5, hv => simp only [List.getElem?_cons_zero, List.getElem?_cons_succ, Option.some.injEq] at hv; subst hv; rw [hB1.cell (by simp <;> omega)]; simp [go_sem]
    | 6, hv => simp only [List.getElem?_cons_zero, List.getElem?_cons_succ, Option.some.injEq] at hv; subst hv; rw [hB1.cell (by simp <;> omega)]; simp [go_sem]
    | 7, hv => simp only [List.getElem?_cons_zero, List.getElem?_cons_succ, Option.some.injEq] at hv; subst hv; rw [hB1.cell (by simp <;> omega)]; simp [go_sem]
    | 8, hv => simp only [List.getElem?_cons_zero, List.getElem?_cons_succ, Option.some.injEq] at hv; subst hv; rw [hB1.cell (by simp <;> omega)]; simp [go_sem]
    | 9, hv => simp only [List.getElem?_cons_zero, List.getElem?_cons_succ, Option.some.injEq] at hv; subst hv; rw [hB1.cell (by simp <;> omega)]; simp [go_sem]
    | j + 10, hv => simp at hv
  have cb : Cells w1 (w.heap.size + 1) 0 [.int .i64 t.sq, .int .i64 t.fe, .slice D t.ents.length d, .slice D2 t.tmbs.length d2, .int .i64 t.lo.a, .int .i64 t.lo.b, .int .i64 t.lo.c, .int .i64 t.hi.a, .int .i64 t.hi.b, .int .i64 t.hi.c] := fun j v hv => by
    rw [Nat.zero_add]
    match j, hv with
    | 0, hv => simp only [List.getElem?_cons_zero, List.getElem?_cons_succ, Option.some.injEq] at hv; subst hv; rw [hB1.cell (by simp <;> omega)]; simp [go_sem]
    | 1, hv => simp only [List.getElem?_cons_zero, List.getElem?_cons_succ, Option.some.injEq] at hv; subst hv; rw [hB1.cell (by simp <;> omega)]; simp [go_sem]
    | 2, hv => simp only [List.getElem?_cons_zero, List.getElem?_cons_succ, Option.some.injEq] at hv; subst hv; rw [hB1.cell (by simp <;> omega)]; simp [go_sem]
    | 3, hv => simp only [List.getElem?_cons_zero, List.getElem?_cons_succ, Option.some.injEq] at hv; subst hv; rw [hB1.cell (by simp <;> omega)]; simp [go_sem]
    | 4, hv => simp only [List.getElem?_cons_zero, List.getElem?_cons_succ, Option.some.injEq] at hv; subst hv; rw [hB1.cell (by simp <;> omega)]; simp [go_sem]
    | 5, hv => simp only [List.getElem?_cons_zero, List.getElem?_cons_succ, Option.some.injEq] at hv; subst hv; rw [hB1.cell (by simp <;> omega)]; simp [go_sem]
    | 6, hv => simp only [List.getElem?_cons_zero, List.getElem?_cons_succ, Option.some.injEq] at hv; subst hv; rw [hB1.cell (by simp <;> omega)]; simp [go_sem]
    | 7, hv => simp only [List.getElem?_cons_zero, List.getElem?_cons_succ, Option.some.injEq] at hv; subst hv; rw [hB1.cell (by simp <;> omega)]; simp [go_sem]
    | 8, hv => simp only [List.getElem?_cons_zero, List.getElem?_cons_succ, Option.some.injEq] at hv; subst hv; rw [hB1.cell (by simp <;> omega)]; simp [go_sem]
    | 9, hv => simp only [List.getElem?_cons_zero, List.getElem?_cons_succ, Option.some.injEq] at hv; subst hv; rw [hB1.cell (by simp <;> omega)]; simp [go_sem]
    | j + 10, hv => simp at hv
  have hbw : Below w.heap.size w w1 := (BW.out _ _).trans (hB1.mono (by simp <;> omega))
  have hsz : w.heap.size + 2 ≤ w1.heap.size := by have := hB1.size; simp at this; omega
  clear hB1 BW
  have CA := Lib.hid ca; have CB := Lib.hid cb; clear ca cb
  cases b1
  · have Hn : Hid (¬ s = t) := Lib.hid (fun h => by have := hb1.2 (by rw [h]); cases this)
    clear hb1
    go_wp2
    go_ret
    exact ⟨false, by simp [Hn.out], rfl, hbw⟩
  have E2 := Lib.hid (hb1.1 rfl); clear hb1
  have hB0 : Hid (B ≤ w.heap.size) := Lib.hid hB
  clear hB
  generalize hx0 : w.heap.size = x0 at *
  have Hx0 := Lib.hid hx0; clear hx0
  have p3 := CA.out 3 _ rfl
  have q3 := CB.out 3 _ rfl
  simp only [Nat.zero_add] at p3 q3
  go_wp2_with fail
  refine (eqTombS_any A2 D2 c2 d2 s.tmbs t.tmbs B _ (Sl.below H.out.2 hbw hB0.out) (Sl.below K.out.2 hbw hB0.out) (by have := hB0.out; omega) hl2 kl2).mono ?_
  rintro e w2 ⟨b1, hb1, rfl, hB1⟩
  have CA2 : Hid (Cells w2 x0 0 [.int .i64 s.sq, .int .i64 s.fe, .slice A s.ents.length c, .slice A2 s.tmbs.length c2, .int .i64 s.lo.a, .int .i64 s.lo.b, .int .i64 s.lo.c, .int .i64 s.hi.a, .int .i64 s.hi.b, .int .i64 s.hi.c]) := Lib.hid (CA.out.below hB1 (by omega))
  have CB2 : Hid (Cells w2 (x0 + 1) 0 [.int .i64 t.sq, .int .i64 t.fe, .slice D t.ents.length d, .slice D2 t.tmbs.length d2, .int .i64 t.lo.a, .int .i64 t.lo.b, .int .i64 t.lo.c, .int .i64 t.hi.a, .int .i64 t.hi.b, .int .i64 t.hi.c]) := Lib.hid (CB.out.below hB1 (by omega))
  have hbw2 : Below x0 w w2 := hbw.trans (hB1.mono (by omega))
  have hsz2 : x0 + 2 ≤ w2.heap.size := by have := hB1.size; omega
  clear CA CB hB1 hbw hsz p3 q3
  cases b1
  · have Hn : Hid (¬ s = t) := Lib.hid (fun h => by have := hb1.2 (by rw [h]); cases this)
    clear hb1
    go_wp2
    go_ret
    exact ⟨false, by simp [Hn.out], rfl, by rw [Hx0.out]; exact hbw2⟩
  have E3 := Lib.hid (hb1.1 rfl); clear hb1
  rename Hid (Cells _ x0 0 _) => CA
  rename Hid (Cells _ (x0 + 1) 0 _) => CB
  have hbw := hbw2; have hsz := hsz2; clear hbw2 hsz2
  have p4 := CA.out 4 _ rfl
  have p5 := CA.out 5 _ rfl
  have p6 := CA.out 6 _ rfl
  have q4 := CB.out 4 _ rfl
  have q5 := CB.out 5 _ rfl
  have q6 := CB.out 6 _ rfl
  simp only [Nat.zero_add] at p4 p5 p6 q4 q5 q6
  go_wp2_with fail
  refine (eqIntA3_any s.lo t.lo _).mono ?_
  rintro e w3 ⟨b1, hb1, rfl, hB1⟩
  have CA3 : Hid (Cells w3 x0 0 [.int .i64 s.sq, .int .i64 s.fe, .slice A s.ents.length c, .slice A2 s.tmbs.length c2, .int .i64 s.lo.a, .int .i64 s.lo.b, .int .i64 s.lo.c, .int .i64 s.hi.a, .int .i64 s.hi.b, .int .i64 s.hi.c]) := Lib.hid (CA.out.below hB1 (by omega))
  have CB3 : Hid (Cells w3 (x0 + 1) 0 [.int .i64 t.sq, .int .i64 t.fe, .slice D t.ents.length d, .slice D2 t.tmbs.length d2, .int .i64 t.lo.a, .int .i64 t.lo.b, .int .i64 t.lo.c, .int .i64 t.hi.a, .int .i64 t.hi.b, .int .i64 t.hi.c]) := Lib.hid (CB.out.below hB1 (by omega))
  have hbw3 : Below x0 w w3 := hbw.trans (hB1.mono (by omega))
  have hsz3 : x0 + 2 ≤ w3.heap.size := by have := hB1.size; omega
  clear CA CB hB1 hbw hsz p4 p5 p6 q4 q5 q6
  cases b1
  · have Hn : Hid (¬ s = t) := Lib.hid (fun h => by have := hb1.2 (by rw [h]); cases this)
    clear hb1
    go_wp2
    go_ret
    exact ⟨false, by simp [Hn.out], rfl, by rw [Hx0.out]; exact hbw3⟩
  have E4 := Lib.hid (hb1.1 rfl); clear hb1
  rename Hid (Cells _ x0 0 _) => CA
  rename Hid (Cells _ (x0 + 1) 0 _) => CB
  have hbw := hbw3; have hsz := hsz3; clear hbw3 hsz3
  have p7 := CA.out 7 _ rfl
  have p8 := CA.out 8 _ rfl
  have p9 := CA.out 9 _ rfl
  have q7 := CB.out 7 _ rfl
  have q8 := CB.out 8 _ rfl
  have q9 := CB.out 9 _ rfl
  simp only [Nat.zero_add] at p7 p8 p9 q7 q8 q9
  go_wp2_with fail
  refine (eqIntA3_any s.hi t.hi _).mono ?_
  rintro e w4 ⟨b1, hb1, rfl, hB1⟩
  have CA4 : Hid (Cells w4 x0 0 [.int .i64 s.sq, .int .i64 s.fe, .slice A s.ents.length c, .slice A2 s.tmbs.length c2, .int .i64 s.lo.a, .int .i64 s.lo.b, .int .i64 s.lo.c, .int .i64 s.hi.a, .int .i64 s.hi.b, .int .i64 s.hi.c]) := Lib.hid (CA.out.below hB1 (by omega))
  have CB4 : Hid (Cells w4 (x0 + 1) 0 [.int .i64 t.sq, .int .i64 t.fe, .slice D t.ents.length d, .slice D2 t.tmbs.length d2, .int .i64 t.lo.a, .int .i64 t.lo.b, .int .i64 t.lo.c, .int .i64 t.hi.a, .int .i64 t.hi.b, .int .i64 t.hi.c]) := Lib.hid (CB.out.below hB1 (by omega))
  have hbw4 : Below x0 w w4 := hbw.trans (hB1.mono (by omega))
  have hsz4 : x0 + 2 ≤ w4.heap.size := by have := hB1.size; omega
  clear CA CB hB1 hbw hsz p7 p8 p9 q7 q8 q9
  cases b1
  · have Hn : Hid (¬ s = t) := Lib.hid (fun h => by have := hb1.2 (by rw [h]); cases this)
    clear hb1
    go_wp2
    go_ret
    exact ⟨false, by simp [Hn.out], rfl, by rw [Hx0.out]; exact hbw4⟩
  have E5 := Lib.hid (hb1.1 rfl); clear hb1
  have Hy : Hid (s = t) := Lib.hid (by
    have h0 := E0.out; have h1 := E1.out; have h2 := E2.out; have h3 := E3.out; have h4 := E4.out; have h5 := E5.out
    clear H K CA4 CB4
    cases s; cases t
    simp at h0 h1 h2 h3 h4 h5
    simp [h0, h1, h2, h3, h4, h5])
  go_wp2
  go_ret
  exact ⟨true, by simp [Hy.out], rfl, by rw [Hx0.out]; exact hbw4⟩

/-- the state whose lists are marks -/
def GSt.marks (k : Int) (s : GSt) : GSt := { s with ents := marksEnt k s.ents.length, tmbs := marksTmb (k + 4 * s.ents.length) s.tmbs.length }

theorem markState_any (A : Option Addr) (c : Nat) (A2 : Option Addr) (c2 : Nat) (s : GSt) (k : Int) (w : World) (h : StAt w w.heap.size A A2 s) (x : Nat) (hO : StOwn x w A A2) (hl : s.ents.length ≤ 1048576) (hl2 : s.tmbs.length ≤ 1048576) (hk0 : 0 ≤ k) (hk : k ≤ 16777216) :
    Calls Tryd.prog 16 #[.agg #[.int .i64 s.sq, .int .i64 s.fe, .slice A s.ents.length c, .slice A2 s.tmbs.length c2, .int .i64 s.lo.a, .int .i64 s.lo.b, .int .i64 s.lo.c, .int .i64 s.hi.a, .int .i64 s.hi.b, .int .i64 s.hi.c], .int .i64 k] w fun e w' => e = .returned (.int .i64 (k + 4 * s.ents.length + 2 * s.tmbs.length)) ∧ StAt w' w'.heap.size A A2 (s.marks k) ∧ StOwn x w' A A2 ∧ (∃ w1, w.grownBy w1 (blk A) ∧ w1.grownBy w' (blk A2)) := by
  have H := Lib.hid h; clear h
  have HO := Lib.hid hO; clear hO
  go_enter Tryd.func16, Tryd.ntmps16
  go_wp2_with fail
  refine (markEntryS_any A c k s.ents w.heap.size _ (Sl.below H.out.1 (bal (Below.refl _ _) _) (Nat.le_refl _)) (HO.out.1.below (bal (Below.refl _ _) _) (fun b e => (HO.out.2.2.1 b e).2)) (by simp) (by omega) hk0 (by omega)).mono ?_
  rintro e w1 ⟨rfl, ho, hg, hf⟩
  have hsz : w.heap.size < w1.heap.size := by have := hg.size; simp at this; omega
  have c3 : w1.cell? ⟨w.heap.size, 3, none⟩ = some (.slice A2 s.tmbs.length c2) := by
    rw [World.cell?_of_block (a := ⟨w.heap.size, 3, none⟩) (hg.block w.heap.size (by simp) (fun e => by have := (HO.out.2.2.1 _ e.symm).2; omega))]
    simp [go_sem]
  have hg1 : w.grownBy w1 (blk A) := grown_trans (World.grownBy_alloc w _ _) hg
  have hT : TmbsAt w1 w.heap.size A2 s.tmbs := Sl.grown H.out.2 hg1 (Nat.le_refl _) (by
    by_cases e : blk A2 = none
    · exact Or.inl e
    · right
      intro e'
      obtain ⟨b, hb⟩ := Option.ne_none_iff_exists'.1 e
      exact HO.out.2.2.2.2 b (e'.symm.trans hb) hb)
  have hF2 : Free w1 A2 := fun b e i => by
    have hb := HO.out.2.2.2.1 b e
    have hbl := hg1.block b hb.2 (fun e' => HO.out.2.2.2.2 b e'.symm e)
    have := HO.out.2.1 b e i
    unfold World.frozen? at this ⊢
    rw [hbl]
    exact this
  have Ho := Lib.hid ho; have Hf := Lib.hid hf; have HT := Lib.hid hT; have HF2 := Lib.hid hF2
  clear ho hf hT hF2 hg
  go_wp2_with fail
  refine (markTombS_any A2 c2 (k + 4 * s.ents.length) s.tmbs w.heap.size _ HT.out HF2.out (by omega) (by omega) (by omega) (by omega)).mono ?_
  rintro e w2 ⟨rfl, ho2, hg2, hf2⟩
  have hE : EntsAt w2 w.heap.size A (marksEnt k s.ents.length) := Sl.grown Ho.out hg2 (by omega) (by
    by_cases e : blk A = none
    · exact Or.inl e
    · right
      intro e'
      obtain ⟨b, hb⟩ := Option.ne_none_iff_exists'.1 e
      exact HO.out.2.2.2.2 b hb (e'.symm.trans hb))
  have hF1 : Free w2 A := fun b e i => by
    have hb := HO.out.2.2.1 b e
    have hbl := hg2.block b (by omega) (fun e' => HO.out.2.2.2.2 b e e'.symm)
    have := Hf.out b e i
    unfold World.frozen? at this ⊢
    rw [hbl]
    exact this
  have hs2 : w.heap.size < w2.heap.size := by have := hg2.size; omega
  have FIN : Hid (StAt w2 w2.heap.size A A2 (s.marks k) ∧ StOwn x w2 A A2 ∧ ∃ w1, w.grownBy w1 (blk A) ∧ w1.grownBy w2 (blk A2)) := Lib.hid
    ⟨⟨Sl.more hE (by omega), Sl.more ho2 (by omega)⟩, ⟨hF1, hf2, fun b e => by have := HO.out.2.2.1 b e; omega, fun b e => by have := HO.out.2.2.2.1 b e; omega, HO.out.2.2.2.2⟩, w1, hg1, hg2⟩
  clear hE hF1 ho2 hg2 hf2 Ho Hf HT HF2 c3
  go_wp2
  go_ret
  exact ⟨rfl, FIN.out⟩

end Go.Proofs.YthmpmagajbmpaaaDoor
