/-
  Several texts as one: contracts that the law leans on; each part says what it proves and its conditions.
-/
import Derived.Below
import Derived.Deep.Draws
import Derived.Laws.OwnMore
import Derived.Laws.Entries
import Derived.OwnWalk
import Derived.Lib.Hide
import Derived.Laws.MakeOwn

/- Words for slices in memory: a slice whose elements are known (each as so many cells), kept under what is new; plain lemmas on worlds. No Go text is walked here. -/
namespace Go.Proofs.YtpfanmcjlfdaiaaGreatDoorR
open Go.RowKit
set_option linter.unusedVariables false

/-- the cells of a value lie from an offset on -/
def Cells (w : World) (b off : Nat) (vs : List Value) : Prop := ∀ j v, vs[j]? = some v → w.cell? ⟨b, off + j, none⟩ = some v

/-- a slice's address leads to these elements (each of m cells, by f), below block B -/
def Sl {α : Type} (f : α → List Value) (m : Nat) (w : World) (B : Nat) (A : Option Addr) (xs : List α) : Prop :=
  xs ≠ [] → ∃ b off, A = some ⟨b, off, none⟩ ∧ b < B ∧ ∀ k (h : k < xs.length), Cells w b (off + k * m) (f xs[k])

/-- the block that a slice leads to -/
def blk (A : Option Addr) : Option Nat := A.map (·.block)

/-- nothing of the slice's block is frozen -/
def Free (w : World) (A : Option Addr) : Prop := ∀ b, blk A = some b → ∀ i, w.frozen? ⟨b, i, none⟩ = false

section

variable {α : Type} {f : α → List Value} {m : Nat} {w w' : World} {B B' : Nat} {A : Option Addr} {xs : List α}

theorem Sl.nil : Sl f m w B A ([] : List α) := fun h => absurd rfl h

theorem Sl.at_ (h : Sl f m w B A xs) {k : Nat} (hk : k < xs.length) : ∃ b off, A = some ⟨b, off, none⟩ ∧ b < B ∧ Cells w b (off + k * m) (f xs[k]) := by
  obtain ⟨b, off, e, hb, hc⟩ := h (by rintro rfl; simp at hk)
  exact ⟨b, off, e, hb, hc k hk⟩

theorem Sl.keep (h : Sl f m w B A xs) (hk : ∀ b i, blk A = some b → b < B → w'.cell? ⟨b, i, none⟩ = w.cell? ⟨b, i, none⟩) : Sl f m w' B A xs := by
  intro hn
  obtain ⟨b, off, rfl, hb, hc⟩ := h hn
  exact ⟨b, off, rfl, hb, fun k hk' j v hv => (hk b _ rfl hb).trans (hc k hk' j v hv)⟩

theorem Sl.below (h : Sl f m w B A xs) (hb : Below B' w w') (hB : B ≤ B') : Sl f m w' B A xs :=
  h.keep fun b i _ hlt => hb.cell (p := ⟨b, i, none⟩) (Nat.lt_of_lt_of_le hlt hB)

theorem Sl.more (h : Sl f m w B A xs) (hB : B ≤ B') : Sl f m w B' A xs := by
  intro hn
  obtain ⟨b, off, rfl, hb, hc⟩ := h hn
  exact ⟨b, off, rfl, Nat.lt_of_lt_of_le hb hB, hc⟩

theorem Sl.grown (h : Sl f m w B A xs) {row : Option Nat} (hg : w.grownBy w' row) (hB : B ≤ w.heap.size) (hr : blk A = none ∨ blk A ≠ row) : Sl f m w' B A xs :=
  h.keep fun b i e hlt => World.cell?_of_block (a := ⟨b, i, none⟩) (hg.block b (by omega) (fun he => by rcases hr with hr | hr; (· rw [hr] at e; cases e); (· exact hr (e.trans he))))

theorem Free.below (h : Free w A) (hb : Below B w w') (hB : ∀ b, blk A = some b → b < B) : Free w' A := fun b e i => (hb.frozen (p := ⟨b, i, none⟩) (hB b e)).trans (h b e i)

theorem Free.none_ : Free w none := fun b e => by cases e

end

theorem Sl.set {α : Type} {f : α → List Value} {m : Nat} {w w' : World} {B b off : Nat} {xs : List α} (h : Sl f m w B (some ⟨b, off, none⟩) xs) (hf : ∀ x, (f x).length = m) {k : Nat} (hk : k < xs.length) (y : α)
    (hn : Cells w' b (off + k * m) (f y)) (ho : ∀ i, i < off + k * m ∨ off + k * m + m ≤ i → w'.cell? ⟨b, i, none⟩ = w.cell? ⟨b, i, none⟩) : Sl f m w' B (some ⟨b, off, none⟩) (xs.set k y) := by
  intro _
  obtain ⟨b', off', e, hb, hc⟩ := h (by rintro rfl; simp at hk)
  injection e with e
  injection e with e1 e2
  subst e1 e2
  refine ⟨b, off, rfl, hb, fun i hi j v hv => ?_⟩
  simp only [List.length_set] at hi
  by_cases hik : k = i
  · subst hik
    simp only [List.getElem_set_self] at hv
    exact hn j v hv
  · rw [List.getElem_set_ne hik] at hv
    have hj : j < m := by rw [← hf xs[i]]; exact (List.getElem?_eq_some_iff.1 hv).1
    rw [ho _ ?_]
    · exact hc i hi j v hv
    · rcases Nat.lt_or_gt_of_ne hik with hlt | hgt
      · right
        have : (k + 1) * m ≤ i * m := Nat.mul_le_mul_right m hlt
        rw [Nat.add_mul] at this
        omega
      · left
        have : (i + 1) * m ≤ k * m := Nat.mul_le_mul_right m hgt
        rw [Nat.add_mul] at this
        omega

theorem cset_ne (w : World) (b i j : Nat) (v : Value) (h : i ≠ j) : (w.setCell ⟨b, i, none⟩ v).cell? ⟨b, j, none⟩ = w.cell? ⟨b, j, none⟩ :=
  World.cell?_setCell_other w ⟨b, i, none⟩ ⟨b, j, none⟩ v (fun e => h (by injection e))

theorem cset_eq (w : World) (b i : Nat) (v : Value) {u : Value} (h : w.cell? ⟨b, i, none⟩ = some u) : (w.setCell ⟨b, i, none⟩ v).cell? ⟨b, i, none⟩ = some v :=
  World.cell?_setCell_same w ⟨b, i, none⟩ v h

theorem frozen_setCell (w : World) (a : Addr) (v : Value) (p : Addr) : (w.setCell a v).frozen? p = w.frozen? p := by
  unfold World.frozen? World.setCell
  by_cases h : a.block = p.block
  · rw [← h]
    simp only [Array.getElem?_modify]
    cases hh : w.heap[a.block]? with
    | none => simp
    | some o => cases o <;> simp
  · simp [Array.getElem?_modify, h]

theorem bal {a w : World} (h : Below a.heap.size a w) (o : Obj) : Below a.heap.size a (w.alloc o) := h.alloc h.size o

theorem bset {a w : World} (h : Below a.heap.size a w) {p : Addr} (hp : a.heap.size ≤ p.block) (u : Value) : Below a.heap.size a (w.setCell p u) := h.setCell hp u

theorem bnext {a w w' : World} (h : Below a.heap.size a w) (h' : Below w.heap.size w w') : Below a.heap.size a w' := h.trans (h'.mono h.size)

theorem bdrewN {a w : World} (h : Below a.heap.size a w) (n : Nat) : Below a.heap.size a (w.drewN n) := ⟨h.os, h.tape, h.output, h.size, h.block⟩

theorem Sl.far {α : Type} {f : α → List Value} {m : Nat} {w : World} {B : Nat} {A : Option Addr} {xs : List α} (h : Sl f m w B A xs) {p : Addr} (hp : ∀ b, blk A = some b → b ≠ p.block) (u : Value) : Sl f m (w.setCell p u) B A xs :=
  h.keep fun b i e _ => World.cell?_setCell_other w p ⟨b, i, none⟩ u (fun he => hp b e (by rw [he]))

theorem Free.setCell {w : World} {A : Option Addr} (h : Free w A) (p : Addr) (u : Value) : Free (w.setCell p u) A := fun b e i => (frozen_setCell _ _ _ _).trans (h b e i)

theorem size_setCell (w : World) (p : Addr) (u : Value) : (w.setCell p u).heap.size = w.heap.size := by simp [World.setCell]

/-- a struct of two cells lies in a block of its own -/
def Two (w : World) (b : Nat) (x y : Value) : Prop := w.cell? ⟨b, 0, none⟩ = some x ∧ w.cell? ⟨b, 1, none⟩ = some y

theorem Two.new (w : World) (x y : Value) (t : TypeId) : Two (w.alloc (.cells #[x, y] t)) w.heap.size x y := ⟨by simp, by simp⟩

theorem Two.below {w w' : World} {b B : Nat} {x y : Value} (h : Two w b x y) (hb : Below B w w') (hB : b < B) : Two w' b x y := ⟨(hb.cell (p := ⟨b, 0, none⟩) hB).trans h.1, (hb.cell (p := ⟨b, 1, none⟩) hB).trans h.2⟩

theorem Two.alloc {w : World} {b : Nat} {x y : Value} (h : Two w b x y) (hB : b < w.heap.size) (o : Obj) : Two (w.alloc o) b x y := ⟨(World.cell?_alloc_lt w o ⟨b, 0, none⟩ hB).trans h.1, (World.cell?_alloc_lt w o ⟨b, 1, none⟩ hB).trans h.2⟩

theorem Two.grown {w w' : World} {b : Nat} {x y : Value} {row : Option Nat} (h : Two w b x y) (hg : w.grownBy w' row) (hb : b < w.heap.size) (hr : ∀ g, row = some g → g ≠ b) : Two w' b x y :=
  ⟨(World.cell?_of_block (a := ⟨b, 0, none⟩) (hg.block b hb (fun e => hr b e.symm rfl))).trans h.1, (World.cell?_of_block (a := ⟨b, 1, none⟩) (hg.block b hb (fun e => hr b e.symm rfl))).trans h.2⟩

theorem grown_of_below {a w : World} (h : Below a.heap.size a w) (row : Option Nat) : a.grownBy w row := ⟨h.os, h.tape, h.output, h.size, fun i hi _ => h.block i hi⟩

theorem grown_trans {a b c : World} {row : Option Nat} (h : a.grownBy b row) (k : b.grownBy c row) : a.grownBy c row :=
  ⟨k.os.trans h.os, k.tape.trans h.tape, k.output.trans h.output, Nat.le_trans h.size k.size, fun i hi hne => (k.block i (Nat.lt_of_lt_of_le hi h.size) hne).trans (h.block i hi hne)⟩

theorem grown_setCell {a w : World} {row : Option Nat} (h : a.grownBy w row) (p : Addr) (hp : some p.block = row ∨ a.heap.size ≤ p.block) (u : Value) : a.grownBy (w.setCell p u) row :=
  ⟨h.os, h.tape, h.output, by simpa [World.setCell] using h.size, fun i hi hne => (Below.heap_setCell w p u i (by
    rintro rfl
    rcases hp with hp | hp
    · exact hne hp
    · omega)).trans (h.block i hi hne)⟩

theorem below_of_grown {B : Nat} {a w : World} {row : Option Nat} (h : a.grownBy w row) (hB : B ≤ a.heap.size) (hr : ∀ g, row = some g → B ≤ g) : Below B a w :=
  ⟨h.os, h.tape, h.output, h.size, fun i hi => h.block i (by omega) (fun e => by have := hr i e.symm; omega)⟩

/-- a made slice, its length a number of any size that fits -/
theorem run_make_n {P : Program} (t e : TypeId) (z : Value) (size bytes : Nat) (hinfo : (P.info? e).map (fun i => (i.zero, i.size, i.bytes)) = some (some z, size, bytes)) (ht : P.underlying t = some (.slice e)) (n c : Nat) (hnc : n ≤ c) (hb : bytes * c ≤ 281474976710656) (h63 : c ≤ 9223372036854775807) (w : World) :
    (Instr.makeSlice t (.int .i64 (n : Int)) (.int .i64 (c : Int))).run P w = .ok (.slice (some ⟨w.heap.size, 0, none⟩) n c) (w.alloc (.cells (madeCells z.cells (c * size)) e)) := by
  obtain ⟨i, hi, hz, hs, hby⟩ := info_parts hinfo
  have hb' : (i.bytes : Int) * (c : Int) ≤ 281474976710656 := by
    rw [hby]
    have : ((bytes * c : Nat) : Int) ≤ 281474976710656 := by omega
    rwa [Int.natCast_mul] at this
  have hr := run_make (P := P) w t e i z ht hi hz .i64 .i64 (n : Int) (c : Int) (by omega) (by omega) hb' (by omega)
  simp only [Int.toNat_natCast, hs] at hr
  exact hr

theorem made_at (z : Array Value) (m n k j : Nat) (hz : z.size = m) (hk : k < n) (hj : j < m) : (madeCells z (n * m))[k * m + j]? = some z[j]! := by
  have h1 : (k + 1) * m ≤ n * m := Nat.mul_le_mul_right m hk
  rw [Nat.add_mul] at h1
  have h2 : k * m + j < n * m := by omega
  have h3 : (k * m + j) % m = j := by rw [Nat.add_comm, Nat.add_mul_mod_self_right, Nat.mod_eq_of_lt hj]
  simp [madeCells, hz, h2, h3]

/-- a new block of made elements reads as so many zeros -/
theorem made_sl {α : Type} (f : α → List Value) (z : α) (m n : Nat) (e : TypeId) (w : World) (zc : Array Value) (hm : zc.size = m) (hf : f z = zc.toList) :
    Sl f m (w.alloc (.cells (madeCells zc (n * m)) e)) (w.heap.size + 1) (some ⟨w.heap.size, 0, none⟩) (List.replicate n z) := by
  intro _
  refine ⟨w.heap.size, 0, rfl, by omega, fun k hk j v hv => ?_⟩
  simp only [List.length_replicate] at hk
  simp only [List.getElem_replicate, hf] at hv
  have hj : j < zc.toList.length := (List.getElem?_eq_some_iff.1 hv).1
  simp only [Array.length_toList] at hj
  rw [World.cell?_alloc_new, show 0 + k * m + j = k * m + j from by omega, made_at zc m n k j hm hk (by omega)]
  rw [← hv]
  simp [hj]

theorem free_alloc (w : World) (c : Array Value) (e : TypeId) (off : Nat) : Free (w.alloc (.cells c e)) (some ⟨w.heap.size, off, none⟩) := fun b h i => by
  simp [blk] at h; subst h
  show (match (w.heap.push (Obj.cells c e))[w.heap.size]? with | some (.cells _ _ (lo, hi)) => decide (lo ≤ i) && decide (i < hi) | _ => false) = false
  simp

/-- the flat cells of a list of elements -/
theorem flat_at {α : Type} (f : α → List Value) (m : Nat) (hf : ∀ x, (f x).length = m) : ∀ (xs : List α) (k : Nat) (h : k < xs.length) (j : Nat), j < m → (xs.flatMap f)[k * m + j]? = (f xs[k])[j]?
  | x :: xs, 0, _, j, hj => by
    rw [List.flatMap_cons, List.getElem?_append_left (by rw [hf]; omega)]
    simp
  | x :: xs, k + 1, h, j, hj => by
    have e : (k + 1) * m + j = m + (k * m + j) := by rw [Nat.add_mul]; omega
    rw [List.flatMap_cons, e, List.getElem?_append_right (by rw [hf]; omega), hf, Nat.add_sub_cancel_left]
    simpa using flat_at f m hf xs k (by simpa using h) j hj

theorem flat_length {α : Type} (f : α → List Value) (m : Nat) (hf : ∀ x, (f x).length = m) (xs : List α) : (xs.flatMap f).length = xs.length * m := by
  induction xs with
  | nil => simp
  | cons x xs ih => rw [List.flatMap_cons, List.length_append, ih, hf, List.length_cons, Nat.add_mul]; omega

/-- a slice of the call's own: its row, from block base on, is these elements -/
def OwnSl {α : Type} (f : α → List Value) (m : Nat) (e : TypeId) (base : Nat) (w : World) (v : Value) (xs : List α) : Prop := w.ownsRow base e m v xs.length (xs.flatMap f)

theorem OwnSl.form {α : Type} {f : α → List Value} {m : Nat} {e : TypeId} {base : Nat} {w : World} {v : Value} {xs : List α} (h : OwnSl f m e base w v xs) : ∃ A c, v = .slice A xs.length c := by
  rcases h.2 with ⟨rfl, hn⟩ | ⟨g, cap, cur, rfl, _⟩
  · exact ⟨none, 0, by rw [hn]⟩
  · exact ⟨_, _, rfl⟩

theorem OwnSl.sl {α : Type} {f : α → List Value} {m : Nat} {e : TypeId} {base : Nat} {w : World} {A : Option Addr} {c : Nat} {xs : List α} (h : OwnSl f m e base w (.slice A xs.length c) xs) (hf : ∀ x, (f x).length = m) :
    Sl f m w w.heap.size A xs ∧ Free w A ∧ (∀ b, blk A = some b → base ≤ b ∧ b < w.heap.size) ∧ xs.length ≤ c := by
  rcases h.2 with ⟨he, hn⟩ | ⟨g, cap, cur, he, hb, hg, hnc, _, hs, ht⟩
  · injection he with e1 e2 e3
    subst e1
    exact ⟨fun hne => absurd (List.length_eq_zero_iff.1 hn) hne, Free.none_, fun b e => by simp [blk] at e, by omega⟩
  · injection he with e1 e2 e3
    subst e1 e3
    have hlt : g < w.heap.size := (Array.getElem?_eq_some_iff.1 hg).1
    refine ⟨fun _ => ⟨g, 0, rfl, hlt, fun k hk j v hv => ?_⟩, fun b e i => ?_, fun b e => ?_, hnc⟩
    · have hj : j < m := by rw [← hf xs[k]]; exact (List.getElem?_eq_some_iff.1 hv).1
      have h1 := flat_at f m hf xs k hk j hj
      rw [hv, ← ht] at h1
      have h2 : cur.toList[k * m + j]? = some v := by
        rw [List.getElem?_take] at h1
        split at h1
        · exact h1
        · cases h1
      rw [Nat.zero_add]
      simpa [World.cell?, hg] using h2
    · simp [blk] at e; subst e
      simp [World.frozen?, hg]
    · simp [blk] at e; subst e
      exact ⟨hb, hlt⟩

theorem OwnSl.kept {α : Type} {f : α → List Value} {m : Nat} {e : TypeId} {base : Nat} {w w' : World} {v : Value} {xs : List α} (h : OwnSl f m e base w v xs) {row : Option Nat} (hg : w.grownBy w' row) (hne : v.ownBlock = none ∨ v.ownBlock ≠ row) : OwnSl f m e base w' v xs :=
  World.ownsRow.kept h hg hne

theorem OwnSl.below {α : Type} {f : α → List Value} {m : Nat} {e : TypeId} {base : Nat} {w w' : World} {v : Value} {xs : List α} (h : OwnSl f m e base w v xs) (hb : Below w.heap.size w w') : OwnSl f m e base w' v xs :=
  World.ownsRow.kept h (grown_of_below hb none) (by cases v.ownBlock <;> simp)

theorem ownBlock_blk (A : Option Addr) (n c : Nat) : (Value.slice A n c).ownBlock = blk A := by cases A <;> rfl

theorem set_mid {α : Type} (l : List α) (xs : List α) (i : Nat) (y : α) (hl : l.length = i) (h : i < xs.length) : (l ++ xs.drop i).set i y = (l ++ [y]) ++ xs.drop (i + 1) := by
  subst hl
  rw [List.drop_eq_getElem_cons h, List.set_append_right _ _ (Nat.le_refl _)]
  simp [-List.getElem_cons_drop]

theorem take_set {α : Type} (xs zs : List α) (j : Nat) (h : j < xs.length) (h2 : j < zs.length) : (xs.take j ++ zs.drop j).set j xs[j] = xs.take (j + 1) ++ zs.drop (j + 1) := by
  rw [set_mid _ _ _ _ (by simp; omega) h2, List.take_succ_eq_append_getElem h]

/-- a bool is answered that says whether P; nothing old has turned -/
def IsBB (P : Prop) (w : World) (e : Ending) (w' : World) : Prop := ∃ b : Bool, (b = true ↔ P) ∧ e = .returned (.bool b) ∧ Below w.heap.size w w'

theorem IsBB.yes {P : Prop} {w w' : World} (h : P) (b : Below w.heap.size w w') : IsBB P w (.returned (.bool true)) w' := ⟨true, by simp [h], rfl, b⟩

theorem IsBB.no {P : Prop} {w w' : World} (h : ¬ P) (b : Below w.heap.size w w') : IsBB P w (.returned (.bool false)) w' := ⟨false, by simp [h], rfl, b⟩

end Go.Proofs.YtpfanmcjlfdaiaaGreatDoorR

/- A row of cells that is stored cell by cell; the element of a slice that is stored so. Over any program. -/
namespace Go.Proofs.YtpfanmcjlfdaiaaGreatDoorR
open Go.RowKit
set_option linter.unusedVariables false

/-- values stored side by side -/
def puts (w : World) (g : Nat) : Nat → List Value → World
  | _, [] => w
  | i, v :: vs => puts (w.setCell ⟨g, i, none⟩ v) g (i + 1) vs

theorem puts_far (g : Nat) : ∀ (vs : List Value) (w : World) (i j : Nat), j < i ∨ i + vs.length ≤ j → (puts w g i vs).cell? ⟨g, j, none⟩ = w.cell? ⟨g, j, none⟩
  | [], _, _, _, _ => rfl
  | v :: vs, w, i, j, h => by
    simp only [List.length_cons] at h
    exact (puts_far g vs _ (i + 1) j (by omega)).trans (cset_ne w g i j v (by omega))

theorem puts_cells (g : Nat) : ∀ (vs : List Value) (w : World) (i : Nat), (∀ j, j < vs.length → ∃ u, w.cell? ⟨g, i + j, none⟩ = some u) → Cells (puts w g i vs) g i vs
  | [], _, _, _ => fun j v h => by simp at h
  | v :: vs, w, i, h => by
    intro j u hj
    match j with
    | 0 =>
      simp at hj; subst hj
      obtain ⟨u0, h0⟩ := h 0 (by simp)
      exact (puts_far g vs _ (i + 1) i (by omega)).trans (cset_eq w g i v h0)
    | j + 1 =>
      simp at hj
      have := puts_cells g vs (w.setCell ⟨g, i, none⟩ v) (i + 1) (fun j hj => by
        obtain ⟨u0, h0⟩ := h (j + 1) (by simp; omega)
        exact ⟨u0, (cset_ne w g i _ v (by omega)).trans (by rw [← h0, show i + 1 + j = i + (j + 1) by omega])⟩) j u hj
      rw [show i + 1 + j = i + (j + 1) by omega] at this
      exact this

theorem puts_frozen (g : Nat) (p : Addr) : ∀ (vs : List Value) (w : World) (i : Nat), (puts w g i vs).frozen? p = w.frozen? p
  | [], _, _ => rfl
  | v :: vs, w, i => (puts_frozen g p vs _ (i + 1)).trans (frozen_setCell _ _ _ _)

theorem puts_size (g : Nat) : ∀ (vs : List Value) (w : World) (i : Nat), (puts w g i vs).heap.size = w.heap.size
  | [], _, _ => rfl
  | v :: vs, w, i => (puts_size g vs _ (i + 1)).trans (size_setCell _ _ _)

theorem puts_below {a : World} (g : Nat) (hg : a.heap.size ≤ g) : ∀ (vs : List Value) (w : World) (i : Nat), Below a.heap.size a w → Below a.heap.size a (puts w g i vs)
  | [], _, _, h => h
  | v :: vs, w, i, h => puts_below g hg vs _ (i + 1) (bset h hg v)

theorem Sl.puts {α : Type} {f : α → List Value} {m : Nat} {w w1 : World} {B g : Nat} {ys : List α} (h : Sl f m w B (some ⟨g, 0, none⟩) ys) (hf : ∀ x, (f x).length = m) {k : Nat} (hk : k < ys.length) (ho : ∀ i, w1.cell? ⟨g, i, none⟩ = w.cell? ⟨g, i, none⟩) (o : α) :
    Sl f m (puts w1 g (k * m) (f o)) B (some ⟨g, 0, none⟩) (ys.set k o) := by
  refine Sl.set h hf hk o ?_ ?_
  · rw [Nat.zero_add]
    refine puts_cells g _ _ _ (fun j hj => ?_)
    obtain ⟨b, off, e, hb, hc⟩ := Sl.at_ h hk
    injection e with e
    injection e with e1 e2
    subst e1 e2
    rw [hf] at hj
    have hj2 : j < (f ys[k]).length := by rw [hf]; exact hj
    refine ⟨(f ys[k])[j], ?_⟩
    rw [ho, ← hc j _ (List.getElem?_eq_getElem hj2), Nat.zero_add]
  · intro i hi
    rw [Nat.zero_add] at hi
    rw [puts_far g _ _ _ _ (by rw [hf]; exact hi), ho]

theorem Free.puts {w1 : World} {g i : Nat} (vs : List Value) (hf : ∀ i, w1.frozen? ⟨g, i, none⟩ = false) : Free (puts w1 g i vs) (some ⟨g, 0, none⟩) := fun b e j => by
  simp [blk] at e; subst e
  rw [puts_frozen]; exact hf j

end Go.Proofs.YtpfanmcjlfdaiaaGreatDoorR
