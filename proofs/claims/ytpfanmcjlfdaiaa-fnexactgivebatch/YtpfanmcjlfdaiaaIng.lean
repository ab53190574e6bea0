/-
  Words for ingesters, and contracts of the laws' own helpers on them (sz, to, eq, mark, held). No conditions.
-/
import Derived.Test.YtpfanmcjlfdaiaaSamO
import Derived.Test.YtpfanmcjlfdaiaaTo2
import Derived.Test.YtpfanmcjlfdaiaaRecs
namespace Go.Proofs.Ytpfanmcjlfdaiaa
open Go.ChangeShapes Go.WideShapes Go.ChangeAt Go.RowKit Go.Deep Go.Joins
set_option linter.unusedVariables false
set_option linter.unusedSimpArgs false

structure GIng where
  id : Int
  sq : Int
  beg : Int
  fin : Int
  bat : List GSam
  put : Bool
deriving DecidableEq

def GIng.fit (s : GIng) : Prop := I64 s.id ∧ I64 s.sq ∧ I64 s.beg ∧ I64 s.fin ∧ (∀ o ∈ s.bat, o.fit) ∧ s.bat.length ≤ maxLen

def GIng.small (s : GIng) : Prop := s.bat.length ≤ 1048576

theorem cellsFarIng {b o g : Nat} {us : List Value} (hp : b ≠ g) : ∀ (vs : List Value) (w : World) (i : Nat), Cells w b o us → Cells (puts w g i vs) b o us
  | [], _, _, h => h
  | v :: vs, w, i, h => cellsFarIng hp vs _ (i + 1) (h.far hp v)

theorem slFarIng {α : Type} {f : α → List Value} {m B g : Nat} {A : Option Addr} {xs : List α} (hp : ∀ b, blk A = some b → b ≠ g) : ∀ (vs : List Value) (w : World) (i : Nat), Sl f m w B A xs → Sl f m (puts w g i vs) B A xs
  | [], _, _, h => h
  | v :: vs, w, i, h => slFarIng hp vs _ (i + 1) (h.far hp v)

theorem freeFarIng {w : World} {A : Option Addr} (h : Free w A) (g i : Nat) (vs : List Value) : Free (puts w g i vs) A := fun b e j => (puts_frozen g _ vs w i).trans (h b e j)

theorem belowFarIng {B : Nat} {a : World} (g : Nat) (hg : B ≤ g) : ∀ (vs : List Value) (w : World) (i : Nat), Below B a w → Below B a (puts w g i vs)
  | [], _, _, h => h
  | v :: vs, w, i, h => belowFarIng g hg vs _ (i + 1) (h.setCell hg v)

theorem csetIng {w : World} {b o : Nat} {vs : List Value} (h : Cells w b o vs) {k : Nat} (hk : k < vs.length) (u : Value) : Cells (w.setCell ⟨b, o + k, none⟩ u) b o (vs.set k u) := fun j v hv => by
  by_cases e : k = j
  · subst e
    rw [List.getElem?_set_self hk] at hv
    cases hv
    exact cset_eq _ _ _ _ (h k vs[k] (List.getElem?_eq_getElem hk))
  · rw [List.getElem?_set_ne e] at hv
    exact (cset_ne _ _ _ _ _ (by omega)).trans (h j v hv)

theorem cellsIng {w : World} {b : Nat} {v0 v1 v2 v3 v4 v5 : Value} (h : Cells w b 0 [v0, v1, v2, v3, v4, v5]) :
    w.cell? ⟨b, 0, none⟩ = some v0 ∧ w.cell? ⟨b, 1, none⟩ = some v1 ∧ w.cell? ⟨b, 2, none⟩ = some v2 ∧ w.cell? ⟨b, 3, none⟩ = some v3 ∧ w.cell? ⟨b, 4, none⟩ = some v4 ∧ w.cell? ⟨b, 5, none⟩ = some v5 := ⟨h 0 _ rfl, h 1 _ rfl, h 2 _ rfl, h 3 _ rfl, h 4 _ rfl, h 5 _ rfl⟩

/-- one is answered, in new memory of its own -/
def NewIng (s : GIng) (w : World) (e : Ending) (w' : World) : Prop :=
  ∃ (A : Option Addr) (c : Nat), e = .returned (.agg #[.int .i64 s.id, .int .i64 s.sq, .int .i64 s.beg, .int .i64 s.fin, .slice A s.bat.length c, .bool s.put]) ∧ SamsAt w' w'.heap.size A s.bat ∧ Free w' A ∧ (∀ b, blk A = some b → w.heap.size ≤ b ∧ b < w'.heap.size) ∧ s.bat.length ≤ c ∧ Below w.heap.size w w'

theorem szIngester_any (A : Option Addr) (c : Nat) (s : GIng) (left : Int) (B : Nat) (w : World) (h : SamsAt w B A s.bat) (hB : B ≤ w.heap.size) (hf : s.fit) (h0 : 0 ≤ left) (h1 : left ≤ 1048576) :
    Calls Try.prog 12 #[.agg #[.int .i64 s.id, .int .i64 s.sq, .int .i64 s.beg, .int .i64 s.fin, .slice A s.bat.length c, .bool s.put], .int .i64 left] w (Left s.small left w) := by
  have H := Lib.hid h; clear h
  have Hf := Lib.hid hf; clear hf
  go_enter Try.func12, Try.ntmps12
  go_wp2_with fail
  refine (szSampleS_B A c s.bat left B _ (Sl.below H.out (bal (Below.refl _ _) _) hB) (by simp; omega) Hf.out.2.2.2.2.2 h0 h1).mono ?_
  rintro e w1 ⟨u1, hu1, hv1, ht1, rfl, hb1⟩
  have bb1 : Below w.heap.size w w1 := (bal (Below.refl _ _) _).trans (hb1.mono (by simp))
  have Hu1 := Lib.hid hu1; clear hu1 hb1
  by_cases g1 : u1 < 0
  · have d1 : decide (u1 < 0) = true := by simpa using g1
    go_wp2
    go_ret
    exact ⟨-1, fun h => by omega, by omega, by omega, rfl, bb1⟩
  have d1 : decide (u1 < 0) = false := by simpa using g1
  have q1 : u1 ≤ left := (Hu1.out (by omega)).2
  have HQ : Hid s.small := Lib.hid (Hu1.out (by omega)).1
  go_wp2
  go_ret
  exact ⟨u1, fun h => ⟨HQ.out, by omega⟩, by omega, by omega, rfl, bb1⟩

set_option maxRecDepth 100000 in
set_option maxHeartbeats 2000000 in
theorem toIngester_any (A : Option Addr) (c : Nat) (s : GIng) (B : Nat) (w : World) (h : SamsAt w B A s.bat) (hB : B ≤ w.heap.size) (hl : s.bat.length ≤ 1048576) :
    Calls Try.prog 14 #[.agg #[.int .i64 s.id, .int .i64 s.sq, .int .i64 s.beg, .int .i64 s.fin, .slice A s.bat.length c, .bool s.put]] w (NewIng s w) := by
  have H := Lib.hid h; clear h
  go_enter Try.func14, Try.ntmps14
  go_wp2_with fail
  refine (toSampleS_any A c s.bat B _ (Sl.below H.out (by repeat' first | exact Below.refl _ _ | refine bal ?_ _ | refine bset ?_ (by simp) _) hB) (by simp; omega) hl).mono ?_
  rintro e w1 ⟨D, d, rfl, ho, hfD, hbl, hcD, hb1⟩
  have ca : Cells w1 (w.heap.size) 0 [.int .i64 s.id, .int .i64 s.sq, .int .i64 s.beg, .int .i64 s.fin, .slice A s.bat.length c, .bool s.put] := fun j v hv => by
    rw [Nat.zero_add]
    match j, hv with
    | 0, hv => simp only [List.getElem?_cons_zero, List.getElem?_cons_succ, Option.some.injEq] at hv; subst hv; rw [hb1.cell (by simp <;> omega)]; simp [go_sem]
    | 1, hv => simp only [List.getElem?_cons_zero, List.getElem?_cons_succ, Option.some.injEq] at hv; subst hv; rw [hb1.cell (by simp <;> omega)]; simp [go_sem]
    | 2, hv => simp only [List.getElem?_cons_zero, List.getElem?_cons_succ, Option.some.injEq] at hv; subst hv; rw [hb1.cell (by simp <;> omega)]; simp [go_sem]
    | 3, hv => simp only [List.getElem?_cons_zero, List.getElem?_cons_succ, Option.some.injEq] at hv; subst hv; rw [hb1.cell (by simp <;> omega)]; simp [go_sem]
    | 4, hv => simp only [List.getElem?_cons_zero, List.getElem?_cons_succ, Option.some.injEq] at hv; subst hv; rw [hb1.cell (by simp <;> omega)]; simp [go_sem]
    | 5, hv => simp only [List.getElem?_cons_zero, List.getElem?_cons_succ, Option.some.injEq] at hv; subst hv; rw [hb1.cell (by simp <;> omega)]; simp [go_sem]
    | j + 6, hv => simp at hv
  have cz : Cells w1 (w.heap.size + 1) 0 [.int .i64 0, .int .i64 0, .int .i64 0, .int .i64 0, .slice none 0 0, .bool false] := fun j v hv => by
    rw [Nat.zero_add]
    match j, hv with
    | 0, hv => simp only [List.getElem?_cons_zero, List.getElem?_cons_succ, Option.some.injEq] at hv; subst hv; rw [hb1.cell (by simp <;> omega)]; simp [go_sem]
    | 1, hv => simp only [List.getElem?_cons_zero, List.getElem?_cons_succ, Option.some.injEq] at hv; subst hv; rw [hb1.cell (by simp <;> omega)]; simp [go_sem]
    | 2, hv => simp only [List.getElem?_cons_zero, List.getElem?_cons_succ, Option.some.injEq] at hv; subst hv; rw [hb1.cell (by simp <;> omega)]; simp [go_sem]
    | 3, hv => simp only [List.getElem?_cons_zero, List.getElem?_cons_succ, Option.some.injEq] at hv; subst hv; rw [hb1.cell (by simp <;> omega)]; simp [go_sem]
    | 4, hv => simp only [List.getElem?_cons_zero, List.getElem?_cons_succ, Option.some.injEq] at hv; subst hv; rw [hb1.cell (by simp <;> omega)]; simp [go_sem]
    | 5, hv => simp only [List.getElem?_cons_zero, List.getElem?_cons_succ, Option.some.injEq] at hv; subst hv; rw [hb1.cell (by simp <;> omega)]; simp [go_sem]
    | j + 6, hv => simp at hv
  have co : Cells w1 (w.heap.size + 1 + 1) 0 [.int .i64 s.id, .int .i64 s.sq, .int .i64 s.beg, .int .i64 s.fin, .slice none 0 0, .bool false] := fun j v hv => by
    rw [Nat.zero_add]
    match j, hv with
    | 0, hv => simp only [List.getElem?_cons_zero, List.getElem?_cons_succ, Option.some.injEq] at hv; subst hv; rw [hb1.cell (by simp <;> omega)]; simp [go_sem]
    | 1, hv => simp only [List.getElem?_cons_zero, List.getElem?_cons_succ, Option.some.injEq] at hv; subst hv; rw [hb1.cell (by simp <;> omega)]; simp [go_sem]
    | 2, hv => simp only [List.getElem?_cons_zero, List.getElem?_cons_succ, Option.some.injEq] at hv; subst hv; rw [hb1.cell (by simp <;> omega)]; simp [go_sem]
    | 3, hv => simp only [List.getElem?_cons_zero, List.getElem?_cons_succ, Option.some.injEq] at hv; subst hv; rw [hb1.cell (by simp <;> omega)]; simp [go_sem]
    | 4, hv => simp only [List.getElem?_cons_zero, List.getElem?_cons_succ, Option.some.injEq] at hv; subst hv; rw [hb1.cell (by simp <;> omega)]; simp [go_sem]
    | 5, hv => simp only [List.getElem?_cons_zero, List.getElem?_cons_succ, Option.some.injEq] at hv; subst hv; rw [hb1.cell (by simp <;> omega)]; simp [go_sem]
    | j + 6, hv => simp at hv
  have fz : ∀ i, w1.frozen? ⟨w.heap.size + 1, i, none⟩ = false := fun i => by rw [hb1.frozen (by simp <;> omega)]; simp [go_sem]
  have fo : ∀ i, w1.frozen? ⟨w.heap.size + 1 + 1, i, none⟩ = false := fun i => by rw [hb1.frozen (by simp <;> omega)]; simp [go_sem]
  have hs1 : w.heap.size + 3 ≤ w1.heap.size := by have := hb1.size; simp at this; omega
  have bb1 : Below w.heap.size w w1 := by
    refine Below.trans ?_ (hb1.mono ?_)
    · repeat' first | exact Below.refl _ _ | refine bal ?_ _ | refine bset ?_ (by simp) _
    · simp <;> omega
  have HH : Hid (∀ w', Below w.heap.size w w' → SamsAt w' B A s.bat) := Lib.hid (fun w' h => Sl.below H.out h hB)
  have hbl1 : ∀ b, blk D = some b → w.heap.size + 3 ≤ b ∧ b < w1.heap.size := fun b e => ⟨by have := (hbl b e).1; simp at this; omega, (hbl b e).2⟩
  have HO1 : Hid (SamsAt w1 w1.heap.size D s.bat) := Lib.hid ho; have HF1 := Lib.hid hfD; have HL : Hid (∀ b, blk D = some b → w.heap.size + 3 ≤ b ∧ b < w1.heap.size) := Lib.hid hbl1; clear ho hfD hbl hbl1
  clear hb1 H
  have HB0 : Hid (B ≤ w.heap.size) := Lib.hid hB
  clear hB
  generalize hx0 : w.heap.size = x0 at *
  have Hx0 := Lib.hid hx0; clear hx0
  have CA1 := Lib.hid ca; have CZ1 := Lib.hid cz; have CO1 := Lib.hid co; have FZ1 := Lib.hid fz; have FO1 := Lib.hid fo
  clear ca cz co fz fo
  have o4 := CO1.out 4 _ rfl
  have g4 := FO1.out 4
  have o5 := CO1.out 5 _ rfl
  have g5 := FO1.out 5
  have p5 := CA1.out 5 _ rfl
  have o0 := CO1.out 0 _ rfl
  have o1 := CO1.out 1 _ rfl
  have o2 := CO1.out 2 _ rfl
  have o3 := CO1.out 3 _ rfl
  have z0 := CZ1.out 0 _ rfl
  have y0 := FZ1.out 0
  have z1 := CZ1.out 1 _ rfl
  have y1 := FZ1.out 1
  have z2 := CZ1.out 2 _ rfl
  have y2 := FZ1.out 2
  have z3 := CZ1.out 3 _ rfl
  have y3 := FZ1.out 3
  have z4 := CZ1.out 4 _ rfl
  have y4 := FZ1.out 4
  have z5 := CZ1.out 5 _ rfl
  have y5 := FZ1.out 5
  simp only [Nat.zero_add] at o0 o1 o2 o3 o4 o5 z0 z1 z2 z3 z4 z5 p5
  go_wp2
  refine bodyPost_ret (v := .agg #[.int .i64 s.id, .int .i64 s.sq, .int .i64 s.beg, .int .i64 s.fin, .slice D s.bat.length d, .bool s.put]) (by simp [results, Try.results14, go_sem, *]) rfl ⟨D, d, rfl, ?_⟩
  obtain ⟨wz, hwz⟩ : ∃ wz, wz = puts (puts w1 (x0 + 1 + 1) 4 [.slice D s.bat.length d, .bool s.put]) (x0 + 1) 0 [.int .i64 s.id, .int .i64 s.sq, .int .i64 s.beg, .int .i64 s.fin, .slice D s.bat.length d, .bool s.put] := ⟨_, rfl⟩
  have hzz : wz.heap.size = w1.heap.size := by rw [hwz, puts_size, puts_size]
  have hbz : Below x0 w wz := by rw [hwz]; exact belowFarIng _ (by omega) _ _ _ (belowFarIng _ (by omega) _ _ _ bb1)
  have hEz : SamsAt wz w1.heap.size D s.bat := by rw [hwz]; exact slFarIng (fun b e => by have := (HL.out b e).1; omega) _ _ _ (slFarIng (fun b e => by have := (HL.out b e).1; omega) _ _ _ HO1.out)
  have hFz : Free wz D := by rw [hwz]; exact freeFarIng (freeFarIng HF1.out _ _ _) _ _ _
  have fin : SamsAt wz wz.heap.size D s.bat ∧ Free wz D ∧ (∀ b, blk D = some b → x0 ≤ b ∧ b < wz.heap.size) ∧ s.bat.length ≤ d ∧ Below x0 w wz :=
    ⟨Sl.more hEz (by omega), hFz, fun b e => by have := HL.out b e; omega, hcD, hbz⟩
  rw [hwz] at fin
  rw [Hx0.out]
  exact fin

theorem lenIng {s : GIng} (h : s.small) : s.bat.length ≤ 1048576 := h

set_option maxRecDepth 100000 in
set_option maxHeartbeats 2000000 in
theorem eqIngester_any (A : Option Addr) (c : Nat) (D : Option Addr) (d : Nat) (s t : GIng) (B : Nat) (w : World) (h : SamsAt w B A s.bat) (k : SamsAt w B D t.bat) (hB : B ≤ w.heap.size)
    (hl : s.bat.length ≤ 4611686018427387904) (kl : t.bat.length ≤ 4611686018427387904) :
    Calls Try.prog 9 #[.agg #[.int .i64 s.id, .int .i64 s.sq, .int .i64 s.beg, .int .i64 s.fin, .slice A s.bat.length c, .bool s.put], .agg #[.int .i64 t.id, .int .i64 t.sq, .int .i64 t.beg, .int .i64 t.fin, .slice D t.bat.length d, .bool t.put]] w (IsBB (s = t) w) := by
  have Bw : ∀ o1 o2, Below w.heap.size w ((w.alloc o1).alloc o2) := fun o1 o2 => bal (bal (Below.refl _ _) _) _
  have BW := Lib.hid Bw; clear Bw
  have H := Lib.hid h; clear h
  have K := Lib.hid k; clear k
  by_cases e0 : s.id = t.id
  rotate_left
  · have u0 : (s.id != t.id) = true := by simpa using e0
    have r0 : (s.id == t.id) = false := by simpa using e0
    have Hn : Hid (¬ s = t) := Lib.hid (fun h => e0 (by rw [h]))
    clear e0
    go_enter Try.func9, Try.ntmps9
    go_wp2
    go_ret
    exact ⟨false, by simp [Hn.out], rfl, BW.out _ _⟩
  by_cases e1 : s.sq = t.sq
  rotate_left
  · have u0 : (s.id != t.id) = false := by simpa using e0
    have r0 : (s.id == t.id) = true := by simpa using e0
    have u1 : (s.sq != t.sq) = true := by simpa using e1
    have r1 : (s.sq == t.sq) = false := by simpa using e1
    have Hn : Hid (¬ s = t) := Lib.hid (fun h => e1 (by rw [h]))
    clear e0 e1
    go_enter Try.func9, Try.ntmps9
    go_wp2
    go_ret
    exact ⟨false, by simp [Hn.out], rfl, BW.out _ _⟩
  by_cases e2 : s.beg = t.beg
  rotate_left
  · have u0 : (s.id != t.id) = false := by simpa using e0
    have r0 : (s.id == t.id) = true := by simpa using e0
    have u1 : (s.sq != t.sq) = false := by simpa using e1
    have r1 : (s.sq == t.sq) = true := by simpa using e1
    have u2 : (s.beg != t.beg) = true := by simpa using e2
    have r2 : (s.beg == t.beg) = false := by simpa using e2
    have Hn : Hid (¬ s = t) := Lib.hid (fun h => e2 (by rw [h]))
    clear e0 e1 e2
    go_enter Try.func9, Try.ntmps9
    go_wp2
    go_ret
    exact ⟨false, by simp [Hn.out], rfl, BW.out _ _⟩
  by_cases e3 : s.fin = t.fin
  rotate_left
  · have u0 : (s.id != t.id) = false := by simpa using e0
    have r0 : (s.id == t.id) = true := by simpa using e0
    have u1 : (s.sq != t.sq) = false := by simpa using e1
    have r1 : (s.sq == t.sq) = true := by simpa using e1
    have u2 : (s.beg != t.beg) = false := by simpa using e2
    have r2 : (s.beg == t.beg) = true := by simpa using e2
    have u3 : (s.fin != t.fin) = true := by simpa using e3
    have r3 : (s.fin == t.fin) = false := by simpa using e3
    have Hn : Hid (¬ s = t) := Lib.hid (fun h => e3 (by rw [h]))
    clear e0 e1 e2 e3
    go_enter Try.func9, Try.ntmps9
    go_wp2
    go_ret
    exact ⟨false, by simp [Hn.out], rfl, BW.out _ _⟩
  have u0 : (s.id != t.id) = false := by simpa using e0
  have r0 : (s.id == t.id) = true := by simpa using e0
  have E0 := Lib.hid e0; clear e0
  have u1 : (s.sq != t.sq) = false := by simpa using e1
  have r1 : (s.sq == t.sq) = true := by simpa using e1
  have E1 := Lib.hid e1; clear e1
  have u2 : (s.beg != t.beg) = false := by simpa using e2
  have r2 : (s.beg == t.beg) = true := by simpa using e2
  have E2 := Lib.hid e2; clear e2
  have u3 : (s.fin != t.fin) = false := by simpa using e3
  have r3 : (s.fin == t.fin) = true := by simpa using e3
  have E3 := Lib.hid e3; clear e3
  go_enter Try.func9, Try.ntmps9
  go_wp2_with fail
  refine (eqSampleS_any A D c d s.bat t.bat B _ (Sl.below H.out (BW.out _ _) hB) (Sl.below K.out (BW.out _ _) hB) (by simp; omega) hl kl).mono ?_
  rintro e w1 ⟨b1, hb1, rfl, hB1⟩
  have ca : Cells w1 (w.heap.size) 0 [.int .i64 s.id, .int .i64 s.sq, .int .i64 s.beg, .int .i64 s.fin, .slice A s.bat.length c, .bool s.put] := fun j v hv => by
    rw [Nat.zero_add]
    match j, hv with
    | 0, hv => simp only [List.getElem?_cons_zero, List.getElem?_cons_succ, Option.some.injEq] at hv; subst hv; rw [hB1.cell (by simp <;> omega)]; simp [go_sem]
    | 1, hv => simp only [List.getElem?_cons_zero, List.getElem?_cons_succ, Option.some.injEq] at hv; subst hv; rw [hB1.cell (by simp <;> omega)]; simp [go_sem]
    | 2, hv => simp only [List.getElem?_cons_zero, List.getElem?_cons_succ, Option.some.injEq] at hv; subst hv; rw [hB1.cell (by simp <;> omega)]; simp [go_sem]
    | 3, hv => simp only [List.getElem?_cons_zero, List.getElem?_cons_succ, Option.some.injEq] at hv; subst hv; rw [hB1.cell (by simp <;> omega)]; simp [go_sem]
    | 4, hv => simp only [List.getElem?_cons_zero, List.getElem?_cons_succ, Option.some.injEq] at hv; subst hv; rw [hB1.cell (by simp <;> omega)]; simp [go_sem]
    | 5, hv => simp only [List.getElem?_cons_zero, List.getElem?_cons_succ, Option.some.injEq] at hv; subst hv; rw [hB1.cell (by simp <;> omega)]; simp [go_sem]
    | j + 6, hv => simp at hv
  have cb : Cells w1 (w.heap.size + 1) 0 [.int .i64 t.id, .int .i64 t.sq, .int .i64 t.beg, .int .i64 t.fin, .slice D t.bat.length d, .bool t.put] := fun j v hv => by
    rw [Nat.zero_add]
    match j, hv with
    | 0, hv => simp only [List.getElem?_cons_zero, List.getElem?_cons_succ, Option.some.injEq] at hv; subst hv; rw [hB1.cell (by simp <;> omega)]; simp [go_sem]
    | 1, hv => simp only [List.getElem?_cons_zero, List.getElem?_cons_succ, Option.some.injEq] at hv; subst hv; rw [hB1.cell (by simp <;> omega)]; simp [go_sem]
    | 2, hv => simp only [List.getElem?_cons_zero, List.getElem?_cons_succ, Option.some.injEq] at hv; subst hv; rw [hB1.cell (by simp <;> omega)]; simp [go_sem]
    | 3, hv => simp only [List.getElem?_cons_zero, List.getElem?_cons_succ, Option.some.injEq] at hv; subst hv; rw [hB1.cell (by simp <;> omega)]; simp [go_sem]
    | 4, hv => simp only [List.getElem?_cons_zero, List.getElem?_cons_succ, Option.some.injEq] at hv; subst hv; rw [hB1.cell (by simp <;> omega)]; simp [go_sem]
    | 5, hv => simp only [List.getElem?_cons_zero, List.getElem?_cons_succ, Option.some.injEq] at hv; subst hv; rw [hB1.cell (by simp <;> omega)]; simp [go_sem]
    | j + 6, hv => simp at hv
  have bb1 : Below w.heap.size w w1 := (BW.out _ _).trans (hB1.mono (by simp <;> omega))
  have hs1 : w.heap.size + 2 ≤ w1.heap.size := by have := hB1.size; simp at this; omega
  clear hB1 BW
  have CA1 := Lib.hid ca; have CB1 := Lib.hid cb; clear ca cb
  have HB0 : Hid (B ≤ w.heap.size) := Lib.hid hB
  clear hB
  generalize hx0 : w.heap.size = x0 at *
  have Hx0 := Lib.hid hx0; clear hx0
  cases b1
  · have Hn : Hid (¬ s = t) := Lib.hid (fun h => by have := hb1.2 (by rw [h]); cases this)
    clear hb1
    go_wp2
    go_ret
    exact ⟨false, by simp [Hn.out], rfl, by rw [Hx0.out]; exact bb1⟩
  have E4 := Lib.hid (hb1.1 rfl); clear hb1
  have p5 := CA1.out 5 _ rfl
  have q5 := CB1.out 5 _ rfl
  simp only [Nat.zero_add] at p5 q5
  by_cases e5 : s.put = t.put
  rotate_left
  · have u5 : (s.put != t.put) = true := by revert e5; cases s.put <;> cases t.put <;> simp
    have r5 : (s.put == t.put) = false := by revert e5; cases s.put <;> cases t.put <;> simp
    have Hn : Hid (¬ s = t) := Lib.hid (fun h => e5 (by rw [h]))
    clear e5
    go_wp2
    go_ret
    exact ⟨false, by simp [Hn.out], rfl, by rw [Hx0.out]; exact bb1⟩
  have u5 : (s.put != t.put) = false := by simpa using e5
  have r5 : (s.put == t.put) = true := by simpa using e5
  have E5 := Lib.hid e5; clear e5
  have Hy : Hid (s = t) := Lib.hid (by
    have h0 := E0.out; have h1 := E1.out; have h2 := E2.out; have h3 := E3.out; have h4 := E4.out; have h5 := E5.out
    clear H K CA1 CB1
    cases s; cases t
    simp at h0 h1 h2 h3 h4 h5
    simp [h0, h1, h2, h3, h4, h5])
  go_wp2
  go_ret
  exact ⟨true, by simp [Hy.out], rfl, by rw [Hx0.out]; exact bb1⟩

theorem markIngester_any (A : Option Addr) (c : Nat) (s : GIng) (k : Int) (w : World) (h : SamsAt w w.heap.size A s.bat) (x : Nat) (hF : Free w A) (hO : ∀ b, blk A = some b → x ≤ b ∧ b < w.heap.size) (hl : s.bat.length ≤ 1048576) (hk0 : 0 ≤ k) (hk : k ≤ 16777216) :
    Calls Try.prog 10 #[.agg #[.int .i64 s.id, .int .i64 s.sq, .int .i64 s.beg, .int .i64 s.fin, .slice A s.bat.length c, .bool s.put], .int .i64 k] w fun e w' => e = .returned (.int .i64 (k + 2 * s.bat.length)) ∧ SamsAt w' w'.heap.size A (marksSam k s.bat.length) ∧ Free w' A ∧ w.grownBy w' (blk A) := by
  have H := Lib.hid h; clear h
  have HF := Lib.hid hF; clear hF
  have HO := Lib.hid hO; clear hO
  go_enter Try.func10, Try.ntmps10
  go_wp2_with fail
  refine (markSampleS_any A c k s.bat w.heap.size _ (Sl.below H.out (bal (Below.refl _ _) _) (Nat.le_refl _)) (HF.out.below (bal (Below.refl _ _) _) (fun b e => (HO.out b e).2)) (by simp) (by omega) hk0 (by omega)).mono ?_
  rintro e w1 ⟨rfl, ho, hg, hf⟩
  have hg1 : w.grownBy w1 (blk A) := grown_trans (World.grownBy_alloc w _ _) hg
  have hsz : w.heap.size ≤ w1.heap.size := hg1.size
  have FIN : Hid (SamsAt w1 w1.heap.size A (marksSam k s.bat.length) ∧ Free w1 A ∧ w.grownBy w1 (blk A)) := Lib.hid ⟨Sl.more ho hsz, hf, hg1⟩
  clear ho hg hf hg1
  go_wp2
  go_ret
  exact ⟨rfl, FIN.out⟩

theorem heldIngester_any (A : Option Addr) (c : Nat) (s : GIng) (k : Int) (B : Nat) (w : World) (h : SamsAt w B A (marksSam k s.bat.length)) (hB : B ≤ w.heap.size) (hl : s.bat.length ≤ 1048576) (hk0 : 0 ≤ k) (hk : k ≤ 16777216) :
    Calls Try.prog 11 #[.agg #[.int .i64 s.id, .int .i64 s.sq, .int .i64 s.beg, .int .i64 s.fin, .slice A s.bat.length c, .bool s.put], .int .i64 k] w fun e w' => e = .returned (.int .i64 (k + 2 * s.bat.length)) ∧ Below w.heap.size w w' := by
  have H := Lib.hid h; clear h
  have u1 : decide (k + 2 * (s.bat.length : Int) < 0) = false := by simp; omega
  go_enter Try.func11, Try.ntmps11
  go_wp2_with fail
  refine (heldSampleS_any A c s.bat.length k B _ (Sl.below H.out (bal (Below.refl _ _) _) hB) (by simp; omega) (by omega) hk0 (by omega)).mono ?_
  rintro e w1 ⟨rfl, hb1⟩
  have bb1 := bnext (bal (Below.refl _ _) _) hb1
  clear hb1
  go_wp2
  go_ret
  exact ⟨rfl, bb1⟩

end Go.Proofs.Ytpfanmcjlfdaiaa
