/-
  What GiveBatch answers; contracts of the program's copied and GiveBatch. Conditions: lengths.
-/
import Derived.Test.YtpfanmcjlfdaiaaIngI
import Derived.Deep.DeepCutAuto
namespace Go.Proofs.Ytpfanmcjlfdaiaa
open Go.ChangeShapes Go.WideShapes Go.ChangeAt Go.RowKit Go.Deep Go.Joins
set_option linter.unusedVariables false
set_option linter.unusedSimpArgs false

theorem own_farI {α : Type} {f : α → List Value} {m : Nat} {e : TypeId} {base : Nat} {w : World} {v : Value} {xs : List α} (h : OwnSl f m e base w v xs) {p : Addr} (hp : p.block < base) (u : Value) : OwnSl f m e base (w.setCell p u) v xs := by
  refine ⟨h.1, ?_⟩
  rcases h.2 with h0 | ⟨g, cap, cur, e1, h1, h2, h3⟩
  · exact .inl h0
  · exact .inr ⟨g, cap, cur, e1, h1, (Below.heap_setCell _ _ _ _ (by omega)).trans h2, h3⟩

/-- an ingester is answered, its batch in memory of the call's own -/
def OwnI (s : GIng) (w : World) (e : Ending) (w' : World) : Prop :=
  ∃ (A1 : Option Addr) (c1 : Nat), e = .returned (.agg #[.int .i64 s.id, .int .i64 s.sq, .int .i64 s.beg, .int .i64 s.fin, .slice A1 s.bat.length c1, .bool s.put]) ∧ OwnSl GSam.vals 2 47 w.heap.size w' (.slice A1 s.bat.length c1) s.bat ∧ Below w.heap.size w w'

theorem own_finI {s : GIng} {w w1 : World} {A1 : Option Addr} {c1 y : Nat} (ho : OwnSl GSam.vals 2 47 y w1 (.slice A1 s.bat.length c1) s.bat) (hy : w.heap.size + 2 ≤ y) (hb : Below w.heap.size w w1) :
    OwnI s w (.returned (.agg #[.int .i64 s.id, .int .i64 s.sq, .int .i64 s.beg, .int .i64 s.fin, .slice A1 s.bat.length c1, .bool s.put])) ((((((((w1.setCell ⟨w.heap.size, 4, none⟩ (.slice A1 s.bat.length c1)).setCell ⟨w.heap.size + 1, 0, none⟩ (.int .i64 s.id)).setCell ⟨w.heap.size + 1, 1, none⟩ (.int .i64 s.sq)).setCell ⟨w.heap.size + 1, 2, none⟩ (.int .i64 s.beg)).setCell ⟨w.heap.size + 1, 3, none⟩ (.int .i64 s.fin)).setCell ⟨w.heap.size + 1, 4, none⟩ (.slice A1 s.bat.length c1)).setCell ⟨w.heap.size + 1, 5, none⟩ (.bool s.put))) := by
  refine ⟨A1, c1, rfl, own_monoI (base := y) ?_ (by omega), ?_⟩
  · repeat' first | with_reducible exact ho | (with_reducible refine own_farI ?_ (by dsimp only; omega) _)
  · repeat' first | with_reducible exact hb | (with_reducible refine Below.setCell ?_ (by first | exact Nat.le_refl _ | exact Nat.le_succ _) _)

set_option maxRecDepth 100000 in
set_option maxHeartbeats 1000000 in
theorem ingCopied_any (A : Option Addr) (c : Nat) (s : GIng) (B : Nat) (w : World) (h : SamsAt w B A s.bat) (hB : B ≤ w.heap.size) (hl : s.bat.length ≤ 1048576) :
    Calls Try.prog 33 #[.agg #[.int .i64 s.id, .int .i64 s.sq, .int .i64 s.beg, .int .i64 s.fin, .slice A s.bat.length c, .bool s.put]] w (OwnI s w) := by
  have H := Lib.hid h; clear h
  obtain ⟨W, hW⟩ : ∃ W, W = (w.alloc (.cells #[.int .i64 s.id, .int .i64 s.sq, .int .i64 s.beg, .int .i64 s.fin, .slice A s.bat.length c, .bool s.put] 24)).alloc (.cells #[.int .i64 0, .int .i64 0, .int .i64 0, .int .i64 0, .slice none 0 0, .bool false] 24) := ⟨_, rfl⟩
  have ca : Cells W w.heap.size 0 [.int .i64 s.id, .int .i64 s.sq, .int .i64 s.beg, .int .i64 s.fin, .slice A s.bat.length c, .bool s.put] := by rw [hW]; exact (Cells.new w _ _).below (bal (Below.refl _ _) _) (by simp)
  have cz : Cells W (w.heap.size + 1) 0 [.int .i64 0, .int .i64 0, .int .i64 0, .int .i64 0, .slice none 0 0, .bool false] := by
    rw [hW]; have := Cells.new (w.alloc (.cells #[.int .i64 s.id, .int .i64 s.sq, .int .i64 s.beg, .int .i64 s.fin, .slice A s.bat.length c, .bool s.put] 24)) [.int .i64 0, .int .i64 0, .int .i64 0, .int .i64 0, .slice none 0 0, .bool false] 24; simpa using this
  have fa : ∀ i, W.frozen? ⟨w.heap.size, i, none⟩ = false := fun i => by rw [hW]; simp [go_sem]
  have fz : ∀ i, W.frozen? ⟨w.heap.size + 1, i, none⟩ = false := fun i => by rw [hW]; simp [go_sem]
  have b0 : Below w.heap.size w W := by rw [hW]; exact bal (bal (Below.refl _ _) _) _
  have s0 : W.heap.size = w.heap.size + 2 := by rw [hW]; simp
  have HW := Lib.hid hW; clear hW
  have CA := Lib.hid ca; have CZ := Lib.hid cz; have FA := Lib.hid fa; have FZ := Lib.hid fz
  clear ca cz fa fz
  go_enter Try.func33, Try.ntmps33
  go_wp2_with fail
  rw [← HW.out]
  refine (cloneSam_any A c s.bat B W (Sl.below H.out b0 hB) (Nat.le_trans hB b0.size) hl).mono ?_
  rintro e w1 ⟨A1, c1, rfl, ho, hb1⟩
  have FIN := Lib.hid (own_finI (w := w) ho (by omega) (b0.trans (hb1.mono (by omega))))
  have ca1 := CA.out.below hb1 (by omega)
  have cz1 := CZ.out.below hb1 (by omega)
  have f4 := (hb1.frozen (p := ⟨w.heap.size, 4, none⟩) (by show w.heap.size < _; omega)).trans (FA.out 4)
  have x0 := ca1 0 _ rfl
  have z0 := cz1 0 _ rfl
  have y0 := (hb1.frozen (p := ⟨w.heap.size + 1, 0, none⟩) (by show w.heap.size + 1 < _; omega)).trans (FZ.out 0)
  have x1 := ca1 1 _ rfl
  have z1 := cz1 1 _ rfl
  have y1 := (hb1.frozen (p := ⟨w.heap.size + 1, 1, none⟩) (by show w.heap.size + 1 < _; omega)).trans (FZ.out 1)
  have x2 := ca1 2 _ rfl
  have z2 := cz1 2 _ rfl
  have y2 := (hb1.frozen (p := ⟨w.heap.size + 1, 2, none⟩) (by show w.heap.size + 1 < _; omega)).trans (FZ.out 2)
  have x3 := ca1 3 _ rfl
  have z3 := cz1 3 _ rfl
  have y3 := (hb1.frozen (p := ⟨w.heap.size + 1, 3, none⟩) (by show w.heap.size + 1 < _; omega)).trans (FZ.out 3)
  have x4 := ca1 4 _ rfl
  have z4 := cz1 4 _ rfl
  have y4 := (hb1.frozen (p := ⟨w.heap.size + 1, 4, none⟩) (by show w.heap.size + 1 < _; omega)).trans (FZ.out 4)
  have x5 := ca1 5 _ rfl
  have z5 := cz1 5 _ rfl
  have y5 := (hb1.frozen (p := ⟨w.heap.size + 1, 5, none⟩) (by show w.heap.size + 1 < _; omega)).trans (FZ.out 5)
  simp only [Nat.zero_add] at x0 z0 x1 z1 x2 z2 x3 z3 x4 z4 x5 z5
  clear ho hb1 ca1 cz1 b0 s0
  go_wp2
  refine bodyPost_ret (v := .agg #[.int .i64 s.id, .int .i64 s.sq, .int .i64 s.beg, .int .i64 s.fin, .slice A1 s.bat.length c1, .bool s.put]) (by simp [results, Try.results33, go_sem, *]) rfl FIN.out

theorem far6I {w : World} {x : Nat} {u v0 v1 v2 v3 v4 v5 : Value} (h : w.cell? ⟨x, 0, none⟩ = some u) : ((((((w.setCell ⟨x + 1, 0, none⟩ v0).setCell ⟨x + 1, 1, none⟩ v1).setCell ⟨x + 1, 2, none⟩ v2).setCell ⟨x + 1, 3, none⟩ v3).setCell ⟨x + 1, 4, none⟩ v4).setCell ⟨x + 1, 5, none⟩ v5).cell? ⟨x, 0, none⟩ = some u := by
  have hn : ∀ (w : World) (i : Nat) (v : Value), (w.setCell ⟨x + 1, i, none⟩ v).cell? ⟨x, 0, none⟩ = w.cell? ⟨x, 0, none⟩ := fun w i v => World.cell?_setCell_other w ⟨x + 1, i, none⟩ ⟨x, 0, none⟩ v (fun e => by injection e with e1; omega)
  simp only [hn]
  exact h

def zIng : GIng := ⟨0, 0, 0, 0, [], false⟩

/-- what GiveBatch answers -/
def GbR (s : GIng) (ks : List GSam) (x : GIng) (cd : Int) : Prop :=
  (4096 < ks.length ∧ x = zIng ∧ cd = 2) ∨ (ks.length ≤ 4096 ∧ ¬ (IngP s ∧ SamP ks) ∧ x = zIng ∧ cd = 1) ∨ ((IngP s ∧ SamP ks) ∧ ¬ (1 ≤ ks.length ∧ ks.length ≤ 8) ∧ x = zIng ∧ cd = 8) ∨
  ((IngP s ∧ SamP ks) ∧ (1 ≤ ks.length ∧ ks.length ≤ 8) ∧ 0 < s.bat.length ∧ x = s ∧ cd = 9) ∨ ((IngP s ∧ SamP ks) ∧ (1 ≤ ks.length ∧ ks.length ≤ 8) ∧ s.bat = [] ∧ x = ⟨s.id, 0, 0, 0, ks, false⟩ ∧ cd = 0)

theorem GbR.one {s : GIng} {ks : List GSam} {x x' : GIng} {cd cd' : Int} (h : GbR s ks x cd) (h' : GbR s ks x' cd') : x' = x ∧ cd' = cd := by
  have hk : SamP ks → ks.length ≤ 4096 := fun h => h.1
  rcases h with ⟨a, rfl, rfl⟩ | ⟨a, b, rfl, rfl⟩ | ⟨a, b, rfl, rfl⟩ | ⟨a, b, c, rfl, rfl⟩ | ⟨a, b, c, rfl, rfl⟩ <;> rcases h' with ⟨p, rfl, rfl⟩ | ⟨p, q, rfl, rfl⟩ | ⟨p, q, rfl, rfl⟩ | ⟨p, q, r, rfl, rfl⟩ | ⟨p, q, r, rfl, rfl⟩
  all_goals first
    | exact ⟨rfl, rfl⟩
    | (exfalso; omega)
    | exact absurd p b
    | exact absurd a q
    | (exfalso; have := hk a.2; omega)
    | (exfalso; have := hk p.2; omega)
    | (exfalso; rw [r] at c; simp at c)
    | (exfalso; rw [c] at r; simp at r)

theorem GbR.len {s : GIng} {ks : List GSam} {x : GIng} {cd : Int} (h : GbR s ks x cd) : x.bat.length ≤ 8 := by
  rcases h with ⟨_, rfl, _⟩ | ⟨_, _, rfl, _⟩ | ⟨_, _, rfl, _⟩ | ⟨a, _, _, rfl, _⟩ | ⟨_, b, _, rfl, _⟩
  · simp [zIng]
  · simp [zIng]
  · simp [zIng]
  · exact a.1.2.1
  · exact b.2

def GbEnd (s : GIng) (ks : List GSam) (w : World) (e : Ending) (w' : World) : Prop :=
  ∃ (x : GIng) (cd : Int) (A1 : Option Addr) (c1 : Nat), GbR s ks x cd ∧ e = .returned (.tuple #[.agg #[.int .i64 x.id, .int .i64 x.sq, .int .i64 x.beg, .int .i64 x.fin, .slice A1 x.bat.length c1, .bool x.put], .int .i64 cd]) ∧ OwnSl GSam.vals 2 47 w.heap.size w' (.slice A1 x.bat.length c1) x.bat ∧ Below w.heap.size w w'

set_option maxRecDepth 100000 in
set_option maxHeartbeats 4000000 in
theorem giveBatch_any (A : Option Addr) (c : Nat) (s : GIng) (Ak : Option Addr) (ck : Nat) (ks : List GSam) (B : Nat) (w : World) (h : SamsAt w B A s.bat) (hk : SamsAt w B Ak ks) (hB : B ≤ w.heap.size) (hl : s.bat.length ≤ 1048576) (hkl : ks.length ≤ 1048576) :
    Calls Try.prog 19 #[.agg #[.int .i64 s.id, .int .i64 s.sq, .int .i64 s.beg, .int .i64 s.fin, .slice A s.bat.length c, .bool s.put], .slice Ak ks.length ck] w (GbEnd s ks w) := by
  have H := Lib.hid h; clear h
  have HK := Lib.hid hk; clear hk
  by_cases h4 : 4096 < ks.length
  · have u1 : decide ((ks.length : Int) > 4096) = true := decide_eq_true (by omega)
    have u2 : decide (4096 < (ks.length : Int)) = true := decide_eq_true (by omega)
    have BK : Hid (Below w.heap.size w w) := Lib.hid (Below.refl _ _)
    clear H HK
    go_enter Try.func19, Try.ntmps19
    go_wp2
    refine bodyPost_ret (v := .tuple #[.agg #[.int .i64 0, .int .i64 0, .int .i64 0, .int .i64 0, .slice none 0 0, .bool false], .int .i64 2]) (by simp [results, Try.results19, go_sem, *]) rfl ⟨zIng, 2, none, 0, .inl ⟨by omega, rfl, rfl⟩, rfl, ⟨rfl, .inl ⟨rfl, rfl⟩⟩, ?_⟩
    repeat' first | with_reducible exact BK.out | (with_reducible exact Below.refl _ _) | (with_reducible refine bal ?_ _) | (with_reducible refine bset ?_ (by first | exact Nat.le_refl _ | exact Nat.le_succ _ | simp) _)
  have u1 : decide ((ks.length : Int) > 4096) = false := decide_eq_false (by omega)
  have u2 : decide (4096 < (ks.length : Int)) = false := decide_eq_false (by omega)
  have h4' : ks.length ≤ 4096 := by omega
  clear h4
  obtain ⟨W, hW⟩ : ∃ W, W = (w.alloc (.cells #[.int .i64 s.id, .int .i64 s.sq, .int .i64 s.beg, .int .i64 s.fin, .slice A s.bat.length c, .bool s.put] 24)).alloc (.cells #[.int .i64 0, .int .i64 0, .int .i64 0, .int .i64 0, .slice none 0 0, .bool false] 24) := ⟨_, rfl⟩
  have ca : Cells W w.heap.size 0 [.int .i64 s.id, .int .i64 s.sq, .int .i64 s.beg, .int .i64 s.fin, .slice A s.bat.length c, .bool s.put] := by rw [hW]; exact (Cells.new w _ _).below (bal (Below.refl _ _) _) (by simp)
  have cz : Cells W (w.heap.size + 1) 0 [.int .i64 0, .int .i64 0, .int .i64 0, .int .i64 0, .slice none 0 0, .bool false] := by
    rw [hW]; have := Cells.new (w.alloc (.cells #[.int .i64 s.id, .int .i64 s.sq, .int .i64 s.beg, .int .i64 s.fin, .slice A s.bat.length c, .bool s.put] 24)) [.int .i64 0, .int .i64 0, .int .i64 0, .int .i64 0, .slice none 0 0, .bool false] 24; simpa using this
  have fz : ∀ i, W.frozen? ⟨w.heap.size + 1, i, none⟩ = false := fun i => by rw [hW]; simp [go_sem]
  have b0 : Below w.heap.size w W := by rw [hW]; exact bal (bal (Below.refl _ _) _) _
  have s0 : W.heap.size = w.heap.size + 2 := by rw [hW]; simp
  have HW := Lib.hid hW; clear hW
  have CA : Hid (∀ w', Below W.heap.size W w' → Cells w' w.heap.size 0 [.int .i64 s.id, .int .i64 s.sq, .int .i64 s.beg, .int .i64 s.fin, .slice A s.bat.length c, .bool s.put]) := Lib.hid (fun w' hb => ca.below hb (by omega))
  have CZ : Hid (∀ w', Below W.heap.size W w' → Cells w' (w.heap.size + 1) 0 [.int .i64 0, .int .i64 0, .int .i64 0, .int .i64 0, .slice none 0 0, .bool false]) := Lib.hid (fun w' hb => cz.below hb (by omega))
  have FZ : Hid (∀ w', Below W.heap.size W w' → ∀ i, w'.frozen? ⟨w.heap.size + 1, i, none⟩ = false) := Lib.hid (fun w' hb i => (hb.frozen (p := ⟨w.heap.size + 1, i, none⟩) (by show w.heap.size + 1 < _; omega)).trans (fz i))
  clear ca cz fz
  go_enter Try.func19, Try.ntmps19
  go_wp2_with fail
  rw [← HW.out]
  refine (ingRight_any A c s B W (Sl.below H.out b0 hB) (by omega) hl).mono ?_
  rintro e w1 ⟨r1, hr1, rfl, hb1⟩
  have HR := Lib.hid hr1; clear hr1
  have b1 : Below w.heap.size w w1 := b0.trans (hb1.mono (by omega))
  cases r1
  · have cz1 := CZ.out _ hb1
    have z0 := cz1 0 _ rfl
    have y0 := FZ.out _ hb1 0
    have z1 := cz1 1 _ rfl
    have y1 := FZ.out _ hb1 1
    have z2 := cz1 2 _ rfl
    have y2 := FZ.out _ hb1 2
    have z3 := cz1 3 _ rfl
    have y3 := FZ.out _ hb1 3
    have z4 := cz1 4 _ rfl
    have y4 := FZ.out _ hb1 4
    have z5 := cz1 5 _ rfl
    have y5 := FZ.out _ hb1 5
    simp only [Nat.zero_add] at z0 z1 z2 z3 z4 z5
    have BK : Hid (Below w.heap.size w w1) := Lib.hid b1
    have HN : Hid (¬ (IngP s ∧ SamP ks)) := Lib.hid (fun h => by have := HR.out.2 h.1; cases this)
    clear cz1 hb1 b1 b0 s0
    go_wp2
    refine bodyPost_ret (v := .tuple #[.agg #[.int .i64 0, .int .i64 0, .int .i64 0, .int .i64 0, .slice none 0 0, .bool false], .int .i64 1]) (by simp [results, Try.results19, go_sem, *]) rfl ⟨zIng, 1, none, 0, .inr (.inl ⟨h4', HN.out, rfl, rfl⟩), rfl, ⟨rfl, .inl ⟨rfl, rfl⟩⟩, ?_⟩
    repeat' first | with_reducible exact BK.out | (with_reducible exact Below.refl _ _) | (with_reducible refine bal ?_ _) | (with_reducible refine bset ?_ (by first | exact Nat.le_refl _ | exact Nat.le_succ _ | simp) _)
  have HI : Hid (IngP s) := Lib.hid (HR.out.1 rfl)
  clear HR
  go_wp2_with fail
  refine (samplesOK_any Ak ck ks B w1 (Sl.below HK.out b1 hB) (Nat.le_trans hB b1.size) hkl).mono ?_
  rintro e w2 ⟨r2, hr2, rfl, hb2'⟩
  have HR := Lib.hid hr2; clear hr2
  have hb2 : Below W.heap.size W w2 := hb1.trans (hb2'.mono hb1.size)
  have b2 : Below w.heap.size w w2 := b0.trans (hb2.mono (by omega))
  clear hb1 hb2' b1
  cases r2
  · have cz1 := CZ.out _ hb2
    have z0 := cz1 0 _ rfl
    have y0 := FZ.out _ hb2 0
    have z1 := cz1 1 _ rfl
    have y1 := FZ.out _ hb2 1
    have z2 := cz1 2 _ rfl
    have y2 := FZ.out _ hb2 2
    have z3 := cz1 3 _ rfl
    have y3 := FZ.out _ hb2 3
    have z4 := cz1 4 _ rfl
    have y4 := FZ.out _ hb2 4
    have z5 := cz1 5 _ rfl
    have y5 := FZ.out _ hb2 5
    simp only [Nat.zero_add] at z0 z1 z2 z3 z4 z5
    have BK : Hid (Below w.heap.size w w2) := Lib.hid b2
    have HN : Hid (¬ (IngP s ∧ SamP ks)) := Lib.hid (fun h => by have := HR.out.2 h.2; cases this)
    clear cz1 hb2 b2 b0 s0
    go_wp2
    refine bodyPost_ret (v := .tuple #[.agg #[.int .i64 0, .int .i64 0, .int .i64 0, .int .i64 0, .slice none 0 0, .bool false], .int .i64 1]) (by simp [results, Try.results19, go_sem, *]) rfl ⟨zIng, 1, none, 0, .inr (.inl ⟨h4', HN.out, rfl, rfl⟩), rfl, ⟨rfl, .inl ⟨rfl, rfl⟩⟩, ?_⟩
    repeat' first | with_reducible exact BK.out | (with_reducible exact Below.refl _ _) | (with_reducible refine bal ?_ _) | (with_reducible refine bset ?_ (by first | exact Nat.le_refl _ | exact Nat.le_succ _ | simp) _)
  have HS : Hid (SamP ks) := Lib.hid (HR.out.1 rfl)
  clear HR
  have cz1 := CZ.out _ hb2
  have z0 := cz1 0 _ rfl
  have y0 := FZ.out _ hb2 0
  have z1 := cz1 1 _ rfl
  have y1 := FZ.out _ hb2 1
  have z2 := cz1 2 _ rfl
  have y2 := FZ.out _ hb2 2
  have z3 := cz1 3 _ rfl
  have y3 := FZ.out _ hb2 3
  have z4 := cz1 4 _ rfl
  have y4 := FZ.out _ hb2 4
  have z5 := cz1 5 _ rfl
  have y5 := FZ.out _ hb2 5
  simp only [Nat.zero_add] at z0 z1 z2 z3 z4 z5
  clear cz1
  go_wp2_with fail
  refine (within_any _ _ _ _).mono ?_
  rintro e w3 ⟨rfl, rfl⟩
  cases d : inB (ks.length : Int) 1 8
  · have BK : Hid (Below w.heap.size w w2) := Lib.hid b2
    have HN : Hid (¬ (1 ≤ ks.length ∧ ks.length ≤ 8)) := Lib.hid (fun h => by have := inB_iff.2 (show (1 : Int) ≤ ks.length ∧ (ks.length : Int) ≤ 8 by omega); rw [d] at this; cases this)
    clear d hb2 b2 b0 s0
    go_wp2
    refine bodyPost_ret (v := .tuple #[.agg #[.int .i64 0, .int .i64 0, .int .i64 0, .int .i64 0, .slice none 0 0, .bool false], .int .i64 8]) (by simp [results, Try.results19, go_sem, *]) rfl ⟨zIng, 8, none, 0, .inr (.inr (.inl ⟨⟨HI.out, HS.out⟩, HN.out, rfl, rfl⟩)), rfl, ⟨rfl, .inl ⟨rfl, rfl⟩⟩, ?_⟩
    repeat' first | with_reducible exact BK.out | (with_reducible exact Below.refl _ _) | (with_reducible refine bal ?_ _) | (with_reducible refine bset ?_ (by first | exact Nat.le_refl _ | exact Nat.le_succ _ | simp) _)
  have h18 : 1 ≤ ks.length ∧ ks.length ≤ 8 := by have := inB_iff.1 d; omega
  clear d
  have ca2 := CA.out _ hb2
  have x0 := ca2 0 _ rfl
  have x1 := ca2 1 _ rfl
  have x2 := ca2 2 _ rfl
  have x3 := ca2 3 _ rfl
  have x4 := ca2 4 _ rfl
  have x5 := ca2 5 _ rfl
  simp only [Nat.zero_add] at x0 x1 x2 x3 x4 x5
  clear ca2
  by_cases h0 : 0 < s.bat.length
  · have v1 : decide ((s.bat.length : Int) > 0) = true := decide_eq_true (by omega)
    have v2 : decide (0 < (s.bat.length : Int)) = true := decide_eq_true (by omega)
    go_wp2_with fail
    refine (ingCopied_any A c s B w2 (Sl.below H.out b2 hB) (Nat.le_trans hB b2.size) hl).mono ?_
    rintro e w3 ⟨A1, c1, rfl, ho, hb3'⟩
    have hb3 : Below W.heap.size W w3 := hb2.trans (hb3'.mono hb2.size)
    have b3 : Below w.heap.size w w3 := b0.trans (hb3.mono (by omega))
    have s2 : W.heap.size ≤ w2.heap.size := hb2.size
    have cz3 := CZ.out _ hb3
    clear z0 z1 z2 z3 z4 z5 y0 y1 y2 y3 y4 y5 x0 x1 x2 x3 x4 x5
    have z0 := cz3 0 _ rfl
    have y0 := FZ.out _ hb3 0
    have z1 := cz3 1 _ rfl
    have y1 := FZ.out _ hb3 1
    have z2 := cz3 2 _ rfl
    have y2 := FZ.out _ hb3 2
    have z3 := cz3 3 _ rfl
    have y3 := FZ.out _ hb3 3
    have z4 := cz3 4 _ rfl
    have y4 := FZ.out _ hb3 4
    have z5 := cz3 5 _ rfl
    have y5 := FZ.out _ hb3 5
    simp only [Nat.zero_add] at z0 z1 z2 z3 z4 z5
    have BK : Hid (Below w.heap.size w w3) := Lib.hid b3
    have HO := Lib.hid ho
    clear cz3 ho hb3' hb3 hb2 b3 b2
    go_wp2
    refine bodyPost_ret (v := .tuple #[.agg #[.int .i64 s.id, .int .i64 s.sq, .int .i64 s.beg, .int .i64 s.fin, .slice A1 s.bat.length c1, .bool s.put], .int .i64 9]) (by simp [results, Try.results19, go_sem, *]) rfl ⟨s, 9, A1, c1, .inr (.inr (.inr (.inl ⟨⟨HI.out, HS.out⟩, h18, h0, rfl, rfl⟩))), rfl, own_monoI (base := w2.heap.size) ?_ (by omega), ?_⟩
    · repeat' first | with_reducible exact HO.out | (with_reducible refine own_farI ?_ (by dsimp only; omega) _)
    · repeat' first | with_reducible exact BK.out | (with_reducible exact Below.refl _ _) | (with_reducible refine bal ?_ _) | (with_reducible refine bset ?_ (by first | exact Nat.le_refl _ | exact Nat.le_succ _ | simp) _)
  have v1 : decide ((s.bat.length : Int) > 0) = false := decide_eq_false (by omega)
  have v2 : decide (0 < (s.bat.length : Int)) = false := decide_eq_false (by omega)
  have he : s.bat = [] := List.length_eq_zero_iff.1 (by omega)
  have HE := Lib.hid he; clear he
  have s2 : W.heap.size ≤ w2.heap.size := hb2.size
  go_wp2_with fail
  go_region_held3 (fun w' => w'.cell? ⟨w.heap.size, 0, none⟩ = some (.int .i64 s.id))
    (first | (with_reducible exact hx3) | (with_reducible exact far6I hx3) | (with_reducible exact x0) | exact (show w2.drew.cell? ⟨w.heap.size, 0, none⟩ = some (.int .i64 s.id) from x0))
    (first | (go_at_call 34; refine (cloneSam_any Ak ck ks B w2.drew (by exact Sl.below HK.out b2.drew hB) (by exact Nat.le_trans hB b2.size) hkl).mono ?_; rintro e w3 ⟨A1, c1, rfl, ho, hb3'⟩; have HO := Lib.hid ho; clear ho; have hb3 : Below w2.heap.size w2 w3 := (Below.refl _ _).drew.trans hb3'; clear hb3'; have hx3 : w3.cell? ⟨w.heap.size, 0, none⟩ = some (.int .i64 s.id) := (hb3.cell (p := ⟨w.heap.size, 0, none⟩) (by show w.heap.size < _; omega)).trans x0; have hw3 : Below W.heap.size W w3 := hb2.trans (hb3.mono hb2.size); have cz3 := CZ.out _ hw3; clear z0 z1 z2 z3 z4 z5 y0 y1 y2 y3 y4 y5; have z0 := cz3 0 _ rfl; have y0 := FZ.out _ hw3 0; have z1 := cz3 1 _ rfl; have y1 := FZ.out _ hw3 1; have z2 := cz3 2 _ rfl; have y2 := FZ.out _ hw3 2; have z3 := cz3 3 _ rfl; have y3 := FZ.out _ hw3 3; have z4 := cz3 4 _ rfl; have y4 := FZ.out _ hw3 4; have z5 := cz3 5 _ rfl; have y5 := FZ.out _ hw3 5; simp only [Nat.zero_add] at z0 z1 z2 z3 z4 z5))
  have BK : Hid (Below w.heap.size w w3) := Lib.hid (b2.trans (hb3.mono b2.size))
  have hdr : w2.drew.heap.size = w2.heap.size := rfl
  clear cz3 hw3 hb3 hb2 b2
  go_wp2
  refine bodyPost_ret (v := .tuple #[.agg #[.int .i64 s.id, .int .i64 0, .int .i64 0, .int .i64 0, .slice A1 ks.length c1, .bool false], .int .i64 0]) (by simp [results, Try.results19, go_sem, *]) rfl ⟨⟨s.id, 0, 0, 0, ks, false⟩, 0, A1, c1, .inr (.inr (.inr (.inr ⟨⟨HI.out, HS.out⟩, h18, HE.out, rfl, rfl⟩))), rfl, own_monoI (base := w2.drew.heap.size) ?_ (by omega), ?_⟩
  · repeat' first | with_reducible exact HO.out | (with_reducible refine own_farI ?_ (by dsimp only; omega) _)
  · repeat' first | with_reducible exact BK.out | (with_reducible exact Below.refl _ _) | (with_reducible refine bal ?_ _) | (with_reducible refine bset ?_ (by first | exact Nat.le_refl _ | exact Nat.le_succ _ | simp) _)

end Go.Proofs.Ytpfanmcjlfdaiaa
