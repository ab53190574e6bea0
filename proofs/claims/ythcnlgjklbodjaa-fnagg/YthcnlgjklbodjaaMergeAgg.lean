/-
  Contracts of MergeAgg of both packages: the aggregate of both, and the code. No conditions.
-/
import Derived.Test.YthcnlgjklbodjaaMergeLoop
namespace Go.Proofs.Ythcnlgjklbodjaa
open Go.ChangeShapes Go.WideShapes Go.ChangeAt Go.RowKit
set_option linter.unusedVariables false

/-- both together, and the code -/
def MergeR (a b r : GAgg) (c : Int) : Prop := (¬ (AggP a ∧ AggP b) ∧ r = zAgg ∧ c = 1) ∨ (AggP a ∧ AggP b ∧ 100000 < a.cnt + b.cnt ∧ r = zAgg ∧ c = 6) ∨ (AggP a ∧ AggP b ∧ a.cnt + b.cnt ≤ 100000 ∧ r = gMerge a b ∧ c = 0)

theorem MergeR.one {a b r r' : GAgg} {c c' : Int} (h : MergeR a b r c) (h' : MergeR a b r' c') : r = r' ∧ c = c' := by
  by_cases hp : AggP a ∧ AggP b
  · by_cases hc : 100000 < a.cnt + b.cnt
    · have e : r = zAgg ∧ c = 6 := by
        rcases h with h | h | h
        · exact absurd hp h.1
        · exact h.2.2.2
        · exact absurd hc (by omega)
      have e' : r' = zAgg ∧ c' = 6 := by
        rcases h' with h | h | h
        · exact absurd hp h.1
        · exact h.2.2.2
        · exact absurd hc (by omega)
      exact ⟨e.1.trans e'.1.symm, e.2.trans e'.2.symm⟩
    · have e : r = gMerge a b ∧ c = 0 := by
        rcases h with h | h | h
        · exact absurd hp h.1
        · exact absurd h.2.2.1 hc
        · exact h.2.2.2
      have e' : r' = gMerge a b ∧ c' = 0 := by
        rcases h' with h | h | h
        · exact absurd hp h.1
        · exact absurd h.2.2.1 hc
        · exact h.2.2.2
      exact ⟨e.1.trans e'.1.symm, e.2.trans e'.2.symm⟩
  · have e : r = zAgg ∧ c = 1 := by
      rcases h with h | h | h
      · exact h.2
      · exact absurd ⟨h.1, h.2.1⟩ hp
      · exact absurd ⟨h.1, h.2.1⟩ hp
    have e' : r' = zAgg ∧ c' = 1 := by
      rcases h' with h | h | h
      · exact h.2
      · exact absurd ⟨h.1, h.2.1⟩ hp
      · exact absurd ⟨h.1, h.2.1⟩ hp
    exact ⟨e.1.trans e'.1.symm, e.2.trans e'.2.symm⟩

theorem gMerge_z (a : GAgg) : gMerge zAgg a = a := by simp [gMerge, zAgg]

theorem gMerge_cnt {a b : GAgg} : (gMerge a b).cnt = a.cnt + b.cnt := by
  unfold gMerge
  split
  · omega
  · split
    · omega
    · rfl

theorem mergeAll_two {a b : GAgg} (ha : AggP a) (hb : AggP b) : MergeR a b (mergeAll zAgg [a, b]).1 (mergeAll zAgg [a, b]).2 := by
  have s := ha.small
  have e : mergeAll zAgg [a, b] = if 100000 < a.cnt + b.cnt then (zAgg, 6) else (gMerge a b, 0) := by
    unfold mergeAll
    rw [gMerge_z, if_neg (by omega)]
    unfold mergeAll
    rw [gMerge_cnt]
    rfl
  rw [e]
  by_cases h : 100000 < a.cnt + b.cnt
  · rw [if_pos h]; exact Or.inr (Or.inl ⟨ha, hb, h, rfl, rfl⟩)
  · rw [if_neg h]; exact Or.inr (Or.inr ⟨ha, hb, by omega, rfl, rfl⟩)

theorem two_aggs (w : World) (a b : GAgg) (e : TypeId) : AggsAt (w.alloc (.cells #[.int .i64 a.cnt, .int .i64 a.sum, .int .i64 a.mn, .int .i64 a.mx, .int .i64 a.fst, .int .i64 a.lst, .int .i64 b.cnt, .int .i64 b.sum, .int .i64 b.mn, .int .i64 b.mx, .int .i64 b.fst, .int .i64 b.lst] e)) (w.heap.size + 1) (some ⟨w.heap.size, 0, none⟩) [a, b] := by
  intro _
  refine ⟨w.heap.size, 0, rfl, by omega, fun k hk j v hv => ?_⟩
  rw [World.cell?_alloc_new]
  match k, hk with
  | 0, _ =>
    match j with
    | 0 | 1 | 2 | 3 | 4 | 5 => simpa [GAgg.vals] using hv
    | j + 6 => simp [GAgg.vals] at hv
  | 1, _ =>
    match j with
    | 0 | 1 | 2 | 3 | 4 | 5 => simpa [GAgg.vals] using hv
    | j + 6 => simp [GAgg.vals] at hv

set_option maxRecDepth 100000 in
theorem mergeAgg_any (a b : GAgg) (w : World) : Calls Try.prog 30 #[.agg #[.int .i64 a.cnt, .int .i64 a.sum, .int .i64 a.mn, .int .i64 a.mx, .int .i64 a.fst, .int .i64 a.lst], .agg #[.int .i64 b.cnt, .int .i64 b.sum, .int .i64 b.mn, .int .i64 b.mx, .int .i64 b.fst, .int .i64 b.lst]] w fun e w' => ∃ r c, e = .returned (.tuple #[.agg #[.int .i64 r.cnt, .int .i64 r.sum, .int .i64 r.mn, .int .i64 r.mx, .int .i64 r.fst, .int .i64 r.lst], .int .i64 c]) ∧ MergeR a b r c ∧ Below w.heap.size w w' := by
  by_cases ha : AggP a
  · by_cases hb : AggP b
    · have Ha := Lib.hid ha
      have Hb := Lib.hid hb
      have sa := ha.small
      have sb := hb.small
      clear ha hb
      go_enter Try.func30, Try.ntmps30
      go_wp2_with fail
      obtain ⟨W, hW⟩ : ∃ W, W = ((w.alloc (.cells #[.int .i64 a.cnt, .int .i64 a.sum, .int .i64 a.mn, .int .i64 a.mx, .int .i64 a.fst, .int .i64 a.lst] 49)).alloc (.cells #[.int .i64 b.cnt, .int .i64 b.sum, .int .i64 b.mn, .int .i64 b.mx, .int .i64 b.fst, .int .i64 b.lst] 49)).alloc (.cells #[.int .i64 0, .int .i64 0, .int .i64 0, .int .i64 0, .int .i64 0, .int .i64 0] 49) := ⟨_, rfl⟩
      have t0 : Six W w.heap.size a := by rw [hW]; exact ((Six.new _ _ _).alloc (by simp) _).alloc (by simp; omega) _
      have t1 : Six W (w.heap.size + 1) b := by rw [hW]; have := (Six.new (w.alloc (.cells #[.int .i64 a.cnt, .int .i64 a.sum, .int .i64 a.mn, .int .i64 a.mx, .int .i64 a.fst, .int .i64 a.lst] 49)) b 49).alloc (by simp) (.cells #[.int .i64 0, .int .i64 0, .int .i64 0, .int .i64 0, .int .i64 0, .int .i64 0] 49); simpa using this
      have t2 : Six W (w.heap.size + 1 + 1) zAgg := by rw [hW]; have := Six.new ((w.alloc (.cells #[.int .i64 a.cnt, .int .i64 a.sum, .int .i64 a.mn, .int .i64 a.mx, .int .i64 a.fst, .int .i64 a.lst] 49)).alloc (.cells #[.int .i64 b.cnt, .int .i64 b.sum, .int .i64 b.mn, .int .i64 b.mx, .int .i64 b.fst, .int .i64 b.lst] 49)) zAgg 49; simpa [zAgg] using this
      have f2 : Free W (some ⟨w.heap.size + 1 + 1, 0, none⟩) := by rw [hW]; have := free_alloc ((w.alloc (.cells #[.int .i64 a.cnt, .int .i64 a.sum, .int .i64 a.mn, .int .i64 a.mx, .int .i64 a.fst, .int .i64 a.lst] 49)).alloc (.cells #[.int .i64 b.cnt, .int .i64 b.sum, .int .i64 b.mn, .int .i64 b.mx, .int .i64 b.fst, .int .i64 b.lst] 49)) #[.int .i64 0, .int .i64 0, .int .i64 0, .int .i64 0, .int .i64 0, .int .i64 0] 49 0; simpa using this
      have b0 : Below w.heap.size w W := by rw [hW]; exact bal (bal (bal (Below.refl _ _) _) _) _
      have s0 : w.heap.size + 1 + 1 < W.heap.size := by rw [hW]; simp
      rw [← hW]
      clear hW
      have T := Lib.hid (And.intro t0 (And.intro t1 (And.intro t2 f2))); clear t0 t1 t2 f2
      generalize hx0 : w.heap.size = x0 at *
      have Hx0 := Lib.hid hx0; clear hx0
      refine (aggOK_yes a Ha.out W).mono ?_
      rintro e w1 ⟨rfl, hb1⟩
      have s1 : x0 + 1 + 1 < w1.heap.size := by have := hb1.size; omega
      obtain ⟨q0, q1, q2, q3, q4, q5⟩ := T.out.2.1.below hb1 (by omega)
      go_wp2_with fail
      refine (aggOK_yes b Hb.out w1).mono ?_
      rintro e w2 ⟨rfl, hb2⟩
      have hbW : Below W.heap.size W w2 := hb1.trans (hb2.mono hb1.size)
      have b2 : Below x0 w w2 := b0.trans (hbW.mono (by omega))
      have s2 : x0 + 1 + 1 < w2.heap.size := by have := hb2.size; omega
      clear hb1 hb2 s1 q0 q1 q2 q3 q4 q5 b0
      obtain ⟨p0, p1, p2, p3, p4, p5⟩ := T.out.1.below hbW (by omega)
      obtain ⟨q0, q1, q2, q3, q4, q5⟩ := T.out.2.1.below hbW (by omega)
      obtain ⟨z0, z1, z2, z3, z4, z5⟩ : (w2.cell? ⟨x0 + 1 + 1, 0, none⟩ = some (.int .i64 0) ∧ w2.cell? ⟨x0 + 1 + 1, 1, none⟩ = some (.int .i64 0) ∧ w2.cell? ⟨x0 + 1 + 1, 2, none⟩ = some (.int .i64 0) ∧ w2.cell? ⟨x0 + 1 + 1, 3, none⟩ = some (.int .i64 0) ∧ w2.cell? ⟨x0 + 1 + 1, 4, none⟩ = some (.int .i64 0) ∧ w2.cell? ⟨x0 + 1 + 1, 5, none⟩ = some (.int .i64 0)) := T.out.2.2.1.below hbW (by omega)
      have fz := T.out.2.2.2.below hbW (fun b e => by simp [blk] at e; omega)
      have y0 := fz _ rfl 0
      have y1 := fz _ rfl 1
      have y2 := fz _ rfl 2
      have y3 := fz _ rfl 3
      have y4 := fz _ rfl 4
      have y5 := fz _ rfl 5
      clear fz
      have Hr := Lib.hid (mergeAll_two Ha.out Hb.out)
      go_wp2_with fail
      refine (merge_any (some ⟨w2.heap.size, 0, none⟩) 2 [a, b] (w2.heap.size + 1) _ (two_aggs w2 a b 49) (by simp) (by simp; exact ⟨Ha.out, Hb.out⟩) (by simp)).mono ?_
      rintro e w3 ⟨rfl, hb3⟩
      generalize mergeAll zAgg [a, b] = R at *
      obtain ⟨r, c⟩ := R
      have hcc : Below (x0 + 1 + 1 + 1) W w3 := (hbW.mono (by omega)).trans (((Below.refl _ w2).alloc (by omega) _).trans (hb3.mono (by simp; omega)))
      have b3 : Below x0 w w3 := b2.trans (((Below.refl _ w2).alloc (by omega) _).trans (hb3.mono (by simp; omega)))
      clear p0 p1 p2 p3 p4 p5 q0 q1 q2 q3 q4 q5 z0 z1 z2 z3 z4 z5 y0 y1 y2 y3 y4 y5 hb3 b2 hbW
      obtain ⟨z0, z1, z2, z3, z4, z5⟩ : (w3.cell? ⟨x0 + 1 + 1, 0, none⟩ = some (.int .i64 0) ∧ w3.cell? ⟨x0 + 1 + 1, 1, none⟩ = some (.int .i64 0) ∧ w3.cell? ⟨x0 + 1 + 1, 2, none⟩ = some (.int .i64 0) ∧ w3.cell? ⟨x0 + 1 + 1, 3, none⟩ = some (.int .i64 0) ∧ w3.cell? ⟨x0 + 1 + 1, 4, none⟩ = some (.int .i64 0) ∧ w3.cell? ⟨x0 + 1 + 1, 5, none⟩ = some (.int .i64 0)) := T.out.2.2.1.below hcc (by omega)
      have fz := T.out.2.2.2.below hcc (fun b e => by simp [blk] at e; omega)
      have y0 := fz _ rfl 0
      have y1 := fz _ rfl 1
      have y2 := fz _ rfl 2
      have y3 := fz _ rfl 3
      have y4 := fz _ rfl 4
      have y5 := fz _ rfl 5
      clear fz
      unfold GAgg.val
      go_wp2
      refine bodyPost_ret (v := .tuple #[.agg #[.int .i64 r.cnt, .int .i64 r.sum, .int .i64 r.mn, .int .i64 r.mx, .int .i64 r.fst, .int .i64 r.lst], .int .i64 c]) (by simp [results, Try.results30, go_sem, *]) rfl ⟨r, c, rfl, Hr.out, ?_⟩
      rw [Hx0.out]
      exact setAgg_below b3 (by omega) r
    · have hM : MergeR a b zAgg 1 := Or.inl ⟨fun h => hb h.2, rfl, rfl⟩
      have HM := Lib.hid hM; clear hM
      have Ha := Lib.hid ha; clear ha
      have Hb := Lib.hid hb; clear hb
      go_enter Try.func30, Try.ntmps30
      go_wp2_with fail
      obtain ⟨W, hW⟩ : ∃ W, W = ((w.alloc (.cells #[.int .i64 a.cnt, .int .i64 a.sum, .int .i64 a.mn, .int .i64 a.mx, .int .i64 a.fst, .int .i64 a.lst] 49)).alloc (.cells #[.int .i64 b.cnt, .int .i64 b.sum, .int .i64 b.mn, .int .i64 b.mx, .int .i64 b.fst, .int .i64 b.lst] 49)).alloc (.cells #[.int .i64 0, .int .i64 0, .int .i64 0, .int .i64 0, .int .i64 0, .int .i64 0] 49) := ⟨_, rfl⟩
      have t0 : Six W w.heap.size a := by rw [hW]; exact ((Six.new _ _ _).alloc (by simp) _).alloc (by simp; omega) _
      have t1 : Six W (w.heap.size + 1) b := by rw [hW]; have := (Six.new (w.alloc (.cells #[.int .i64 a.cnt, .int .i64 a.sum, .int .i64 a.mn, .int .i64 a.mx, .int .i64 a.fst, .int .i64 a.lst] 49)) b 49).alloc (by simp) (.cells #[.int .i64 0, .int .i64 0, .int .i64 0, .int .i64 0, .int .i64 0, .int .i64 0] 49); simpa using this
      have t2 : Six W (w.heap.size + 1 + 1) zAgg := by rw [hW]; have := Six.new ((w.alloc (.cells #[.int .i64 a.cnt, .int .i64 a.sum, .int .i64 a.mn, .int .i64 a.mx, .int .i64 a.fst, .int .i64 a.lst] 49)).alloc (.cells #[.int .i64 b.cnt, .int .i64 b.sum, .int .i64 b.mn, .int .i64 b.mx, .int .i64 b.fst, .int .i64 b.lst] 49)) zAgg 49; simpa [zAgg] using this
      have f2 : Free W (some ⟨w.heap.size + 1 + 1, 0, none⟩) := by rw [hW]; have := free_alloc ((w.alloc (.cells #[.int .i64 a.cnt, .int .i64 a.sum, .int .i64 a.mn, .int .i64 a.mx, .int .i64 a.fst, .int .i64 a.lst] 49)).alloc (.cells #[.int .i64 b.cnt, .int .i64 b.sum, .int .i64 b.mn, .int .i64 b.mx, .int .i64 b.fst, .int .i64 b.lst] 49)) #[.int .i64 0, .int .i64 0, .int .i64 0, .int .i64 0, .int .i64 0, .int .i64 0] 49 0; simpa using this
      have b0 : Below w.heap.size w W := by rw [hW]; exact bal (bal (bal (Below.refl _ _) _) _) _
      have s0 : w.heap.size + 1 + 1 < W.heap.size := by rw [hW]; simp
      rw [← hW]
      clear hW
      have T := Lib.hid (And.intro t0 (And.intro t1 (And.intro t2 f2))); clear t0 t1 t2 f2
      generalize hx0 : w.heap.size = x0 at *
      have Hx0 := Lib.hid hx0; clear hx0
      refine (aggOK_yes a Ha.out W).mono ?_
      rintro e w1 ⟨rfl, hb1⟩
      have s1 : x0 + 1 + 1 < w1.heap.size := by have := hb1.size; omega
      obtain ⟨q0, q1, q2, q3, q4, q5⟩ := T.out.2.1.below hb1 (by omega)
      go_wp2_with fail
      refine (aggOK_no b Hb.out w1).mono ?_
      rintro e w2 ⟨rfl, hb2⟩
      have hbW : Below W.heap.size W w2 := hb1.trans (hb2.mono hb1.size)
      have b2 : Below x0 w w2 := b0.trans (hbW.mono (by omega))
      clear hb1 hb2 s1 q0 q1 q2 q3 q4 q5 b0
      obtain ⟨p0, p1, p2, p3, p4, p5⟩ := T.out.1.below hbW (by omega)
      obtain ⟨q0, q1, q2, q3, q4, q5⟩ := T.out.2.1.below hbW (by omega)
      obtain ⟨z0, z1, z2, z3, z4, z5⟩ : (w2.cell? ⟨x0 + 1 + 1, 0, none⟩ = some (.int .i64 0) ∧ w2.cell? ⟨x0 + 1 + 1, 1, none⟩ = some (.int .i64 0) ∧ w2.cell? ⟨x0 + 1 + 1, 2, none⟩ = some (.int .i64 0) ∧ w2.cell? ⟨x0 + 1 + 1, 3, none⟩ = some (.int .i64 0) ∧ w2.cell? ⟨x0 + 1 + 1, 4, none⟩ = some (.int .i64 0) ∧ w2.cell? ⟨x0 + 1 + 1, 5, none⟩ = some (.int .i64 0)) := T.out.2.2.1.below hbW (by omega)
      have fz := T.out.2.2.2.below hbW (fun b e => by simp [blk] at e; omega)
      have y0 := fz _ rfl 0
      have y1 := fz _ rfl 1
      have y2 := fz _ rfl 2
      have y3 := fz _ rfl 3
      have y4 := fz _ rfl 4
      have y5 := fz _ rfl 5
      clear fz
      go_wp2
      refine bodyPost_ret (v := .tuple #[.agg #[.int .i64 0, .int .i64 0, .int .i64 0, .int .i64 0, .int .i64 0, .int .i64 0], .int .i64 1]) (by simp [results, Try.results30, go_sem, *]) rfl ⟨zAgg, 1, rfl, HM.out, ?_⟩
      rw [Hx0.out]
      exact setAgg_below b2 (by omega) zAgg
  · have hM : MergeR a b zAgg 1 := Or.inl ⟨fun h => ha h.1, rfl, rfl⟩
    have HM := Lib.hid hM; clear hM
    have Ha := Lib.hid ha; clear ha
    go_enter Try.func30, Try.ntmps30
    go_wp2_with fail
    obtain ⟨W, hW⟩ : ∃ W, W = ((w.alloc (.cells #[.int .i64 a.cnt, .int .i64 a.sum, .int .i64 a.mn, .int .i64 a.mx, .int .i64 a.fst, .int .i64 a.lst] 49)).alloc (.cells #[.int .i64 b.cnt, .int .i64 b.sum, .int .i64 b.mn, .int .i64 b.mx, .int .i64 b.fst, .int .i64 b.lst] 49)).alloc (.cells #[.int .i64 0, .int .i64 0, .int .i64 0, .int .i64 0, .int .i64 0, .int .i64 0] 49) := ⟨_, rfl⟩
    have t0 : Six W w.heap.size a := by rw [hW]; exact ((Six.new _ _ _).alloc (by simp) _).alloc (by simp; omega) _
    have t1 : Six W (w.heap.size + 1) b := by rw [hW]; have := (Six.new (w.alloc (.cells #[.int .i64 a.cnt, .int .i64 a.sum, .int .i64 a.mn, .int .i64 a.mx, .int .i64 a.fst, .int .i64 a.lst] 49)) b 49).alloc (by simp) (.cells #[.int .i64 0, .int .i64 0, .int .i64 0, .int .i64 0, .int .i64 0, .int .i64 0] 49); simpa using this
    have t2 : Six W (w.heap.size + 1 + 1) zAgg := by rw [hW]; have := Six.new ((w.alloc (.cells #[.int .i64 a.cnt, .int .i64 a.sum, .int .i64 a.mn, .int .i64 a.mx, .int .i64 a.fst, .int .i64 a.lst] 49)).alloc (.cells #[.int .i64 b.cnt, .int .i64 b.sum, .int .i64 b.mn, .int .i64 b.mx, .int .i64 b.fst, .int .i64 b.lst] 49)) zAgg 49; simpa [zAgg] using this
    have f2 : Free W (some ⟨w.heap.size + 1 + 1, 0, none⟩) := by rw [hW]; have := free_alloc ((w.alloc (.cells #[.int .i64 a.cnt, .int .i64 a.sum, .int .i64 a.mn, .int .i64 a.mx, .int .i64 a.fst, .int .i64 a.lst] 49)).alloc (.cells #[.int .i64 b.cnt, .int .i64 b.sum, .int .i64 b.mn, .int .i64 b.mx, .int .i64 b.fst, .int .i64 b.lst] 49)) #[.int .i64 0, .int .i64 0, .int .i64 0, .int .i64 0, .int .i64 0, .int .i64 0] 49 0; simpa using this
    have b0 : Below w.heap.size w W := by rw [hW]; exact bal (bal (bal (Below.refl _ _) _) _) _
    have s0 : w.heap.size + 1 + 1 < W.heap.size := by rw [hW]; simp
    rw [← hW]
    clear hW
    have T := Lib.hid (And.intro t0 (And.intro t1 (And.intro t2 f2))); clear t0 t1 t2 f2
    generalize hx0 : w.heap.size = x0 at *
    have Hx0 := Lib.hid hx0; clear hx0
    refine (aggOK_no a Ha.out W).mono ?_
    rintro e w2 ⟨rfl, hbW⟩
    have b2 : Below x0 w w2 := b0.trans (hbW.mono (by omega))
    clear b0
    obtain ⟨p0, p1, p2, p3, p4, p5⟩ := T.out.1.below hbW (by omega)
    obtain ⟨q0, q1, q2, q3, q4, q5⟩ := T.out.2.1.below hbW (by omega)
    obtain ⟨z0, z1, z2, z3, z4, z5⟩ : (w2.cell? ⟨x0 + 1 + 1, 0, none⟩ = some (.int .i64 0) ∧ w2.cell? ⟨x0 + 1 + 1, 1, none⟩ = some (.int .i64 0) ∧ w2.cell? ⟨x0 + 1 + 1, 2, none⟩ = some (.int .i64 0) ∧ w2.cell? ⟨x0 + 1 + 1, 3, none⟩ = some (.int .i64 0) ∧ w2.cell? ⟨x0 + 1 + 1, 4, none⟩ = some (.int .i64 0) ∧ w2.cell? ⟨x0 + 1 + 1, 5, none⟩ = some (.int .i64 0)) := T.out.2.2.1.below hbW (by omega)
    have fz := T.out.2.2.2.below hbW (fun b e => by simp [blk] at e; omega)
    have y0 := fz _ rfl 0
    have y1 := fz _ rfl 1
    have y2 := fz _ rfl 2
    have y3 := fz _ rfl 3
    have y4 := fz _ rfl 4
    have y5 := fz _ rfl 5
    clear fz
    go_wp2
    refine bodyPost_ret (v := .tuple #[.agg #[.int .i64 0, .int .i64 0, .int .i64 0, .int .i64 0, .int .i64 0, .int .i64 0], .int .i64 1]) (by simp [results, Try.results30, go_sem, *]) rfl ⟨zAgg, 1, rfl, HM.out, ?_⟩
    rw [Hx0.out]
    exact setAgg_below b2 (by omega) zAgg

end Go.Proofs.Ythcnlgjklbodjaa
