/-
  Contract of the model's l06Takes: whether the log takes a right record. Conditions: the state is right; lengths.
-/
import Derived.Test.YtpfanmcjlfdaiaaGreatDoorRN10
import Derived.Test.YtpfanmcjlfdaiaaGreatDoorRN9
namespace Go.Proofs.YtpfanmcjlfdaiaaGreatDoorR
open Go.ChangeShapes Go.WideShapes Go.ChangeAt Go.RowKit Go.Deep Go.Joins Go.Maps
set_option linter.unusedVariables false
set_option linter.unusedSimpArgs false

/-- a state's box and a record's -/
def TakBox (A : Option Addr) (c : Nat) (A2 : Option Addr) (c2 : Nat) (s : GSt) (r : GRec) (x0 : Nat) (w : World) : Prop :=
  Cells w x0 0 [.int .i64 s.sq, .int .i64 s.fe, .slice A s.ents.length c, .slice A2 s.tmbs.length c2, .int .i64 s.lo.a, .int .i64 s.lo.b, .int .i64 s.lo.c, .int .i64 s.hi.a, .int .i64 s.hi.b, .int .i64 s.hi.c] ∧ Cells w (x0 + 1) 0 [.int .i64 r.kind, .int .i64 r.tok, .int .i64 r.tier, .int .i64 r.beg, .int .i64 r.fin, .string r.key] ∧ x0 + 1 < w.heap.size

theorem TakBox.below {A : Option Addr} {c : Nat} {A2 : Option Addr} {c2 : Nat} {s : GSt} {r : GRec} {x0 : Nat} {w w' : World} (h : TakBox A c A2 c2 s r x0 w) (hb : Below w.heap.size w w') : TakBox A c A2 c2 s r x0 w' :=
  ⟨h.1.below hb (by have := h.2.2; omega), h.2.1.below hb h.2.2, Nat.lt_of_lt_of_le h.2.2 hb.size⟩

theorem TakBox.six {A : Option Addr} {c : Nat} {A2 : Option Addr} {c2 : Nat} {s : GSt} {r : GRec} {x0 : Nat} {w : World} (h : TakBox A c A2 c2 s r x0 w) :
    w.cell? ⟨x0 + 1, 0, none⟩ = some (.int .i64 r.kind) ∧ w.cell? ⟨x0 + 1, 1, none⟩ = some (.int .i64 r.tok) ∧ w.cell? ⟨x0 + 1, 2, none⟩ = some (.int .i64 r.tier) ∧ w.cell? ⟨x0 + 1, 3, none⟩ = some (.int .i64 r.beg) ∧ w.cell? ⟨x0 + 1, 4, none⟩ = some (.int .i64 r.fin) ∧ w.cell? ⟨x0 + 1, 5, none⟩ = some (.string r.key) :=
  ⟨h.2.1 0 _ rfl, h.2.1 1 _ rfl, h.2.1 2 _ rfl, h.2.1 3 _ rfl, h.2.1 4 _ rfl, h.2.1 5 _ rfl⟩

set_option maxRecDepth 100000 in
set_option maxHeartbeats 4000000 in
theorem takes2 (A : Option Addr) (c : Nat) (A2 : Option Addr) (c2 : Nat) (s : GSt) (tk ti bg fi : Int) (ky : ByteArray) (B : Nat) (w : World) (h : StAt w B A A2 s) (hB : B ≤ w.heap.size) (hl : s.ents.length ≤ 1048576) (hl2 : s.tmbs.length ≤ 1048576) (hsp : StP s) (hrp : RecP ⟨2, tk, ti, bg, fi, ky⟩) (hky : ky.size ≤ 1048576) :
    Calls Tryz.prog 58 #[.agg #[.int .i64 s.sq, .int .i64 s.fe, .slice A s.ents.length c, .slice A2 s.tmbs.length c2, .int .i64 s.lo.a, .int .i64 s.lo.b, .int .i64 s.lo.c, .int .i64 s.hi.a, .int .i64 s.hi.b, .int .i64 s.hi.c], .agg #[.int .i64 2, .int .i64 tk, .int .i64 ti, .int .i64 bg, .int .i64 fi, .string ky]] w (IsBB (TakeP s ⟨2, tk, ti, bg, fi, ky⟩) w) := by
  have H := Lib.hid h; clear h
  have HT : Hid (decide (s.fe < tk) = true ↔ TakeP s ⟨2, tk, ti, bg, fi, ky⟩) := Lib.hid (by simp [TakeP])
  clear hsp hrp
  go_enter Tryz.func58, Tryz.ntmps58
  go_wp2_with fail
  have BX : Hid (TakBox A c A2 c2 s ⟨2, tk, ti, bg, fi, ky⟩ w.heap.size ((w.alloc (.cells #[.int .i64 s.sq, .int .i64 s.fe, .slice A s.ents.length c, .slice A2 s.tmbs.length c2, .int .i64 s.lo.a, .int .i64 s.lo.b, .int .i64 s.lo.c, .int .i64 s.hi.a, .int .i64 s.hi.b, .int .i64 s.hi.c] 34)).alloc (.cells #[.int .i64 2, .int .i64 tk, .int .i64 ti, .int .i64 bg, .int .i64 fi, .string ky] 38))) := Lib.hid (by
    have k1 := (Cells.new w [.int .i64 s.sq, .int .i64 s.fe, .slice A s.ents.length c, .slice A2 s.tmbs.length c2, .int .i64 s.lo.a, .int .i64 s.lo.b, .int .i64 s.lo.c, .int .i64 s.hi.a, .int .i64 s.hi.b, .int .i64 s.hi.c] 34).below (bal (Below.refl _ _) (.cells #[.int .i64 2, .int .i64 tk, .int .i64 ti, .int .i64 bg, .int .i64 fi, .string ky] 38)) (by simp)
    have k2 := Cells.new (w.alloc (.cells #[.int .i64 s.sq, .int .i64 s.fe, .slice A s.ents.length c, .slice A2 s.tmbs.length c2, .int .i64 s.lo.a, .int .i64 s.lo.b, .int .i64 s.lo.c, .int .i64 s.hi.a, .int .i64 s.hi.b, .int .i64 s.hi.c] 34)) [.int .i64 2, .int .i64 tk, .int .i64 ti, .int .i64 bg, .int .i64 fi, .string ky] 38
    exact ⟨k1, by simpa using k2, by simp⟩)
  have b0 : Below w.heap.size w ((w.alloc (.cells #[.int .i64 s.sq, .int .i64 s.fe, .slice A s.ents.length c, .slice A2 s.tmbs.length c2, .int .i64 s.lo.a, .int .i64 s.lo.b, .int .i64 s.lo.c, .int .i64 s.hi.a, .int .i64 s.hi.b, .int .i64 s.hi.c] 34)).alloc (.cells #[.int .i64 2, .int .i64 tk, .int .i64 ti, .int .i64 bg, .int .i64 fi, .string ky] 38)) := bal (bal (Below.refl _ _) _) _
  generalize ((w.alloc (.cells #[.int .i64 s.sq, .int .i64 s.fe, .slice A s.ents.length c, .slice A2 s.tmbs.length c2, .int .i64 s.lo.a, .int .i64 s.lo.b, .int .i64 s.lo.c, .int .i64 s.hi.a, .int .i64 s.hi.b, .int .i64 s.hi.c] 34)).alloc (.cells #[.int .i64 2, .int .i64 tk, .int .i64 ti, .int .i64 bg, .int .i64 fi, .string ky] 38)) = W at *
  generalize hx0 : w.heap.size = x0 at *
  have Hx0 := Lib.hid hx0; clear hx0
  have HS : Hid (∀ w', Below x0 w w' → StAt w' x0 A A2 s) := Lib.hid fun w' hb => (H.out.below hb (by have := Hx0.out; omega)).more (by have := Hx0.out; omega)
  clear H
  have hx2 := BX.out.2.2
  refine (toKey_any ky W hky).mono ?_
  rintro e w1 ⟨t, n, m, bk, rfl, hK, hb1⟩
  have b1 : Below x0 w w1 := b0.trans (hb1.mono (by omega))
  have B1 := Lib.hid (BX.out.below hb1)
  clear BX hb1 b0 hx2
  obtain ⟨c0, c1, c2', c3, c4, c5, c6, c7, c8, c9⟩ := B1.out.1.ten
  obtain ⟨r0, r1, r2, r3, r4, r5⟩ := B1.out.six
  clear hK
  go_wp2
  go_ret
  exact ⟨_, HT.out, rfl, by rw [Hx0.out]; exact b1⟩

set_option maxRecDepth 100000 in
set_option maxHeartbeats 4000000 in
theorem takes1 (A : Option Addr) (c : Nat) (A2 : Option Addr) (c2 : Nat) (s : GSt) (tk ti bg fi : Int) (ky : ByteArray) (B : Nat) (w : World) (h : StAt w B A A2 s) (hB : B ≤ w.heap.size) (hl : s.ents.length ≤ 1048576) (hl2 : s.tmbs.length ≤ 1048576) (hsp : StP s) (hrp : RecP ⟨1, tk, ti, bg, fi, ky⟩) (hky : ky.size ≤ 1048576) :
    Calls Tryz.prog 58 #[.agg #[.int .i64 s.sq, .int .i64 s.fe, .slice A s.ents.length c, .slice A2 s.tmbs.length c2, .int .i64 s.lo.a, .int .i64 s.lo.b, .int .i64 s.lo.c, .int .i64 s.hi.a, .int .i64 s.hi.b, .int .i64 s.hi.c], .agg #[.int .i64 1, .int .i64 tk, .int .i64 ti, .int .i64 bg, .int .i64 fi, .string ky]] w (IsBB (TakeP s ⟨1, tk, ti, bg, fi, ky⟩) w) := by
  have H := Lib.hid h; clear h
  have hIK : ∃ n m, IsKey ky ti n m := by
    simp [RecP, GRec.ent] at hrp
    exact hrp.2.2.1
  have HIK := Lib.hid hIK; clear hIK hrp
  have hw : wrap64 (s.sq + 1) = s.sq + 1 := by
    have := inB_iff.1 hsp.1
    unfold wrap64; omega
  have HT : Hid (∀ t n m, IsKey ky t n m → (TakeP s ⟨1, tk, ti, bg, fi, ky⟩ ↔ n = s.sq + 1 ∧ bg = s.hi.a ∧ memB ky (keysAll s) = false)) := Lib.hid fun t n m hK => by
    have hm : memB ky (keysAll s) = false ↔ ky ∉ keysAll s := by rw [← Bool.not_eq_true, memB_iff]
    rw [hm]
    constructor
    · rintro (⟨_, ⟨t', m', h⟩, h2, h3⟩ | ⟨h, _⟩ | ⟨h, _⟩ | ⟨h, _⟩ | ⟨h, _⟩)
      · obtain ⟨_, e, _⟩ := isKey_one hK h
        exact ⟨e, h2, h3⟩
      all_goals simp at h
    · rintro ⟨rfl, h2, h3⟩
      exact Or.inl ⟨rfl, ⟨t, m, hK⟩, h2, h3⟩
  clear hsp
  go_enter Tryz.func58, Tryz.ntmps58
  go_wp2_with fail
  have BX : Hid (TakBox A c A2 c2 s ⟨1, tk, ti, bg, fi, ky⟩ w.heap.size ((w.alloc (.cells #[.int .i64 s.sq, .int .i64 s.fe, .slice A s.ents.length c, .slice A2 s.tmbs.length c2, .int .i64 s.lo.a, .int .i64 s.lo.b, .int .i64 s.lo.c, .int .i64 s.hi.a, .int .i64 s.hi.b, .int .i64 s.hi.c] 34)).alloc (.cells #[.int .i64 1, .int .i64 tk, .int .i64 ti, .int .i64 bg, .int .i64 fi, .string ky] 38))) := Lib.hid (by
    have k1 := (Cells.new w [.int .i64 s.sq, .int .i64 s.fe, .slice A s.ents.length c, .slice A2 s.tmbs.length c2, .int .i64 s.lo.a, .int .i64 s.lo.b, .int .i64 s.lo.c, .int .i64 s.hi.a, .int .i64 s.hi.b, .int .i64 s.hi.c] 34).below (bal (Below.refl _ _) (.cells #[.int .i64 1, .int .i64 tk, .int .i64 ti, .int .i64 bg, .int .i64 fi, .string ky] 38)) (by simp)
    have k2 := Cells.new (w.alloc (.cells #[.int .i64 s.sq, .int .i64 s.fe, .slice A s.ents.length c, .slice A2 s.tmbs.length c2, .int .i64 s.lo.a, .int .i64 s.lo.b, .int .i64 s.lo.c, .int .i64 s.hi.a, .int .i64 s.hi.b, .int .i64 s.hi.c] 34)) [.int .i64 1, .int .i64 tk, .int .i64 ti, .int .i64 bg, .int .i64 fi, .string ky] 38
    exact ⟨k1, by simpa using k2, by simp⟩)
  have b0 : Below w.heap.size w ((w.alloc (.cells #[.int .i64 s.sq, .int .i64 s.fe, .slice A s.ents.length c, .slice A2 s.tmbs.length c2, .int .i64 s.lo.a, .int .i64 s.lo.b, .int .i64 s.lo.c, .int .i64 s.hi.a, .int .i64 s.hi.b, .int .i64 s.hi.c] 34)).alloc (.cells #[.int .i64 1, .int .i64 tk, .int .i64 ti, .int .i64 bg, .int .i64 fi, .string ky] 38)) := bal (bal (Below.refl _ _) _) _
  generalize ((w.alloc (.cells #[.int .i64 s.sq, .int .i64 s.fe, .slice A s.ents.length c, .slice A2 s.tmbs.length c2, .int .i64 s.lo.a, .int .i64 s.lo.b, .int .i64 s.lo.c, .int .i64 s.hi.a, .int .i64 s.hi.b, .int .i64 s.hi.c] 34)).alloc (.cells #[.int .i64 1, .int .i64 tk, .int .i64 ti, .int .i64 bg, .int .i64 fi, .string ky] 38)) = W at *
  generalize hx0 : w.heap.size = x0 at *
  have Hx0 := Lib.hid hx0; clear hx0
  have HS : Hid (∀ w', Below x0 w w' → StAt w' x0 A A2 s) := Lib.hid fun w' hb => (H.out.below hb (by have := Hx0.out; omega)).more (by have := Hx0.out; omega)
  clear H
  have hx2 := BX.out.2.2
  refine (toKey_any ky W hky).mono ?_
  rintro e w1 ⟨t, n, m, bk, rfl, hK, hb1⟩
  have b1 : Below x0 w w1 := b0.trans (hb1.mono (by omega))
  have B1 := Lib.hid (BX.out.below hb1)
  clear BX hb1 b0 hx2
  obtain ⟨c0, c1, c2', c3, c4, c5, c6, c7, c8, c9⟩ := B1.out.1.ten
  obtain ⟨r0, r1, r2, r3, r4, r5⟩ := B1.out.six
  rcases hK with ⟨rfl, hK⟩ | ⟨_, _, _, _, hN⟩
  rotate_left
  · obtain ⟨n, m, h⟩ := HIK.out; exact absurd h (hN _ _ _)
  have HTT := Lib.hid (HT.out t n m hK); clear hK HT
  by_cases h1 : n = s.sq + 1
  rotate_left
  · have d : (n == s.sq + 1) = false := by simpa using h1
    have HN := Lib.hid (show ¬ TakeP s ⟨1, tk, ti, bg, fi, ky⟩ from fun h => h1 (HTT.out.1 h).1)
    clear h1
    go_wp2
    go_ret
    exact IsBB.no HN.out (by rw [Hx0.out]; exact b1)
  by_cases h2 : bg = s.hi.a
  rotate_left
  · have d : (n == s.sq + 1) = true := by simpa using h1
    have d2 : (bg == s.hi.a) = false := by simpa using h2
    have HN := Lib.hid (show ¬ TakeP s ⟨1, tk, ti, bg, fi, ky⟩ from fun h => h2 (HTT.out.1 h).2.1)
    clear h1 h2
    go_wp2
    go_ret
    exact IsBB.no HN.out (by rw [Hx0.out]; exact b1)
  have d : (n == s.sq + 1) = true := by simpa using h1
  have d2 : (bg == s.hi.a) = true := by simpa using h2
  have HY := Lib.hid (show ∀ b, memB ky (keysAll s) = b → ((!b) = true ↔ TakeP s ⟨1, tk, ti, bg, fi, ky⟩) from fun b hb => by rw [HTT.out, hb]; simp [h1, h2])
  clear h1 h2
  go_wp2_with fail
  refine (l06Named_any A c A2 c2 s ky x0 w1 (HS.out _ b1) (by have := B1.out.2.2; omega) hl hl2).mono ?_
  rintro e w2 ⟨rfl, hb2⟩
  have b2 : Below x0 w w2 := b1.trans (hb2.mono (by have := B1.out.2.2; omega))
  have HY2 := Lib.hid (HY.out _ rfl)
  clear hb2 HY
  generalize memB ky (keysAll s) = mb at *
  go_wp2
  go_ret
  exact ⟨_, HY2.out, rfl, by rw [Hx0.out]; exact b2⟩

set_option maxRecDepth 100000 in
set_option maxHeartbeats 4000000 in
theorem takes5 (A : Option Addr) (c : Nat) (A2 : Option Addr) (c2 : Nat) (s : GSt) (tk ti bg fi : Int) (ky : ByteArray) (B : Nat) (w : World) (h : StAt w B A A2 s) (hB : B ≤ w.heap.size) (hl : s.ents.length ≤ 1048576) (hl2 : s.tmbs.length ≤ 1048576) (hsp : StP s) (hrp : RecP ⟨5, tk, ti, bg, fi, ky⟩) (hky : ky.size ≤ 1048576) :
    Calls Tryz.prog 58 #[.agg #[.int .i64 s.sq, .int .i64 s.fe, .slice A s.ents.length c, .slice A2 s.tmbs.length c2, .int .i64 s.lo.a, .int .i64 s.lo.b, .int .i64 s.lo.c, .int .i64 s.hi.a, .int .i64 s.hi.b, .int .i64 s.hi.c], .agg #[.int .i64 5, .int .i64 tk, .int .i64 ti, .int .i64 bg, .int .i64 fi, .string ky]] w (IsBB (TakeP s ⟨5, tk, ti, bg, fi, ky⟩) w) := by
  have H := Lib.hid h; clear h
  have HT : Hid (restsB s ky = true ↔ TakeP s ⟨5, tk, ti, bg, fi, ky⟩) := Lib.hid (by simp [TakeP])
  clear hsp hrp
  go_enter Tryz.func58, Tryz.ntmps58
  go_wp2_with fail
  have BX : Hid (TakBox A c A2 c2 s ⟨5, tk, ti, bg, fi, ky⟩ w.heap.size ((w.alloc (.cells #[.int .i64 s.sq, .int .i64 s.fe, .slice A s.ents.length c, .slice A2 s.tmbs.length c2, .int .i64 s.lo.a, .int .i64 s.lo.b, .int .i64 s.lo.c, .int .i64 s.hi.a, .int .i64 s.hi.b, .int .i64 s.hi.c] 34)).alloc (.cells #[.int .i64 5, .int .i64 tk, .int .i64 ti, .int .i64 bg, .int .i64 fi, .string ky] 38))) := Lib.hid (by
    have k1 := (Cells.new w [.int .i64 s.sq, .int .i64 s.fe, .slice A s.ents.length c, .slice A2 s.tmbs.length c2, .int .i64 s.lo.a, .int .i64 s.lo.b, .int .i64 s.lo.c, .int .i64 s.hi.a, .int .i64 s.hi.b, .int .i64 s.hi.c] 34).below (bal (Below.refl _ _) (.cells #[.int .i64 5, .int .i64 tk, .int .i64 ti, .int .i64 bg, .int .i64 fi, .string ky] 38)) (by simp)
    have k2 := Cells.new (w.alloc (.cells #[.int .i64 s.sq, .int .i64 s.fe, .slice A s.ents.length c, .slice A2 s.tmbs.length c2, .int .i64 s.lo.a, .int .i64 s.lo.b, .int .i64 s.lo.c, .int .i64 s.hi.a, .int .i64 s.hi.b, .int .i64 s.hi.c] 34)) [.int .i64 5, .int .i64 tk, .int .i64 ti, .int .i64 bg, .int .i64 fi, .string ky] 38
    exact ⟨k1, by simpa using k2, by simp⟩)
  have b0 : Below w.heap.size w ((w.alloc (.cells #[.int .i64 s.sq, .int .i64 s.fe, .slice A s.ents.length c, .slice A2 s.tmbs.length c2, .int .i64 s.lo.a, .int .i64 s.lo.b, .int .i64 s.lo.c, .int .i64 s.hi.a, .int .i64 s.hi.b, .int .i64 s.hi.c] 34)).alloc (.cells #[.int .i64 5, .int .i64 tk, .int .i64 ti, .int .i64 bg, .int .i64 fi, .string ky] 38)) := bal (bal (Below.refl _ _) _) _
  generalize ((w.alloc (.cells #[.int .i64 s.sq, .int .i64 s.fe, .slice A s.ents.length c, .slice A2 s.tmbs.length c2, .int .i64 s.lo.a, .int .i64 s.lo.b, .int .i64 s.lo.c, .int .i64 s.hi.a, .int .i64 s.hi.b, .int .i64 s.hi.c] 34)).alloc (.cells #[.int .i64 5, .int .i64 tk, .int .i64 ti, .int .i64 bg, .int .i64 fi, .string ky] 38)) = W at *
  generalize hx0 : w.heap.size = x0 at *
  have Hx0 := Lib.hid hx0; clear hx0
  have HS : Hid (∀ w', Below x0 w w' → StAt w' x0 A A2 s) := Lib.hid fun w' hb => (H.out.below hb (by have := Hx0.out; omega)).more (by have := Hx0.out; omega)
  clear H
  have hx2 := BX.out.2.2
  refine (toKey_any ky W hky).mono ?_
  rintro e w1 ⟨t, n, m, bk, rfl, hK, hb1⟩
  have b1 : Below x0 w w1 := b0.trans (hb1.mono (by omega))
  have B1 := Lib.hid (BX.out.below hb1)
  clear BX hb1 b0 hx2
  obtain ⟨c0, c1, c2', c3, c4, c5, c6, c7, c8, c9⟩ := B1.out.1.ten
  obtain ⟨r0, r1, r2, r3, r4, r5⟩ := B1.out.six
  clear hK
  have HRB : Hid (restsB s ky = true ↔ ∃ k, ∃ h : k < s.tmbs.length, s.tmbs[k].key = ky) := Lib.hid (by
    unfold restsB
    rw [List.any_eq_true]
    constructor
    · rintro ⟨x, hx, e⟩
      obtain ⟨k, hk, rfl⟩ := List.getElem_of_mem hx
      exact ⟨k, hk, by simpa using e⟩
    · rintro ⟨k, hk, e⟩
      exact ⟨_, List.getElem_mem hk, by simpa using e⟩)
  go_wp2_with fail
  clear c0 c1 c2' c3 c4 c5 c6 c7 c8 c9 r0 r1 r2 r3 r4 r5
  go_loopw [10] (fun i wr => ∃ k : Nat, k ≤ s.tmbs.length ∧ i = .int .i64 k ∧ Hid (∀ j (h : j < s.tmbs.length), j < k → s.tmbs[j].key ≠ ky) ∧ Hid (TakBox A c A2 c2 s ⟨5, tk, ti, bg, fi, ky⟩ x0 wr) ∧ Below x0 w wr) (fun i _ => s.tmbs.length - (intOf i).toNat)
  case atStart => exact ⟨0, by omega, rfl, Lib.hid (fun j _ h => by omega), B1, b1⟩
  case round =>
    clear B1 b1
    obtain ⟨k, hk, rfl, HN, BW, hb⟩ := hrel
    obtain ⟨c0, c1, c2', c3, c4, c5, c6, c7, c8, c9⟩ := BW.out.1.ten
    obtain ⟨r0, r1, r2, r3, r4, r5⟩ := BW.out.six
    clear c0 c1 c2' c4 c5 c6 c7 c8 c9 r0 r1 r2 r3 r4
    by_cases hlt : k < s.tmbs.length
    · obtain ⟨b2, o2, rfl, hb2, p0, p1⟩ := TmbsAt.one (HS.out _ hb).2 hlt
      have i1 : (0 : Int) ≤ (k : Int) := by omega
      have i2 : (k : Int) < (s.tmbs.length : Int) := by omega
      by_cases e : s.tmbs[k].key = ky
      · have d : (s.tmbs[k].key.toList == ky.toList) = true := by rw [e]; simp
        have HY := Lib.hid (HT.out.1 (HRB.out.2 ⟨k, hlt, e⟩))
        clear e HT HRB HN
        go_wp2_with fail
        go_quiet (fail)
        go_wp2
        go_ret
        exact IsBB.yes HY.out (by rw [Hx0.out]; exact bdrewB hb _)
      · have d := ne_list e
        have HN2 := Lib.hid (show ∀ j (h : j < s.tmbs.length), j < k + 1 → s.tmbs[j].key ≠ ky from fun j h hj => by
          by_cases ej : j = k
          · subst ej; exact e
          · exact HN.out j h (by omega))
        clear e HN
        go_wp2_with fail
        go_quiet (fail)
        go_wp2_with fail
        go_roundw
        case rel => exact ⟨k + 1, by omega, by go_num, HN2, Lib.hid (BW.out.below (bdrewB (Below.refl wr.heap.size wr) _)), bdrewB hb _⟩
        case measure => simp [intOf]; omega
    · have HY := Lib.hid (show ¬ TakeP s ⟨5, tk, ti, bg, fi, ky⟩ from fun h => by
        obtain ⟨j, hj, e⟩ := HRB.out.1 (HT.out.2 h)
        exact HN.out j hj (by omega) e)
      go_wp2
      go_ret
      exact IsBB.no HY.out (by rw [Hx0.out]; exact hb)

set_option maxRecDepth 100000 in
set_option maxHeartbeats 4000000 in
theorem takes4 (A : Option Addr) (c : Nat) (A2 : Option Addr) (c2 : Nat) (s : GSt) (tk ti bg fi : Int) (ky : ByteArray) (B : Nat) (w : World) (h : StAt w B A A2 s) (hB : B ≤ w.heap.size) (hl : s.ents.length ≤ 1048576) (hl2 : s.tmbs.length ≤ 1048576) (hsp : StP s) (hrp : RecP ⟨4, tk, ti, bg, fi, ky⟩) (hky : ky.size ≤ 1048576) :
    Calls Tryz.prog 58 #[.agg #[.int .i64 s.sq, .int .i64 s.fe, .slice A s.ents.length c, .slice A2 s.tmbs.length c2, .int .i64 s.lo.a, .int .i64 s.lo.b, .int .i64 s.lo.c, .int .i64 s.hi.a, .int .i64 s.hi.b, .int .i64 s.hi.c], .agg #[.int .i64 4, .int .i64 tk, .int .i64 ti, .int .i64 bg, .int .i64 fi, .string ky]] w (IsBB (TakeP s ⟨4, tk, ti, bg, fi, ky⟩) w) := by
  have H := Lib.hid h; clear h
  have hti : 0 ≤ ti ∧ ti ≤ 2 := by
    simp [RecP, GRec.ent] at hrp
    exact hrp.2.tier
  have HT : Hid (TakeP s ⟨4, tk, ti, bg, fi, ky⟩ ↔ tk = s.fe ∧ firstE s.ents ti = some ⟨ti, bg, fi, ky⟩ ∧ upB s ti.toNat ⟨ti, bg, fi, ky⟩ = true) := Lib.hid (by simp [TakeP, GRec.ent])
  clear hsp hrp
  go_enter Tryz.func58, Tryz.ntmps58
  go_wp2_with fail
  have BX : Hid (TakBox A c A2 c2 s ⟨4, tk, ti, bg, fi, ky⟩ w.heap.size ((w.alloc (.cells #[.int .i64 s.sq, .int .i64 s.fe, .slice A s.ents.length c, .slice A2 s.tmbs.length c2, .int .i64 s.lo.a, .int .i64 s.lo.b, .int .i64 s.lo.c, .int .i64 s.hi.a, .int .i64 s.hi.b, .int .i64 s.hi.c] 34)).alloc (.cells #[.int .i64 4, .int .i64 tk, .int .i64 ti, .int .i64 bg, .int .i64 fi, .string ky] 38))) := Lib.hid (by
    have k1 := (Cells.new w [.int .i64 s.sq, .int .i64 s.fe, .slice A s.ents.length c, .slice A2 s.tmbs.length c2, .int .i64 s.lo.a, .int .i64 s.lo.b, .int .i64 s.lo.c, .int .i64 s.hi.a, .int .i64 s.hi.b, .int .i64 s.hi.c] 34).below (bal (Below.refl _ _) (.cells #[.int .i64 4, .int .i64 tk, .int .i64 ti, .int .i64 bg, .int .i64 fi, .string ky] 38)) (by simp)
    have k2 := Cells.new (w.alloc (.cells #[.int .i64 s.sq, .int .i64 s.fe, .slice A s.ents.length c, .slice A2 s.tmbs.length c2, .int .i64 s.lo.a, .int .i64 s.lo.b, .int .i64 s.lo.c, .int .i64 s.hi.a, .int .i64 s.hi.b, .int .i64 s.hi.c] 34)) [.int .i64 4, .int .i64 tk, .int .i64 ti, .int .i64 bg, .int .i64 fi, .string ky] 38
    exact ⟨k1, by simpa using k2, by simp⟩)
  have b0 : Below w.heap.size w ((w.alloc (.cells #[.int .i64 s.sq, .int .i64 s.fe, .slice A s.ents.length c, .slice A2 s.tmbs.length c2, .int .i64 s.lo.a, .int .i64 s.lo.b, .int .i64 s.lo.c, .int .i64 s.hi.a, .int .i64 s.hi.b, .int .i64 s.hi.c] 34)).alloc (.cells #[.int .i64 4, .int .i64 tk, .int .i64 ti, .int .i64 bg, .int .i64 fi, .string ky] 38)) := bal (bal (Below.refl _ _) _) _
  generalize ((w.alloc (.cells #[.int .i64 s.sq, .int .i64 s.fe, .slice A s.ents.length c, .slice A2 s.tmbs.length c2, .int .i64 s.lo.a, .int .i64 s.lo.b, .int .i64 s.lo.c, .int .i64 s.hi.a, .int .i64 s.hi.b, .int .i64 s.hi.c] 34)).alloc (.cells #[.int .i64 4, .int .i64 tk, .int .i64 ti, .int .i64 bg, .int .i64 fi, .string ky] 38)) = W at *
  generalize hx0 : w.heap.size = x0 at *
  have Hx0 := Lib.hid hx0; clear hx0
  have HS : Hid (∀ w', Below x0 w w' → StAt w' x0 A A2 s) := Lib.hid fun w' hb => (H.out.below hb (by have := Hx0.out; omega)).more (by have := Hx0.out; omega)
  clear H
  have hx2 := BX.out.2.2
  refine (toKey_any ky W hky).mono ?_
  rintro e w1 ⟨t, n, m, bk, rfl, hK, hb1⟩
  have b1 : Below x0 w w1 := b0.trans (hb1.mono (by omega))
  have B1 := Lib.hid (BX.out.below hb1)
  clear BX hb1 b0 hx2
  obtain ⟨c0, c1, c2', c3, c4, c5, c6, c7, c8, c9⟩ := B1.out.1.ten
  obtain ⟨r0, r1, r2, r3, r4, r5⟩ := B1.out.six
  clear hK
  go_wp2_with fail
  refine (l06First_any A c A2 c2 s ti x0 w1 (HS.out _ b1) (by have := B1.out.2.2; omega) hl).mono ?_
  rintro e w2 ⟨q, hq, rfl, hb2⟩
  have b2 : Below x0 w w2 := b1.trans (hb2.mono (by have := B1.out.2.2; omega))
  have B2 := Lib.hid (B1.out.below hb2)
  clear hb2 B1 b1 c0 c1 c2' c3 c4 c5 c6 c7 c8 c9 r0 r1 r2 r3 r4 r5
  obtain ⟨c0, c1, c2', c3, c4, c5, c6, c7, c8, c9⟩ := B2.out.1.ten
  obtain ⟨r0, r1, r2, r3, r4, r5⟩ := B2.out.six
  go_wp2_with fail
  by_cases h1 : tk = s.fe
  rotate_left
  · have d : (tk == s.fe) = false := by simpa using h1
    have HN := Lib.hid (show ¬ TakeP s ⟨4, tk, ti, bg, fi, ky⟩ from fun h => h1 (HT.out.1 h).1)
    clear h1 hq
    go_quiet (fail)
    go_wp2
    go_ret
    exact IsBB.no HN.out (by rw [Hx0.out]; exact bdrewB b2 _)
  have d : (tk == s.fe) = true := by simpa using h1
  rcases hq with ⟨hE, rfl⟩ | ⟨k, hk, rfl, hE, hNT⟩
  · skip
    have HN := Lib.hid (show ¬ TakeP s ⟨4, tk, ti, bg, fi, ky⟩ from fun h => by have := (HT.out.1 h).2.1; rw [hE] at this; cases this)
    clear hE h1
    go_quiet (fail)
    go_wp2
    go_ret
    exact IsBB.no HN.out (by rw [Hx0.out]; exact bdrewB b2 _)
  have het := (firstE_mem hE).2
  obtain ⟨b3, o3, rfl, hb3, p0, p1, p2, p3⟩ := EntsAt.one (HS.out _ b2).1 hk
  have i1 : (0 : Int) ≤ (k : Int) := by omega
  have i2 : (k : Int) < (s.ents.length : Int) := by omega
  have dg : decide ((0 : Int) ≤ (k : Int)) = true := by simp
  clear hNT
  generalize s.ents[k] = e at *
  obtain ⟨et, eb, ef, ek⟩ := e
  obtain rfl : ti = et := het.symm
  rcases ent_cases ⟨ti, eb, ef, ek⟩ ⟨ti, bg, fi, ky⟩ with he | ⟨he, f0⟩ | ⟨he, f0, f1⟩ | ⟨he, f0, f1, f2⟩ | ⟨he, f0, f1, f2, f3⟩
  rotate_left
  · simp at f0
  · dsimp only at f1
    have HN := Lib.hid (show ¬ TakeP s ⟨4, tk, ti, bg, fi, ky⟩ from fun h => he (Option.some.inj (hE.symm.trans (HT.out.1 h).2.1)))
    clear he hE h1
    go_quiet (fail)
    go_wp2
    go_ret
    exact IsBB.no HN.out (by rw [Hx0.out]; exact bdrewB b2 _)
  · dsimp only at f1 f2
    have HN := Lib.hid (show ¬ TakeP s ⟨4, tk, ti, bg, fi, ky⟩ from fun h => he (Option.some.inj (hE.symm.trans (HT.out.1 h).2.1)))
    clear he hE h1
    go_quiet (fail)
    go_wp2
    go_ret
    exact IsBB.no HN.out (by rw [Hx0.out]; exact bdrewB b2 _)
  · dsimp only at f1 f2 f3
    have HN := Lib.hid (show ¬ TakeP s ⟨4, tk, ti, bg, fi, ky⟩ from fun h => he (Option.some.inj (hE.symm.trans (HT.out.1 h).2.1)))
    clear he hE h1
    go_quiet (fail)
    go_wp2
    go_ret
    exact IsBB.no HN.out (by rw [Hx0.out]; exact bdrewB b2 _)
  injection he with _ e1 e2 e3
  subst e1 e2 e3
  have HU := Lib.hid (show upB s ti.toNat ⟨ti, eb, ef, ek⟩ = true ↔ TakeP s ⟨4, tk, ti, eb, ef, ek⟩ from ⟨fun h => HT.out.2 ⟨h1, hE, h⟩, fun h => (HT.out.1 h).2.2⟩)
  clear hE h1
  rcases (show ti = 0 ∨ ti = 1 ∨ ti = 2 by omega) with rfl | rfl | rfl
  · have HU2 : Hid (decide (ef ≤ s.hi.b) = true ↔ TakeP s ⟨4, tk, 0, eb, ef, ek⟩) := Lib.hid (Iff.trans (by simp [upB, GTri.at]) HU.out)
    clear HU HT
    go_quiet (fail)
    go_wp2
    go_ret
    exact ⟨_, HU2.out, rfl, by rw [Hx0.out]; exact bdrewB b2 _⟩
  · have HU2 : Hid (decide (ef ≤ s.hi.c) = true ↔ TakeP s ⟨4, tk, 1, eb, ef, ek⟩) := Lib.hid (Iff.trans (by simp [upB, GTri.at]) HU.out)
    clear HU HT
    go_quiet (fail)
    go_wp2
    go_ret
    exact ⟨_, HU2.out, rfl, by rw [Hx0.out]; exact bdrewB b2 _⟩
  · have HU2 := Lib.hid (HU.out.1 (by simp [upB]))
    clear HU HT
    go_quiet (fail)
    go_wp2
    go_ret
    exact IsBB.yes HU2.out (by rw [Hx0.out]; exact bdrewB b2 _)

end Go.Proofs.YtpfanmcjlfdaiaaGreatDoorR
