/-
  Several texts as one: contracts that the law leans on; each part says what it proves and its conditions.
-/
import Derived.Test.YtpfanmcjlfdaiaaGreatDoorRN11
import Derived.Test.YtpfanmcjlfdaiaaGreatDoorRN10
import Derived.Test.YtpfanmcjlfdaiaaGreatDoorRN9
import Derived.Deep.DeepCutAuto

/- Contract of the model's l06Apply: the state behind a record, and whether it is taken. Conditions: lengths; what l06Takes answers. -/
namespace Go.Proofs.YtpfanmcjlfdaiaaGreatDoorR
open Go.ChangeShapes Go.WideShapes Go.ChangeAt Go.RowKit Go.Deep Go.Joins Go.Maps
set_option linter.unusedVariables false
set_option linter.unusedSimpArgs false

/-- a state and a bool are answered -/
def AplEnd (s : GSt) (r : GRec) (w : World) (e : Ending) (w' : World) : Prop :=
  ∃ (x : GSt) (b : Bool) (A : Option Addr) (c : Nat) (A2 : Option Addr) (c2 : Nat), AplP s r x b ∧ e = .returned (.tuple #[.agg #[.int .i64 x.sq, .int .i64 x.fe, .slice A x.ents.length c, .slice A2 x.tmbs.length c2, .int .i64 x.lo.a, .int .i64 x.lo.b, .int .i64 x.lo.c, .int .i64 x.hi.a, .int .i64 x.hi.b, .int .i64 x.hi.c], .bool b]) ∧ StAt w' w'.heap.size A A2 x ∧ StOwn w.heap.size w' A A2 ∧ x.ents.length ≤ c ∧ x.tmbs.length ≤ c2 ∧ Below w.heap.size w w'

/-- three blocks: the state's, the record's, the answer's -/
structure ApW (x0 : Nat) (W : World) (sv rv zv : List Value) : Prop where
  cs : Cells W x0 0 sv
  cr : Cells W (x0 + 1) 0 rv
  cz : Cells W (x0 + 2) 0 zv
  fs : ∀ i, W.frozen? ⟨x0, i, none⟩ = false
  fz : ∀ i, W.frozen? ⟨x0 + 2, i, none⟩ = false
  sz : x0 + 3 ≤ W.heap.size

theorem ApW.below {x0 B : Nat} {W W' : World} {sv rv zv : List Value} (h : ApW x0 W sv rv zv) (hb : Below B W W') (hB : x0 + 3 ≤ B) : ApW x0 W' sv rv zv :=
  ⟨h.cs.below hb (by omega), h.cr.below hb (by omega), h.cz.below hb (by omega), fun i => (hb.frozen (p := ⟨x0, i, none⟩) (by show x0 < B; omega)).trans (h.fs i), fun i => (hb.frozen (p := ⟨x0 + 2, i, none⟩) (by show x0 + 2 < B; omega)).trans (h.fz i), Nat.le_trans h.sz hb.size⟩

theorem ApW.set {x0 : Nat} {W : World} {sv rv zv : List Value} (h : ApW x0 W sv rv zv) {k : Nat} (hk : k < sv.length) (u : Value) : ApW x0 (W.setCell ⟨x0, k, none⟩ u) (sv.set k u) rv zv :=
  ⟨by have := h.cs.set (k := k) hk u; rwa [Nat.zero_add] at this, h.cr.far (p := ⟨x0, k, none⟩) (by show x0 + 1 ≠ x0; omega) u, h.cz.far (p := ⟨x0, k, none⟩) (by show x0 + 2 ≠ x0; omega) u, fun i => (frozen_setCell _ _ _ _).trans (h.fs i), fun i => (frozen_setCell _ _ _ _).trans (h.fz i), by rw [size_setCell]; exact h.sz⟩

theorem ApW.new (w : World) (s0 s1 s2 s3 s4 s5 s6 s7 s8 s9 : Value) (r0 r1 r2 r3 r4 r5 : Value) (t1 t2 t3 : TypeId) :
    ApW w.heap.size (((w.alloc (.cells #[s0, s1, s2, s3, s4, s5, s6, s7, s8, s9] t1)).alloc (.cells #[r0, r1, r2, r3, r4, r5] t2)).alloc (.cells #[.int .i64 0, .int .i64 0, .slice none 0 0, .slice none 0 0, .int .i64 0, .int .i64 0, .int .i64 0, .int .i64 0, .int .i64 0, .int .i64 0] t3)) [s0, s1, s2, s3, s4, s5, s6, s7, s8, s9] [r0, r1, r2, r3, r4, r5] [.int .i64 0, .int .i64 0, .slice none 0 0, .slice none 0 0, .int .i64 0, .int .i64 0, .int .i64 0, .int .i64 0, .int .i64 0, .int .i64 0] := by
  refine ⟨?_, ?_, ?_, ?_, ?_, ?_⟩
  · exact ((Cells.new w _ _).below (bal (Below.refl _ _) _) (by simp)).below (bal (Below.refl _ _) _) (by simp; omega)
  · have := (Cells.new (w.alloc (.cells #[s0, s1, s2, s3, s4, s5, s6, s7, s8, s9] t1)) [r0, r1, r2, r3, r4, r5] t2).below (bal (Below.refl _ _) (.cells #[.int .i64 0, .int .i64 0, .slice none 0 0, .slice none 0 0, .int .i64 0, .int .i64 0, .int .i64 0, .int .i64 0, .int .i64 0, .int .i64 0] t3)) (by simp)
    simpa using this
  · have := Cells.new ((w.alloc (.cells #[s0, s1, s2, s3, s4, s5, s6, s7, s8, s9] t1)).alloc (.cells #[r0, r1, r2, r3, r4, r5] t2)) [.int .i64 0, .int .i64 0, .slice none 0 0, .slice none 0 0, .int .i64 0, .int .i64 0, .int .i64 0, .int .i64 0, .int .i64 0, .int .i64 0] t3
    simpa using this
  · intro i; simp [go_sem]
  · intro i; simp [go_sem]
  · simp

theorem own_blk (A : Option Addr) (n c : Nat) : (Value.slice A n c).ownBlock = blk A := by cases A <;> rfl

theorem new_entv (w : World) (s : GEnt) (e : TypeId) : Sl GEnt.vals 4 (w.alloc (.cells #[.int .i64 s.tier, .int .i64 s.beg, .int .i64 s.fin, .string s.key] e)) (w.heap.size + 1) (some ⟨w.heap.size, 0, none⟩) [s] := by
  intro _
  refine ⟨w.heap.size, 0, rfl, by omega, fun k hk j v hv => ?_⟩
  obtain rfl : k = 0 := by simpa using hk
  rw [World.cell?_alloc_new]
  match j, hv with
  | 0, hv => simpa [GEnt.vals] using hv
  | 1, hv => simpa [GEnt.vals] using hv
  | 2, hv => simpa [GEnt.vals] using hv
  | 3, hv => simpa [GEnt.vals] using hv
  | j + 4, hv => simp [GEnt.vals] at hv

theorem new_tmbv (w : World) (s : GTmb) (e : TypeId) : Sl GTmb.vals 2 (w.alloc (.cells #[.int .i64 s.seq, .string s.key] e)) (w.heap.size + 1) (some ⟨w.heap.size, 0, none⟩) [s] := by
  intro _
  refine ⟨w.heap.size, 0, rfl, by omega, fun k hk j v hv => ?_⟩
  obtain rfl : k = 0 := by simpa using hk
  rw [World.cell?_alloc_new]
  match j, hv with
  | 0, hv => simpa [GTmb.vals] using hv
  | 1, hv => simpa [GTmb.vals] using hv
  | j + 2, hv => simp [GTmb.vals] at hv

theorem apl_fin {x : GSt} {A A2 : Option Addr} {c c2 x0 y : Nat} {F : World} (o1 : OwnSl GEnt.vals 4 103 y F (.slice A x.ents.length c) x.ents) (o3 : OwnSl GTmb.vals 2 108 y F (.slice A2 x.tmbs.length c2) x.tmbs) (hne : ∀ b, blk A = some b → blk A2 ≠ some b) (hy : x0 ≤ y) :
    StAt F F.heap.size A A2 x ∧ StOwn x0 F A A2 ∧ x.ents.length ≤ c ∧ x.tmbs.length ≤ c2 := by
  obtain ⟨a1, a2, a3, a4⟩ := OwnSl.sl o1 (fun _ => rfl)
  obtain ⟨b1, b2, b3, b4⟩ := OwnSl.sl o3 (fun _ => rfl)
  exact ⟨⟨a1, b1⟩, ⟨a2, b2, fun b e => ⟨by have := (a3 b e).1; omega, (a3 b e).2⟩, fun b e => ⟨by have := (b3 b e).1; omega, (b3 b e).2⟩, hne⟩, a4, b4⟩

theorem apl_end {x : GSt} {A A2 : Option Addr} {c c2 x0 y : Nat} {w Wn : World} {v0 : Value} {v1 : Value} {v2 : Value} {v3 : Value} {v4 : Value} {v5 : Value} {v6 : Value} {v7 : Value} {v8 : Value} {v9 : Value} (o1 : OwnSl GEnt.vals 4 103 y Wn (.slice A x.ents.length c) x.ents) (o3 : OwnSl GTmb.vals 2 108 y Wn (.slice A2 x.tmbs.length c2) x.tmbs) (hne : ∀ b, blk A = some b → blk A2 ≠ some b) (hy : x0 + 3 ≤ y) (hb : Below x0 w Wn) :
    StAt (((((((((((Wn.setCell ⟨x0 + 2, 0, none⟩ v0).setCell ⟨x0 + 2, 1, none⟩ v1).setCell ⟨x0 + 2, 2, none⟩ v2).setCell ⟨x0 + 2, 3, none⟩ v3).setCell ⟨x0 + 2, 4, none⟩ v4).setCell ⟨x0 + 2, 5, none⟩ v5).setCell ⟨x0 + 2, 6, none⟩ v6).setCell ⟨x0 + 2, 7, none⟩ v7).setCell ⟨x0 + 2, 8, none⟩ v8).setCell ⟨x0 + 2, 9, none⟩ v9)) (((((((((((Wn.setCell ⟨x0 + 2, 0, none⟩ v0).setCell ⟨x0 + 2, 1, none⟩ v1).setCell ⟨x0 + 2, 2, none⟩ v2).setCell ⟨x0 + 2, 3, none⟩ v3).setCell ⟨x0 + 2, 4, none⟩ v4).setCell ⟨x0 + 2, 5, none⟩ v5).setCell ⟨x0 + 2, 6, none⟩ v6).setCell ⟨x0 + 2, 7, none⟩ v7).setCell ⟨x0 + 2, 8, none⟩ v8).setCell ⟨x0 + 2, 9, none⟩ v9)).heap.size A A2 x ∧ StOwn x0 (((((((((((Wn.setCell ⟨x0 + 2, 0, none⟩ v0).setCell ⟨x0 + 2, 1, none⟩ v1).setCell ⟨x0 + 2, 2, none⟩ v2).setCell ⟨x0 + 2, 3, none⟩ v3).setCell ⟨x0 + 2, 4, none⟩ v4).setCell ⟨x0 + 2, 5, none⟩ v5).setCell ⟨x0 + 2, 6, none⟩ v6).setCell ⟨x0 + 2, 7, none⟩ v7).setCell ⟨x0 + 2, 8, none⟩ v8).setCell ⟨x0 + 2, 9, none⟩ v9)) A A2 ∧ x.ents.length ≤ c ∧ x.tmbs.length ≤ c2 ∧ Below x0 w (((((((((((Wn.setCell ⟨x0 + 2, 0, none⟩ v0).setCell ⟨x0 + 2, 1, none⟩ v1).setCell ⟨x0 + 2, 2, none⟩ v2).setCell ⟨x0 + 2, 3, none⟩ v3).setCell ⟨x0 + 2, 4, none⟩ v4).setCell ⟨x0 + 2, 5, none⟩ v5).setCell ⟨x0 + 2, 6, none⟩ v6).setCell ⟨x0 + 2, 7, none⟩ v7).setCell ⟨x0 + 2, 8, none⟩ v8).setCell ⟨x0 + 2, 9, none⟩ v9)) := by
  have q1 : OwnSl GEnt.vals 4 103 y (((((((((((Wn.setCell ⟨x0 + 2, 0, none⟩ v0).setCell ⟨x0 + 2, 1, none⟩ v1).setCell ⟨x0 + 2, 2, none⟩ v2).setCell ⟨x0 + 2, 3, none⟩ v3).setCell ⟨x0 + 2, 4, none⟩ v4).setCell ⟨x0 + 2, 5, none⟩ v5).setCell ⟨x0 + 2, 6, none⟩ v6).setCell ⟨x0 + 2, 7, none⟩ v7).setCell ⟨x0 + 2, 8, none⟩ v8).setCell ⟨x0 + 2, 9, none⟩ v9)) (.slice A x.ents.length c) x.ents := by
    repeat' first | with_reducible exact o1 | (with_reducible refine OwnSl.farO ?_ (by show x0 + 2 < y; omega) _)
  have q3 : OwnSl GTmb.vals 2 108 y (((((((((((Wn.setCell ⟨x0 + 2, 0, none⟩ v0).setCell ⟨x0 + 2, 1, none⟩ v1).setCell ⟨x0 + 2, 2, none⟩ v2).setCell ⟨x0 + 2, 3, none⟩ v3).setCell ⟨x0 + 2, 4, none⟩ v4).setCell ⟨x0 + 2, 5, none⟩ v5).setCell ⟨x0 + 2, 6, none⟩ v6).setCell ⟨x0 + 2, 7, none⟩ v7).setCell ⟨x0 + 2, 8, none⟩ v8).setCell ⟨x0 + 2, 9, none⟩ v9)) (.slice A2 x.tmbs.length c2) x.tmbs := by
    repeat' first | with_reducible exact o3 | (with_reducible refine OwnSl.farO ?_ (by show x0 + 2 < y; omega) _)
  obtain ⟨r1, r2, r3, r4⟩ := apl_fin (x0 := x0) q1 q3 hne (by omega)
  refine ⟨r1, r2, r3, r4, ?_⟩
  repeat' first | with_reducible exact hb | (with_reducible refine Below.setCell ?_ (by show x0 ≤ x0 + 2; omega) _)

set_option maxRecDepth 100000 in
set_option maxHeartbeats 4000000 in
theorem apply2 (A : Option Addr) (c : Nat) (A2 : Option Addr) (c2 : Nat) (s : GSt) (tk ti bg fi : Int) (ky : ByteArray) (B : Nat) (w : World) (h : StAt w B A A2 s) (hB : B ≤ w.heap.size) (hl : s.ents.length ≤ 1048576) (hl2 : s.tmbs.length ≤ 1048576) (hsq : 0 ≤ s.sq ∧ s.sq ≤ 999999)
    (hT : ∀ W, Below w.heap.size w W → Calls Tryz.prog 58 #[.agg #[.int .i64 s.sq, .int .i64 s.fe, .slice A s.ents.length c, .slice A2 s.tmbs.length c2, .int .i64 s.lo.a, .int .i64 s.lo.b, .int .i64 s.lo.c, .int .i64 s.hi.a, .int .i64 s.hi.b, .int .i64 s.hi.c], .agg #[.int .i64 2, .int .i64 tk, .int .i64 ti, .int .i64 bg, .int .i64 fi, .string ky]] W (IsBB (TakeP s ⟨2, tk, ti, bg, fi, ky⟩) W)) :
    Calls Tryz.prog 25 #[.agg #[.int .i64 s.sq, .int .i64 s.fe, .slice A s.ents.length c, .slice A2 s.tmbs.length c2, .int .i64 s.lo.a, .int .i64 s.lo.b, .int .i64 s.lo.c, .int .i64 s.hi.a, .int .i64 s.hi.b, .int .i64 s.hi.c], .agg #[.int .i64 2, .int .i64 tk, .int .i64 ti, .int .i64 bg, .int .i64 fi, .string ky]] w (AplEnd s ⟨2, tk, ti, bg, fi, ky⟩ w) := by
  have H := Lib.hid h; clear h
  have HT := Lib.hid hT; clear hT
  go_enter Tryz.func25, Tryz.ntmps25
  go_upto_region 1 with fail
  obtain ⟨W, hW⟩ : ∃ W, W = ((w.alloc (.cells #[.int .i64 s.sq, .int .i64 s.fe, .slice A s.ents.length c, .slice A2 s.tmbs.length c2, .int .i64 s.lo.a, .int .i64 s.lo.b, .int .i64 s.lo.c, .int .i64 s.hi.a, .int .i64 s.hi.b, .int .i64 s.hi.c] 34)).alloc (.cells #[.int .i64 2, .int .i64 tk, .int .i64 ti, .int .i64 bg, .int .i64 fi, .string ky] 38)).alloc (.cells #[.int .i64 0, .int .i64 0, .slice none 0 0, .slice none 0 0, .int .i64 0, .int .i64 0, .int .i64 0, .int .i64 0, .int .i64 0, .int .i64 0] 34) := ⟨_, rfl⟩
  have p0 : ApW w.heap.size W [.int .i64 s.sq, .int .i64 s.fe, .slice A s.ents.length c, .slice A2 s.tmbs.length c2, .int .i64 s.lo.a, .int .i64 s.lo.b, .int .i64 s.lo.c, .int .i64 s.hi.a, .int .i64 s.hi.b, .int .i64 s.hi.c] [.int .i64 2, .int .i64 tk, .int .i64 ti, .int .i64 bg, .int .i64 fi, .string ky] [.int .i64 0, .int .i64 0, .slice none 0 0, .slice none 0 0, .int .i64 0, .int .i64 0, .int .i64 0, .int .i64 0, .int .i64 0, .int .i64 0] := by rw [hW]; exact ApW.new w (.int .i64 s.sq) (.int .i64 s.fe) (.slice A s.ents.length c) (.slice A2 s.tmbs.length c2) (.int .i64 s.lo.a) (.int .i64 s.lo.b) (.int .i64 s.lo.c) (.int .i64 s.hi.a) (.int .i64 s.hi.b) (.int .i64 s.hi.c) (.int .i64 2) (.int .i64 tk) (.int .i64 ti) (.int .i64 bg) (.int .i64 fi) (.string ky) _ _ _
  have b0 : Below w.heap.size w W := by rw [hW]; exact bal (bal (bal (Below.refl _ _) _) _) _
  rw [← hW]
  clear hW
  generalize (Value.agg #[.int .i64 s.sq, .int .i64 s.fe, .slice A s.ents.length c, .slice A2 s.tmbs.length c2, .int .i64 s.lo.a, .int .i64 s.lo.b, .int .i64 s.lo.c, .int .i64 s.hi.a, .int .i64 s.hi.b, .int .i64 s.hi.c]) = va
  generalize (Value.agg #[.int .i64 2, .int .i64 tk, .int .i64 ti, .int .i64 bg, .int .i64 fi, .string ky]) = vr
  have P0 := Lib.hid p0; clear p0
  generalize hx0 : w.heap.size = x0 at *
  have Hx0 := Lib.hid hx0; clear hx0
  obtain ⟨c0, c1, c2', c3, c4, c5, c6, c7, c8, c9⟩ := P0.out.cs.ten
  obtain ⟨q0, q1, q2, q3, q4, q5⟩ := (show RecAt W (x0 + 1) ⟨2, tk, ti, bg, fi, ky⟩ from P0.out.cr).cells
  go_wp2_with fail
  refine (HT.out W b0).mono ?_
  rintro e w1 ⟨b, hb, rfl, hb1⟩
  have HBT := Lib.hid hb; clear hb
  have b1 : Below x0 w w1 := b0.trans (hb1.mono (by have := P0.out.sz; omega))
  have P1 := Lib.hid (P0.out.below hb1 P0.out.sz)
  clear P0 b0 hb1 HT c0 c1 c2' c3 c4 c5 c6 c7 c8 c9 q0 q1 q2 q3 q4 q5
  obtain ⟨c0, c1, c2', c3, c4, c5, c6, c7, c8, c9⟩ := P1.out.cs.ten
  have hw1 : x0 ≤ w1.heap.size := by have := P1.out.sz; omega
  go_wp2_with fail
  refine (l06OwnO_any A c A2 c2 s x0 w1 ((H.out.below b1 hB).more hB) hw1 hl hl2).mono ?_
  rintro e w2 ⟨A1, k1, A3, k3, rfl, o1, o3, hne, hb2, hyz⟩
  have b2 : Below x0 w w2 := b1.trans (hb2.mono hw1)
  have P2 := Lib.hid (P1.out.below hb2 P1.out.sz)
  have O1 := Lib.hid o1; have O3 := Lib.hid o3; have HNE := Lib.hid hne
  have hy2 : x0 + 3 ≤ w1.heap.size + 2 := by have := P1.out.sz; omega
  clear P1 b1 hb2 o1 o3 hne c0 c1 c2' c3 c4 c5 c6 c7 c8 c9
  generalize w1.heap.size + 2 = y at *
  obtain ⟨c0, c1, c2', c3, c4, c5, c6, c7, c8, c9⟩ := P2.out.cs.ten
  have fs := P2.out.fs
  go_upto_region 4 with fail
  obtain ⟨W3, hW3⟩ : ∃ W3, W3 = (((((((((((w2.setCell ⟨x0, 0, none⟩ (.int .i64 s.sq)).setCell ⟨x0, 1, none⟩ (.int .i64 s.fe)).setCell ⟨x0, 2, none⟩ (.slice A1 s.ents.length k1)).setCell ⟨x0, 3, none⟩ (.slice A3 s.tmbs.length k3)).setCell ⟨x0, 4, none⟩ (.int .i64 s.lo.a)).setCell ⟨x0, 5, none⟩ (.int .i64 s.lo.b)).setCell ⟨x0, 6, none⟩ (.int .i64 s.lo.c)).setCell ⟨x0, 7, none⟩ (.int .i64 s.hi.a)).setCell ⟨x0, 8, none⟩ (.int .i64 s.hi.b)).setCell ⟨x0, 9, none⟩ (.int .i64 s.hi.c)).setCell ⟨x0, 0, none⟩ (.int .i64 (s.sq + 1))) := ⟨_, rfl⟩
  have p3 : ApW x0 W3 [.int .i64 (s.sq + 1), .int .i64 s.fe, .slice A1 s.ents.length k1, .slice A3 s.tmbs.length k3, .int .i64 s.lo.a, .int .i64 s.lo.b, .int .i64 s.lo.c, .int .i64 s.hi.a, .int .i64 s.hi.b, .int .i64 s.hi.c] [.int .i64 2, .int .i64 tk, .int .i64 ti, .int .i64 bg, .int .i64 fi, .string ky] [.int .i64 0, .int .i64 0, .slice none 0 0, .slice none 0 0, .int .i64 0, .int .i64 0, .int .i64 0, .int .i64 0, .int .i64 0, .int .i64 0] := by rw [hW3]; exact (((((((((((P2.out.set (k := 0) (by simp) (.int .i64 s.sq)).set (k := 1) (by simp) (.int .i64 s.fe)).set (k := 2) (by simp) (.slice A1 s.ents.length k1)).set (k := 3) (by simp) (.slice A3 s.tmbs.length k3)).set (k := 4) (by simp) (.int .i64 s.lo.a)).set (k := 5) (by simp) (.int .i64 s.lo.b)).set (k := 6) (by simp) (.int .i64 s.lo.c)).set (k := 7) (by simp) (.int .i64 s.hi.a)).set (k := 8) (by simp) (.int .i64 s.hi.b)).set (k := 9) (by simp) (.int .i64 s.hi.c)).set (k := 0) (by simp) (.int .i64 (s.sq + 1)))
  have b3 : Below x0 w W3 := by rw [hW3]; repeat' first | with_reducible exact b2 | (with_reducible refine Below.setCell ?_ (by exact Nat.le_refl _) _)
  have q1 : OwnSl GEnt.vals 4 103 y W3 (.slice A1 s.ents.length k1) s.ents := by
    rw [hW3]; repeat' first | with_reducible exact O1.out | (with_reducible refine OwnSl.farO ?_ (by show x0 < y; omega) _)
  have q3 : OwnSl GTmb.vals 2 108 y W3 (.slice A3 s.tmbs.length k3) s.tmbs := by
    rw [hW3]; repeat' first | with_reducible exact O3.out | (with_reducible refine OwnSl.farO ?_ (by show x0 < y; omega) _)
  have hyW : y ≤ W3.heap.size := by rw [hW3]; simp only [size_setCell]; exact hyz
  rw [← hW3]
  clear hyz hW3 c0 c1 c2' c3 c4 c5 c6 c7 c8 c9 fs P2 O1 O3 b2
  have P3 := Lib.hid p3; clear p3
  have Q1 := Lib.hid q1; clear q1
  have Q3 := Lib.hid q3; clear q3
  generalize (Value.agg #[.int .i64 s.sq, .int .i64 s.fe, .slice A s.ents.length c, .slice A2 s.tmbs.length c2, .int .i64 s.lo.a, .int .i64 s.lo.b, .int .i64 s.lo.c, .int .i64 s.hi.a, .int .i64 s.hi.b, .int .i64 s.hi.c]) = va2
  generalize (Value.agg #[.int .i64 2, .int .i64 tk, .int .i64 ti, .int .i64 bg, .int .i64 fi, .string ky]) = vr2
  generalize (Value.agg #[.int .i64 s.sq, .int .i64 s.fe, .slice A1 s.ents.length k1, .slice A3 s.tmbs.length k3, .int .i64 s.lo.a, .int .i64 s.lo.b, .int .i64 s.lo.c, .int .i64 s.hi.a, .int .i64 s.hi.b, .int .i64 s.hi.c]) = va4
  cases b
  · have HN : Hid (¬ TakeP s ⟨2, tk, ti, bg, fi, ky⟩) := Lib.hid (fun h => by have := HBT.out.2 h; cases this)
    clear HBT
    obtain ⟨c0, c1, c2', c3, c4, c5, c6, c7, c8, c9⟩ := P3.out.cs.ten
    obtain ⟨z0, z1, z2, z3, z4, z5, z6, z7, z8, z9⟩ := P3.out.cz.ten
    have y0 := P3.out.fz 0
    have y1 := P3.out.fz 1
    have y2 := P3.out.fz 2
    have y3 := P3.out.fz 3
    have y4 := P3.out.fz 4
    have y5 := P3.out.fz 5
    have y6 := P3.out.fz 6
    have y7 := P3.out.fz 7
    have y8 := P3.out.fz 8
    have y9 := P3.out.fz 9
    go_wp2
    refine bodyPost_ret (v := .tuple #[.agg #[.int .i64 (s.sq + 1), .int .i64 s.fe, .slice A1 s.ents.length k1, .slice A3 s.tmbs.length k3, .int .i64 s.lo.a, .int .i64 s.lo.b, .int .i64 s.lo.c, .int .i64 s.hi.a, .int .i64 s.hi.b, .int .i64 s.hi.c], .bool false]) (by simp [results, Tryz.results25, go_sem, *]) rfl ⟨{ s with sq := s.sq + 1 }, false, _, _, _, _, .inr ⟨HN.out, rfl, rfl⟩, rfl, ?_⟩
    rw [Hx0.out]
    exact apl_end Q1.out Q3.out HNE.out hy2 b3
  have HY : Hid (TakeP s ⟨2, tk, ti, bg, fi, ky⟩) := Lib.hid (HBT.out.1 rfl)
  clear HBT
  obtain ⟨c0, c1, c2', c3, c4, c5, c6, c7, c8, c9⟩ := P3.out.cs.ten
  obtain ⟨q0, q1, q2, q3, q4, q5⟩ := (show RecAt W3 (x0 + 1) ⟨2, tk, ti, bg, fi, ky⟩ from P3.out.cr).cells
  have fs := P3.out.fs
  go_upto_region 25 with fail
  have P4 := Lib.hid (show ApW x0 (W3.setCell ⟨x0, 1, none⟩ (.int .i64 tk)) [.int .i64 (s.sq + 1), .int .i64 tk, .slice A1 s.ents.length k1, .slice A3 s.tmbs.length k3, .int .i64 s.lo.a, .int .i64 s.lo.b, .int .i64 s.lo.c, .int .i64 s.hi.a, .int .i64 s.hi.b, .int .i64 s.hi.c] [.int .i64 2, .int .i64 tk, .int .i64 ti, .int .i64 bg, .int .i64 fi, .string ky] [.int .i64 0, .int .i64 0, .slice none 0 0, .slice none 0 0, .int .i64 0, .int .i64 0, .int .i64 0, .int .i64 0, .int .i64 0, .int .i64 0] from P3.out.set (k := 1) (by simp) (.int .i64 tk))
  have Q4 := Lib.hid (Q1.out.farO (p := ⟨x0, 1, none⟩) (by show x0 < y; omega) (.int .i64 tk))
  have Q5 := Lib.hid (Q3.out.farO (p := ⟨x0, 1, none⟩) (by show x0 < y; omega) (.int .i64 tk))
  have b4 : Below x0 w (W3.setCell ⟨x0, 1, none⟩ (.int .i64 tk)) := b3.setCell (by exact Nat.le_refl _) _
  generalize W3.setCell ⟨x0, 1, none⟩ (.int .i64 tk) = W4 at *
  clear c0 c1 c2' c3 c4 c5 c6 c7 c8 c9 q0 q1 q2 q3 q4 q5 fs Q1 Q3 P3 b3
  obtain ⟨c0, c1, c2', c3, c4, c5, c6, c7, c8, c9⟩ := P4.out.cs.ten
  obtain ⟨z0, z1, z2, z3, z4, z5, z6, z7, z8, z9⟩ := P4.out.cz.ten
  have y0 := P4.out.fz 0
  have y1 := P4.out.fz 1
  have y2 := P4.out.fz 2
  have y3 := P4.out.fz 3
  have y4 := P4.out.fz 4
  have y5 := P4.out.fz 5
  have y6 := P4.out.fz 6
  have y7 := P4.out.fz 7
  have y8 := P4.out.fz 8
  have y9 := P4.out.fz 9
  go_wp2
  refine bodyPost_ret (v := .tuple #[.agg #[.int .i64 (s.sq + 1), .int .i64 tk, .slice A1 s.ents.length k1, .slice A3 s.tmbs.length k3, .int .i64 s.lo.a, .int .i64 s.lo.b, .int .i64 s.lo.c, .int .i64 s.hi.a, .int .i64 s.hi.b, .int .i64 s.hi.c], .bool true]) (by simp [results, Tryz.results25, go_sem, *]) rfl ⟨{ s with sq := s.sq + 1, fe := tk }, true, _, _, _, _, .inl ⟨HY.out, by simp [appS], rfl⟩, rfl, ?_⟩
  rw [Hx0.out]
  exact apl_end Q4.out Q5.out HNE.out hy2 b4

end Go.Proofs.YtpfanmcjlfdaiaaGreatDoorR

/- What both ApplyRecord answer; a state that is stored far from its lists. Conditions: lengths. -/
namespace Go.Proofs.YtpfanmcjlfdaiaaGreatDoorR
open Go.ChangeShapes Go.WideShapes Go.ChangeAt Go.RowKit Go.Deep Go.Joins Go.Maps
set_option linter.unusedVariables false
set_option linter.unusedSimpArgs false

/-- what ApplyRecord answers -/
def AplAns (s : GSt) (r : GRec) (w : World) (e : Ending) (w' : World) : Prop :=
  ∃ (x : GSt) (b : Bool) (z : Int) (A : Option Addr) (c : Nat) (A2 : Option Addr) (c2 : Nat), AplVal s r x b z ∧ e = .returned (.tuple #[.agg #[.int .i64 x.sq, .int .i64 x.fe, .slice A x.ents.length c, .slice A2 x.tmbs.length c2, .int .i64 x.lo.a, .int .i64 x.lo.b, .int .i64 x.lo.c, .int .i64 x.hi.a, .int .i64 x.hi.b, .int .i64 x.hi.c], .bool b, .int .i64 z]) ∧ StAt w' w'.heap.size A A2 x ∧ StOwn w.heap.size w' A A2 ∧ x.ents.length ≤ c ∧ x.tmbs.length ≤ c2 ∧ Below w.heap.size w w' 

theorem st_far {w : World} {B y : Nat} {A A2 : Option Addr} {x : GSt} (h : StAt w B A A2 x) (o : StOwn y w A A2) {p : Addr} (hp : p.block < y) (u : Value) : StAt (w.setCell p u) B A A2 x ∧ StOwn y (w.setCell p u) A A2 :=
  ⟨⟨Sl.far h.1 (fun b e => by have := (o.2.2.1 b e).1; omega) u, Sl.far h.2 (fun b e => by have := (o.2.2.2.1 b e).1; omega) u⟩, o.1.setCell p u, o.2.1.setCell p u, fun b e => ⟨(o.2.2.1 b e).1, by rw [size_setCell]; exact (o.2.2.1 b e).2⟩, fun b e => ⟨(o.2.2.2.1 b e).1, by rw [size_setCell]; exact (o.2.2.2.1 b e).2⟩, o.2.2.2.2⟩

theorem st_end10 {x : GSt} {A A2 : Option Addr} {c c2 x0 y : Nat} {w Wn : World} {v0 : Value} {v1 : Value} {v2 : Value} {v3 : Value} {v4 : Value} {v5 : Value} {v6 : Value} {v7 : Value} {v8 : Value} {v9 : Value} (h0 : StAt Wn Wn.heap.size A A2 x) (o0 : StOwn y Wn A A2) (hc : x.ents.length ≤ c) (hc2 : x.tmbs.length ≤ c2) (hy : x0 + 3 ≤ y) (hb : Below x0 w Wn) :
    StAt ((((((((((Wn.setCell ⟨x0 + 2, 0, none⟩ v0).setCell ⟨x0 + 2, 1, none⟩ v1).setCell ⟨x0 + 2, 2, none⟩ v2).setCell ⟨x0 + 2, 3, none⟩ v3).setCell ⟨x0 + 2, 4, none⟩ v4).setCell ⟨x0 + 2, 5, none⟩ v5).setCell ⟨x0 + 2, 6, none⟩ v6).setCell ⟨x0 + 2, 7, none⟩ v7).setCell ⟨x0 + 2, 8, none⟩ v8).setCell ⟨x0 + 2, 9, none⟩ v9) ((((((((((Wn.setCell ⟨x0 + 2, 0, none⟩ v0).setCell ⟨x0 + 2, 1, none⟩ v1).setCell ⟨x0 + 2, 2, none⟩ v2).setCell ⟨x0 + 2, 3, none⟩ v3).setCell ⟨x0 + 2, 4, none⟩ v4).setCell ⟨x0 + 2, 5, none⟩ v5).setCell ⟨x0 + 2, 6, none⟩ v6).setCell ⟨x0 + 2, 7, none⟩ v7).setCell ⟨x0 + 2, 8, none⟩ v8).setCell ⟨x0 + 2, 9, none⟩ v9).heap.size A A2 x ∧ StOwn x0 ((((((((((Wn.setCell ⟨x0 + 2, 0, none⟩ v0).setCell ⟨x0 + 2, 1, none⟩ v1).setCell ⟨x0 + 2, 2, none⟩ v2).setCell ⟨x0 + 2, 3, none⟩ v3).setCell ⟨x0 + 2, 4, none⟩ v4).setCell ⟨x0 + 2, 5, none⟩ v5).setCell ⟨x0 + 2, 6, none⟩ v6).setCell ⟨x0 + 2, 7, none⟩ v7).setCell ⟨x0 + 2, 8, none⟩ v8).setCell ⟨x0 + 2, 9, none⟩ v9) A A2 ∧ x.ents.length ≤ c ∧ x.tmbs.length ≤ c2 ∧ Below x0 w ((((((((((Wn.setCell ⟨x0 + 2, 0, none⟩ v0).setCell ⟨x0 + 2, 1, none⟩ v1).setCell ⟨x0 + 2, 2, none⟩ v2).setCell ⟨x0 + 2, 3, none⟩ v3).setCell ⟨x0 + 2, 4, none⟩ v4).setCell ⟨x0 + 2, 5, none⟩ v5).setCell ⟨x0 + 2, 6, none⟩ v6).setCell ⟨x0 + 2, 7, none⟩ v7).setCell ⟨x0 + 2, 8, none⟩ v8).setCell ⟨x0 + 2, 9, none⟩ v9) := by
  obtain ⟨h1, o1⟩ := st_far h0 o0 (p := ⟨x0 + 2, 0, none⟩) (by show x0 + 2 < y; omega) v0
  obtain ⟨h2, o2⟩ := st_far h1 o1 (p := ⟨x0 + 2, 1, none⟩) (by show x0 + 2 < y; omega) v1
  obtain ⟨h3, o3⟩ := st_far h2 o2 (p := ⟨x0 + 2, 2, none⟩) (by show x0 + 2 < y; omega) v2
  obtain ⟨h4, o4⟩ := st_far h3 o3 (p := ⟨x0 + 2, 3, none⟩) (by show x0 + 2 < y; omega) v3
  obtain ⟨h5, o5⟩ := st_far h4 o4 (p := ⟨x0 + 2, 4, none⟩) (by show x0 + 2 < y; omega) v4
  obtain ⟨h6, o6⟩ := st_far h5 o5 (p := ⟨x0 + 2, 5, none⟩) (by show x0 + 2 < y; omega) v5
  obtain ⟨h7, o7⟩ := st_far h6 o6 (p := ⟨x0 + 2, 6, none⟩) (by show x0 + 2 < y; omega) v6
  obtain ⟨h8, o8⟩ := st_far h7 o7 (p := ⟨x0 + 2, 7, none⟩) (by show x0 + 2 < y; omega) v7
  obtain ⟨h9, o9⟩ := st_far h8 o8 (p := ⟨x0 + 2, 8, none⟩) (by show x0 + 2 < y; omega) v8
  obtain ⟨h10, o10⟩ := st_far h9 o9 (p := ⟨x0 + 2, 9, none⟩) (by show x0 + 2 < y; omega) v9
  refine ⟨h10.more (by simp only [size_setCell]; exact Nat.le_refl _), ⟨o10.1, o10.2.1, fun b e => ⟨by have := (o10.2.2.1 b e).1; omega, (o10.2.2.1 b e).2⟩, fun b e => ⟨by have := (o10.2.2.2.1 b e).1; omega, (o10.2.2.2.1 b e).2⟩, o10.2.2.2.2⟩, hc, hc2, ?_⟩
  repeat' first | with_reducible exact hb | (with_reducible refine Below.setCell ?_ (by show x0 ≤ x0 + 2; omega) _)

theorem zSt_at (w : World) : StAt w w.heap.size none none zSt := ⟨Sl.nil, Sl.nil⟩

theorem zSt_own (y : Nat) (w : World) : StOwn y w none none := by
  refine ⟨fun b e => ?_, fun b e => ?_, fun b e => ?_, fun b e => ?_, fun b e => ?_⟩ <;> simp [blk] at e

end Go.Proofs.YtpfanmcjlfdaiaaGreatDoorR

/- Contract of the model's l06Apply for records that purge. Conditions: lengths; what l06Takes answers. -/
namespace Go.Proofs.YtpfanmcjlfdaiaaGreatDoorR
open Go.ChangeShapes Go.WideShapes Go.ChangeAt Go.RowKit Go.Deep Go.Joins Go.Maps
set_option linter.unusedVariables false
set_option linter.unusedSimpArgs false

set_option maxRecDepth 100000 in
set_option maxHeartbeats 4000000 in
theorem apply5 (A : Option Addr) (c : Nat) (A2 : Option Addr) (c2 : Nat) (s : GSt) (tk bg fi : Int) (ky : ByteArray) (B : Nat) (w : World) (h : StAt w B A A2 s) (hB : B ≤ w.heap.size) (hl : s.ents.length ≤ 1048576) (hl2 : s.tmbs.length ≤ 1048576) (hsq : 0 ≤ s.sq ∧ s.sq ≤ 999999)
    (hT : ∀ W, Below w.heap.size w W → Calls Tryz.prog 58 #[.agg #[.int .i64 s.sq, .int .i64 s.fe, .slice A s.ents.length c, .slice A2 s.tmbs.length c2, .int .i64 s.lo.a, .int .i64 s.lo.b, .int .i64 s.lo.c, .int .i64 s.hi.a, .int .i64 s.hi.b, .int .i64 s.hi.c], .agg #[.int .i64 5, .int .i64 tk, .int .i64 0, .int .i64 bg, .int .i64 fi, .string ky]] W (IsBB (TakeP s ⟨5, tk, 0, bg, fi, ky⟩) W)) :
    Calls Tryz.prog 25 #[.agg #[.int .i64 s.sq, .int .i64 s.fe, .slice A s.ents.length c, .slice A2 s.tmbs.length c2, .int .i64 s.lo.a, .int .i64 s.lo.b, .int .i64 s.lo.c, .int .i64 s.hi.a, .int .i64 s.hi.b, .int .i64 s.hi.c], .agg #[.int .i64 5, .int .i64 tk, .int .i64 0, .int .i64 bg, .int .i64 fi, .string ky]] w (AplEnd s ⟨5, tk, 0, bg, fi, ky⟩ w) := by
  have H := Lib.hid h; clear h
  have HT := Lib.hid hT; clear hT
  go_enter Tryz.func25, Tryz.ntmps25
  go_upto_region 1 with fail
  obtain ⟨W, hW⟩ : ∃ W, W = ((w.alloc (.cells #[.int .i64 s.sq, .int .i64 s.fe, .slice A s.ents.length c, .slice A2 s.tmbs.length c2, .int .i64 s.lo.a, .int .i64 s.lo.b, .int .i64 s.lo.c, .int .i64 s.hi.a, .int .i64 s.hi.b, .int .i64 s.hi.c] 34)).alloc (.cells #[.int .i64 5, .int .i64 tk, .int .i64 0, .int .i64 bg, .int .i64 fi, .string ky] 38)).alloc (.cells #[.int .i64 0, .int .i64 0, .slice none 0 0, .slice none 0 0, .int .i64 0, .int .i64 0, .int .i64 0, .int .i64 0, .int .i64 0, .int .i64 0] 34) := ⟨_, rfl⟩
  have p0 : ApW w.heap.size W [.int .i64 s.sq, .int .i64 s.fe, .slice A s.ents.length c, .slice A2 s.tmbs.length c2, .int .i64 s.lo.a, .int .i64 s.lo.b, .int .i64 s.lo.c, .int .i64 s.hi.a, .int .i64 s.hi.b, .int .i64 s.hi.c] [.int .i64 5, .int .i64 tk, .int .i64 0, .int .i64 bg, .int .i64 fi, .string ky] [.int .i64 0, .int .i64 0, .slice none 0 0, .slice none 0 0, .int .i64 0, .int .i64 0, .int .i64 0, .int .i64 0, .int .i64 0, .int .i64 0] := by rw [hW]; exact ApW.new w (.int .i64 s.sq) (.int .i64 s.fe) (.slice A s.ents.length c) (.slice A2 s.tmbs.length c2) (.int .i64 s.lo.a) (.int .i64 s.lo.b) (.int .i64 s.lo.c) (.int .i64 s.hi.a) (.int .i64 s.hi.b) (.int .i64 s.hi.c) (.int .i64 5) (.int .i64 tk) (.int .i64 0) (.int .i64 bg) (.int .i64 fi) (.string ky) _ _ _
  have b0 : Below w.heap.size w W := by rw [hW]; exact bal (bal (bal (Below.refl _ _) _) _) _
  rw [← hW]
  clear hW
  generalize (Value.agg #[.int .i64 s.sq, .int .i64 s.fe, .slice A s.ents.length c, .slice A2 s.tmbs.length c2, .int .i64 s.lo.a, .int .i64 s.lo.b, .int .i64 s.lo.c, .int .i64 s.hi.a, .int .i64 s.hi.b, .int .i64 s.hi.c]) = va
  generalize (Value.agg #[.int .i64 5, .int .i64 tk, .int .i64 0, .int .i64 bg, .int .i64 fi, .string ky]) = vr
  have P0 := Lib.hid p0; clear p0
  generalize hx0 : w.heap.size = x0 at *
  have Hx0 := Lib.hid hx0; clear hx0
  obtain ⟨c0, c1, c2', c3, c4, c5, c6, c7, c8, c9⟩ := P0.out.cs.ten
  obtain ⟨q0, q1, q2, q3, q4, q5⟩ := (show RecAt W (x0 + 1) ⟨5, tk, 0, bg, fi, ky⟩ from P0.out.cr).cells
  go_wp2_with fail
  refine (HT.out W b0).mono ?_
  rintro e w1 ⟨b, hb, rfl, hb1⟩
  have HBT := Lib.hid hb; clear hb
  have b1 : Below x0 w w1 := b0.trans (hb1.mono (by have := P0.out.sz; omega))
  have P1 := Lib.hid (P0.out.below hb1 P0.out.sz)
  clear P0 b0 hb1 HT c0 c1 c2' c3 c4 c5 c6 c7 c8 c9 q0 q1 q2 q3 q4 q5
  obtain ⟨c0, c1, c2', c3, c4, c5, c6, c7, c8, c9⟩ := P1.out.cs.ten
  have hw1 : x0 ≤ w1.heap.size := by have := P1.out.sz; omega
  go_wp2_with fail
  refine (l06OwnO_any A c A2 c2 s x0 w1 ((H.out.below b1 hB).more hB) hw1 hl hl2).mono ?_
  rintro e w2 ⟨A1, k1, A3, k3, rfl, o1, o3, hne, hb2, hyz⟩
  have b2 : Below x0 w w2 := b1.trans (hb2.mono hw1)
  have P2 := Lib.hid (P1.out.below hb2 P1.out.sz)
  have O1 := Lib.hid o1; have O3 := Lib.hid o3; have HNE := Lib.hid hne
  have hy2 : x0 + 3 ≤ w1.heap.size + 2 := by have := P1.out.sz; omega
  clear P1 b1 hb2 o1 o3 hne c0 c1 c2' c3 c4 c5 c6 c7 c8 c9
  generalize w1.heap.size + 2 = y at *
  obtain ⟨c0, c1, c2', c3, c4, c5, c6, c7, c8, c9⟩ := P2.out.cs.ten
  have fs := P2.out.fs
  go_upto_region 4 with fail
  obtain ⟨W3, hW3⟩ : ∃ W3, W3 = (((((((((((w2.setCell ⟨x0, 0, none⟩ (.int .i64 s.sq)).setCell ⟨x0, 1, none⟩ (.int .i64 s.fe)).setCell ⟨x0, 2, none⟩ (.slice A1 s.ents.length k1)).setCell ⟨x0, 3, none⟩ (.slice A3 s.tmbs.length k3)).setCell ⟨x0, 4, none⟩ (.int .i64 s.lo.a)).setCell ⟨x0, 5, none⟩ (.int .i64 s.lo.b)).setCell ⟨x0, 6, none⟩ (.int .i64 s.lo.c)).setCell ⟨x0, 7, none⟩ (.int .i64 s.hi.a)).setCell ⟨x0, 8, none⟩ (.int .i64 s.hi.b)).setCell ⟨x0, 9, none⟩ (.int .i64 s.hi.c)).setCell ⟨x0, 0, none⟩ (.int .i64 (s.sq + 1))) := ⟨_, rfl⟩
  have p3 : ApW x0 W3 [.int .i64 (s.sq + 1), .int .i64 s.fe, .slice A1 s.ents.length k1, .slice A3 s.tmbs.length k3, .int .i64 s.lo.a, .int .i64 s.lo.b, .int .i64 s.lo.c, .int .i64 s.hi.a, .int .i64 s.hi.b, .int .i64 s.hi.c] [.int .i64 5, .int .i64 tk, .int .i64 0, .int .i64 bg, .int .i64 fi, .string ky] [.int .i64 0, .int .i64 0, .slice none 0 0, .slice none 0 0, .int .i64 0, .int .i64 0, .int .i64 0, .int .i64 0, .int .i64 0, .int .i64 0] := by rw [hW3]; exact (((((((((((P2.out.set (k := 0) (by simp) (.int .i64 s.sq)).set (k := 1) (by simp) (.int .i64 s.fe)).set (k := 2) (by simp) (.slice A1 s.ents.length k1)).set (k := 3) (by simp) (.slice A3 s.tmbs.length k3)).set (k := 4) (by simp) (.int .i64 s.lo.a)).set (k := 5) (by simp) (.int .i64 s.lo.b)).set (k := 6) (by simp) (.int .i64 s.lo.c)).set (k := 7) (by simp) (.int .i64 s.hi.a)).set (k := 8) (by simp) (.int .i64 s.hi.b)).set (k := 9) (by simp) (.int .i64 s.hi.c)).set (k := 0) (by simp) (.int .i64 (s.sq + 1)))
  have b3 : Below x0 w W3 := by rw [hW3]; repeat' first | with_reducible exact b2 | (with_reducible refine Below.setCell ?_ (by exact Nat.le_refl _) _)
  have q1 : OwnSl GEnt.vals 4 103 y W3 (.slice A1 s.ents.length k1) s.ents := by
    rw [hW3]; repeat' first | with_reducible exact O1.out | (with_reducible refine OwnSl.farO ?_ (by show x0 < y; omega) _)
  have q3 : OwnSl GTmb.vals 2 108 y W3 (.slice A3 s.tmbs.length k3) s.tmbs := by
    rw [hW3]; repeat' first | with_reducible exact O3.out | (with_reducible refine OwnSl.farO ?_ (by show x0 < y; omega) _)
  have hyW : y ≤ W3.heap.size := by rw [hW3]; simp only [size_setCell]; exact hyz
  rw [← hW3]
  clear hyz hW3 c0 c1 c2' c3 c4 c5 c6 c7 c8 c9 fs P2 O1 O3 b2
  have P3 := Lib.hid p3; clear p3
  have Q1 := Lib.hid q1; clear q1
  have Q3 := Lib.hid q3; clear q3
  generalize (Value.agg #[.int .i64 s.sq, .int .i64 s.fe, .slice A s.ents.length c, .slice A2 s.tmbs.length c2, .int .i64 s.lo.a, .int .i64 s.lo.b, .int .i64 s.lo.c, .int .i64 s.hi.a, .int .i64 s.hi.b, .int .i64 s.hi.c]) = va2
  generalize (Value.agg #[.int .i64 5, .int .i64 tk, .int .i64 0, .int .i64 bg, .int .i64 fi, .string ky]) = vr2
  generalize (Value.agg #[.int .i64 s.sq, .int .i64 s.fe, .slice A1 s.ents.length k1, .slice A3 s.tmbs.length k3, .int .i64 s.lo.a, .int .i64 s.lo.b, .int .i64 s.lo.c, .int .i64 s.hi.a, .int .i64 s.hi.b, .int .i64 s.hi.c]) = va4
  cases b
  · have HN : Hid (¬ TakeP s ⟨5, tk, 0, bg, fi, ky⟩) := Lib.hid (fun h => by have := HBT.out.2 h; cases this)
    clear HBT
    obtain ⟨c0, c1, c2', c3, c4, c5, c6, c7, c8, c9⟩ := P3.out.cs.ten
    obtain ⟨z0, z1, z2, z3, z4, z5, z6, z7, z8, z9⟩ := P3.out.cz.ten
    have y0 := P3.out.fz 0
    have y1 := P3.out.fz 1
    have y2 := P3.out.fz 2
    have y3 := P3.out.fz 3
    have y4 := P3.out.fz 4
    have y5 := P3.out.fz 5
    have y6 := P3.out.fz 6
    have y7 := P3.out.fz 7
    have y8 := P3.out.fz 8
    have y9 := P3.out.fz 9
    go_wp2
    refine bodyPost_ret (v := .tuple #[.agg #[.int .i64 (s.sq + 1), .int .i64 s.fe, .slice A1 s.ents.length k1, .slice A3 s.tmbs.length k3, .int .i64 s.lo.a, .int .i64 s.lo.b, .int .i64 s.lo.c, .int .i64 s.hi.a, .int .i64 s.hi.b, .int .i64 s.hi.c], .bool false]) (by simp [results, Tryz.results25, go_sem, *]) rfl ⟨{ s with sq := s.sq + 1 }, false, _, _, _, _, .inr ⟨HN.out, rfl, rfl⟩, rfl, ?_⟩
    rw [Hx0.out]
    exact apl_end Q1.out Q3.out HNE.out hy2 b3
  have HY : Hid (TakeP s ⟨5, tk, 0, bg, fi, ky⟩) := Lib.hid (HBT.out.1 rfl)
  clear HBT
  have HL3 : Hid (TmbsAt W3 W3.heap.size A3 s.tmbs) := Lib.hid (OwnSl.sl Q3.out (fun _ => rfl)).1
  obtain ⟨c0, c1, c2', c3, c4, c5, c6, c7, c8, c9⟩ := P3.out.cs.ten
  obtain ⟨q0, q1, q2, q3, q4, q5⟩ := (show RecAt W3 (x0 + 1) ⟨5, tk, 0, bg, fi, ky⟩ from P3.out.cr).cells
  go_wp2_with fail
  have o0 : OwnSl GTmb.vals 2 108 W3.heap.size (W3.alloc (.cells #[] 108)) (.slice (some ⟨W3.heap.size, 0, none⟩) 0 0) [] := own_empty _ _ _ W3
  have hbw : Below W3.heap.size W3 (W3.alloc (.cells #[] 108)) := bal (Below.refl _ _) _
  generalize W3.alloc (.cells #[] 108) = w0 at o0 hbw ⊢
  have O0 := Lib.hid o0; clear o0
  clear c0 c1 c2' c3 c4 c5 c6 c7 c8 c9 q0 q1 q2 q3 q4 q5
  go_loopw [8, 9] (fun l i wr => ∃ (k : Nat) (ys : List GTmb) (A : Option Addr) (c : Nat), k ≤ s.tmbs.length ∧ i = .int .i64 k ∧ l = .slice A ys.length c ∧ ys.length ≤ k ∧ Hid (OwnSl GTmb.vals 2 108 W3.heap.size wr (.slice A ys.length c) ys) ∧ Hid (ys = (s.tmbs.take k).filter fun t => decide (¬ t.key = ky)) ∧ Below W3.heap.size W3 wr) (fun _ i _ => s.tmbs.length - (intOf i).toNat)
  case atStart => exact ⟨0, [], _, _, by omega, rfl, rfl, by simp, O0, Lib.hid (by simp), hbw⟩
  case round =>
    clear O0 hbw
    obtain ⟨k, ys, A7, k7, hk, rfl, rfl, hyk, HO, HYS, hb⟩ := hrel
    have PW := Lib.hid (P3.out.below hb P3.out.sz)
    obtain ⟨c0, c1, c2', c3, c4, c5, c6, c7, c8, c9⟩ := PW.out.cs.ten
    obtain ⟨q0, q1, q2, q3, q4, q5⟩ := (show RecAt wr (x0 + 1) ⟨5, tk, 0, bg, fi, ky⟩ from PW.out.cr).cells
    by_cases hlt : k < s.tmbs.length
    · obtain ⟨b7, o7, rfl, hb7, p0, p1⟩ := TmbsAt.one (Sl.below HL3.out hb (Nat.le_refl _)) hlt
      have HT7 : Hid ((s.tmbs.take (k + 1)).filter (fun t => decide (¬ t.key = ky)) = (s.tmbs.take k).filter (fun t => decide (¬ t.key = ky)) ++ ([s.tmbs[k]].filter fun t => decide (¬ t.key = ky))) := Lib.hid (by rw [List.take_succ_eq_append_getElem hlt, List.filter_append])
      generalize s.tmbs[k] = tb at *
      by_cases hq : tb.key = ky
      · have d1 : (tb.key.toList != ky.toList) = false := by rw [hq]; simp
        have d2 : (tb.key.toList == ky.toList) = true := by rw [hq]; simp
        have HF := Lib.hid (show ys = (s.tmbs.take (k + 1)).filter (fun t => decide (¬ t.key = ky)) by rw [HT7.out, ← HYS.out]; simp [hq])
        clear hq HYS HT7
        go_wp2_with fail
        go_quiet (fail)
        go_wp2
        go_roundw
        case rel => exact ⟨k + 1, ys, A7, k7, by omega, by go_num, rfl, by omega, HO, HF, bdrewB hb _⟩
        case measure => simp [intOf]; omega
      · have d2 := ne_list hq
        have d1 : (tb.key.toList != ky.toList) = true := by simp [bne, d2]
        have HF := Lib.hid (show ys ++ [tb] = (s.tmbs.take (k + 1)).filter (fun t => decide (¬ t.key = ky)) by rw [HT7.out, ← HYS.out]; simp [hq])
        clear hq HYS HT7
        go_wp2_with fail
        go_quiet (fail)
        obtain ⟨wd, hwd⟩ : ∃ wd, wd = wr.drewN nq := ⟨_, rfl⟩
        rw [← hwd]
        have hbd : Below W3.heap.size W3 wd := by rw [hwd]; exact bdrewB hb _
        have HOd : Hid (OwnSl GTmb.vals 2 108 W3.heap.size wd (.slice A7 ys.length k7) ys) := Lib.hid (by rw [hwd]; exact HO.out)
        have PD := Lib.hid (P3.out.below hbd P3.out.sz)
        have e0 : wd.cell? ⟨b7, o7 + k * 2, none⟩ = some (.int .i64 tb.seq) := by rw [hwd]; exact p0
        have e1 : wd.cell? ⟨b7, o7 + k * 2 + 1, none⟩ = some (.string tb.key) := by rw [hwd]; exact p1
        clear hwd HO PW hb c0 c1 c2' c3 c4 c5 c6 c7 c8 c9 q0 q1 q2 q3 q4 q5 p0 p1
        obtain ⟨c0, c1, c2', c3, c4, c5, c6, c7, c8, c9⟩ := PD.out.cs.ten
        have HO4 : Hid (OwnSl GTmb.vals 2 108 W3.heap.size (wd.alloc (.cells #[.int .i64 tb.seq, .string tb.key] 108)) (.slice A7 ys.length k7) ys) := Lib.hid (World.ownsRow.alloc HOd.out _)
        have HN4 := Lib.hid (new_tmbv wd tb 108)
        have szd : W3.heap.size ≤ wd.heap.size := hbd.size
        have Hb4 := Lib.hid (show Below W3.heap.size W3 (wd.alloc (.cells #[.int .i64 tb.seq, .string tb.key] 108)) from bal hbd _)
        go_wp2_with (at_builtin; refine wpList_append_sl GTmb.vals 2 24 (fun _ => rfl) tmbv_one 32 108 _ infoTmb rfl (by omega) Tryz.underlying32 rfl _ _ rfl W3.heap.size ys [tb] (.slice A7 ys.length k7) rfl HO4.out (some ⟨wd.heap.size, 0, none⟩) 1 (wd.heap.size + 1) rfl HN4.out (by simp [maxLen]; omega) (by simp; omega) (by simp; omega) ?_; intro v' w5 hO5 hg5 _; obtain ⟨zs, hzs⟩ : ∃ zs, zs = ys ++ [tb] := ⟨_, rfl⟩; rw [← hzs] at hO5; obtain ⟨A5, k5, rfl⟩ := hO5.form; have HO5 := Lib.hid hO5; have HZS := Lib.hid hzs; have Hg5 := Lib.hid hg5; clear hO5 hzs hg5)
        have hb5 : Below W3.heap.size W3 w5 := Hb4.out.trans (below_of_grown Hg5.out (by simp; omega) (fun g e => (World.ownsRow.lt HO4.out g e).1))
        have hzl : zs.length ≤ k + 1 := by rw [HZS.out]; simp; omega
        go_roundw
        case rel => exact ⟨k + 1, zs, A5, k5, by omega, by go_num, rfl, hzl, HO5, Lib.hid (by rw [HZS.out]; exact HF.out), hb5⟩
        case measure => simp [intOf]; omega
    · obtain rfl : k = s.tmbs.length := by omega
      have HYF : Hid (ys = s.tmbs.filter fun t => decide (¬ t.key = ky)) := Lib.hid (by have := HYS.out; rwa [List.take_length] at this)
      have fs := PW.out.fs
      clear HYS
      go_upto_region 25 with fail
      have P6 := Lib.hid (show ApW x0 (wr.setCell ⟨x0, 3, none⟩ (.slice A7 ys.length k7)) [.int .i64 (s.sq + 1), .int .i64 s.fe, .slice A1 s.ents.length k1, .slice A7 ys.length k7, .int .i64 s.lo.a, .int .i64 s.lo.b, .int .i64 s.lo.c, .int .i64 s.hi.a, .int .i64 s.hi.b, .int .i64 s.hi.c] [.int .i64 5, .int .i64 tk, .int .i64 0, .int .i64 bg, .int .i64 fi, .string ky] [.int .i64 0, .int .i64 0, .slice none 0 0, .slice none 0 0, .int .i64 0, .int .i64 0, .int .i64 0, .int .i64 0, .int .i64 0, .int .i64 0] from PW.out.set (k := 3) (by simp) (.slice A7 ys.length k7))
      have OE6 : Hid (OwnSl GEnt.vals 4 103 y (wr.setCell ⟨x0, 3, none⟩ (.slice A7 ys.length k7)) (.slice A1 s.ents.length k1) s.ents) := Lib.hid ((OwnSl.below Q1.out hb).farO (p := ⟨x0, 3, none⟩) (by show x0 < y; omega) _)
      have OT6 : Hid (OwnSl GTmb.vals 2 108 y (wr.setCell ⟨x0, 3, none⟩ (.slice A7 ys.length k7)) (.slice A7 ys.length k7) ys) := Lib.hid (OwnSl.farO (OwnSl.monoO HO.out hyW) (p := ⟨x0, 3, none⟩) (by show x0 < y; omega) _)
      have HNE6 : Hid (∀ b, blk A1 = some b → blk A7 ≠ some b) := Lib.hid (fun b e e' => by
        have h1 := (World.ownsRow.lt Q1.out b ((own_blk _ _ _).trans e)).2
        have h2 := (World.ownsRow.lt HO.out b ((own_blk _ _ _).trans e')).1
        omega)
      have b6 : Below x0 w (wr.setCell ⟨x0, 3, none⟩ (.slice A7 ys.length k7)) := (b3.trans (hb.mono (by omega))).setCell (by exact Nat.le_refl _) _
      have HAP : Hid (({ s with sq := s.sq + 1, tmbs := ys } : GSt) = appS s ⟨5, tk, 0, bg, fi, ky⟩) := Lib.hid (by rw [HYF.out]; simp [appS])
      clear c0 c1 c2' c3 c4 c5 c6 c7 c8 c9 q0 q1 q2 q3 q4 q5 fs Q1 Q3 P3 PW b3 HO HYF HL3 hb
      generalize wr.setCell ⟨x0, 3, none⟩ (.slice A7 ys.length k7) = W6 at *
      obtain ⟨c0, c1, c2', c3, c4, c5, c6, c7, c8, c9⟩ := P6.out.cs.ten
      obtain ⟨z0, z1, z2, z3, z4, z5, z6, z7, z8, z9⟩ := P6.out.cz.ten
      have y0 := P6.out.fz 0
      have y1 := P6.out.fz 1
      have y2 := P6.out.fz 2
      have y3 := P6.out.fz 3
      have y4 := P6.out.fz 4
      have y5 := P6.out.fz 5
      have y6 := P6.out.fz 6
      have y7 := P6.out.fz 7
      have y8 := P6.out.fz 8
      have y9 := P6.out.fz 9
      go_wp2
      refine bodyPost_ret (v := .tuple #[.agg #[.int .i64 (s.sq + 1), .int .i64 s.fe, .slice A1 s.ents.length k1, .slice A7 ys.length k7, .int .i64 s.lo.a, .int .i64 s.lo.b, .int .i64 s.lo.c, .int .i64 s.hi.a, .int .i64 s.hi.b, .int .i64 s.hi.c], .bool true]) (by simp [results, Tryz.results25, go_sem, *]) rfl ⟨{ s with sq := s.sq + 1, tmbs := ys }, true, _, _, _, _, .inl ⟨HY.out, HAP.out, rfl⟩, rfl, ?_⟩
      rw [Hx0.out]
      exact apl_end OE6.out OT6.out HNE6.out hy2 b6

end Go.Proofs.YtpfanmcjlfdaiaaGreatDoorR
