/-
  Contract of the model's l06Apply for records that add or publish an entry. Conditions: lengths; what l06Takes answers.
-/
import Derived.Test.YtpfanmcjlfdaiaaGreatDoorRN12
namespace Go.Proofs.YtpfanmcjlfdaiaaGreatDoorR
open Go.ChangeShapes Go.WideShapes Go.ChangeAt Go.RowKit Go.Deep Go.Joins Go.Maps
set_option linter.unusedVariables false
set_option linter.unusedSimpArgs false

set_option maxRecDepth 100000 in
set_option maxHeartbeats 4000000 in
theorem apply1 (A : Option Addr) (c : Nat) (A2 : Option Addr) (c2 : Nat) (s : GSt) (tk bg fi : Int) (ky : ByteArray) (B : Nat) (w : World) (h : StAt w B A A2 s) (hB : B ≤ w.heap.size) (hl : s.ents.length ≤ 1048576) (hl2 : s.tmbs.length ≤ 1048576) (hsq : 0 ≤ s.sq ∧ s.sq ≤ 999999)
    (hT : ∀ W, Below w.heap.size w W → Calls Tryz.prog 58 #[.agg #[.int .i64 s.sq, .int .i64 s.fe, .slice A s.ents.length c, .slice A2 s.tmbs.length c2, .int .i64 s.lo.a, .int .i64 s.lo.b, .int .i64 s.lo.c, .int .i64 s.hi.a, .int .i64 s.hi.b, .int .i64 s.hi.c], .agg #[.int .i64 1, .int .i64 tk, .int .i64 0, .int .i64 bg, .int .i64 fi, .string ky]] W (IsBB (TakeP s ⟨1, tk, 0, bg, fi, ky⟩) W)) :
    Calls Tryz.prog 25 #[.agg #[.int .i64 s.sq, .int .i64 s.fe, .slice A s.ents.length c, .slice A2 s.tmbs.length c2, .int .i64 s.lo.a, .int .i64 s.lo.b, .int .i64 s.lo.c, .int .i64 s.hi.a, .int .i64 s.hi.b, .int .i64 s.hi.c], .agg #[.int .i64 1, .int .i64 tk, .int .i64 0, .int .i64 bg, .int .i64 fi, .string ky]] w (AplEnd s ⟨1, tk, 0, bg, fi, ky⟩ w) := by
  have H := Lib.hid h; clear h
  have HT := Lib.hid hT; clear hT
  go_enter Tryz.func25, Tryz.ntmps25
  go_upto_region 1 with fail
  obtain ⟨W, hW⟩ : ∃ W, W = ((w.alloc (.cells #[.int .i64 s.sq, .int .i64 s.fe, .slice A s.ents.length c, .slice A2 s.tmbs.length c2, .int .i64 s.lo.a, .int .i64 s.lo.b, .int .i64 s.lo.c, .int .i64 s.hi.a, .int .i64 s.hi.b, .int .i64 s.hi.c] 34)).alloc (.cells #[.int .i64 1, .int .i64 tk, .int .i64 0, .int .i64 bg, .int .i64 fi, .string ky] 38)).alloc (.cells #[.int .i64 0, .int .i64 0, .slice none 0 0, .slice none 0 0, .int .i64 0, .int .i64 0, .int .i64 0, .int .i64 0, .int .i64 0, .int .i64 0] 34) := ⟨_, rfl⟩
  have p0 : ApW w.heap.size W [.int .i64 s.sq, .int .i64 s.fe, .slice A s.ents.length c, .slice A2 s.tmbs.length c2, .int .i64 s.lo.a, .int .i64 s.lo.b, .int .i64 s.lo.c, .int .i64 s.hi.a, .int .i64 s.hi.b, .int .i64 s.hi.c] [.int .i64 1, .int .i64 tk, .int .i64 0, .int .i64 bg, .int .i64 fi, .string ky] [.int .i64 0, .int .i64 0, .slice none 0 0, .slice none 0 0, .int .i64 0, .int .i64 0, .int .i64 0, .int .i64 0, .int .i64 0, .int .i64 0] := by rw [hW]; exact ApW.new w (.int .i64 s.sq) (.int .i64 s.fe) (.slice A s.ents.length c) (.slice A2 s.tmbs.length c2) (.int .i64 s.lo.a) (.int .i64 s.lo.b) (.int .i64 s.lo.c) (.int .i64 s.hi.a) (.int .i64 s.hi.b) (.int .i64 s.hi.c) (.int .i64 1) (.int .i64 tk) (.int .i64 0) (.int .i64 bg) (.int .i64 fi) (.string ky) _ _ _
  have b0 : Below w.heap.size w W := by rw [hW]; exact bal (bal (bal (Below.refl _ _) _) _) _
  rw [← hW]
  clear hW
  generalize (Value.agg #[.int .i64 s.sq, .int .i64 s.fe, .slice A s.ents.length c, .slice A2 s.tmbs.length c2, .int .i64 s.lo.a, .int .i64 s.lo.b, .int .i64 s.lo.c, .int .i64 s.hi.a, .int .i64 s.hi.b, .int .i64 s.hi.c]) = va
  generalize (Value.agg #[.int .i64 1, .int .i64 tk, .int .i64 0, .int .i64 bg, .int .i64 fi, .string ky]) = vr
  have P0 := Lib.hid p0; clear p0
  generalize hx0 : w.heap.size = x0 at *
  have Hx0 := Lib.hid hx0; clear hx0
  obtain ⟨c0, c1, c2', c3, c4, c5, c6, c7, c8, c9⟩ := P0.out.cs.ten
  obtain ⟨q0, q1, q2, q3, q4, q5⟩ := (show RecAt W (x0 + 1) ⟨1, tk, 0, bg, fi, ky⟩ from P0.out.cr).cells
  go_wp2_with fail
  refine (HT.out W b0).mono ?_
  rintro e w1 ⟨b, hb, rfl, hb1⟩
  have HBT := Lib.hid hb; clear hb
  have b1 : Below x0 w w1 := b0.trans (hb1.mono (by have := P0.out.sz; omega))
  have P1 := Lib.hid (P0.out.below hb1 P0.out.sz)
  clear P0 b0 hb1 HT c0 c1 c2' c3 c4 c5 c6 c7 c8 c9 q0 q1 q2 q3 q4 q5
  obtain ⟨c0, c1, c2', c3, c4, c5, c6, c7, c8, c9⟩ := P1.out.cs.ten
  have hw1 : x0 ≤ w1.heap.size := by have := P1.out.sz; omega
  go_wp2_with fail
  refine (l06OwnO_any A c A2 c2 s x0 w1 ((H.out.below b1 hB).more hB) hw1 hl hl2).mono ?_
  rintro e w2 ⟨A1, k1, A3, k3, rfl, o1, o3, hne, hb2, hyz⟩
  have b2 : Below x0 w w2 := b1.trans (hb2.mono hw1)
  have P2 := Lib.hid (P1.out.below hb2 P1.out.sz)
  have O1 := Lib.hid o1; have O3 := Lib.hid o3; have HNE := Lib.hid hne
  have hy2 : x0 + 3 ≤ w1.heap.size + 2 := by have := P1.out.sz; omega
  clear P1 b1 hb2 o1 o3 hne c0 c1 c2' c3 c4 c5 c6 c7 c8 c9
  generalize w1.heap.size + 2 = y at *
  obtain ⟨c0, c1, c2', c3, c4, c5, c6, c7, c8, c9⟩ := P2.out.cs.ten
  have fs := P2.out.fs
  go_upto_region 4 with fail
  obtain ⟨W3, hW3⟩ : ∃ W3, W3 = (((((((((((w2.setCell ⟨x0, 0, none⟩ (.int .i64 s.sq)).setCell ⟨x0, 1, none⟩ (.int .i64 s.fe)).setCell ⟨x0, 2, none⟩ (.slice A1 s.ents.length k1)).setCell ⟨x0, 3, none⟩ (.slice A3 s.tmbs.length k3)).setCell ⟨x0, 4, none⟩ (.int .i64 s.lo.a)).setCell ⟨x0, 5, none⟩ (.int .i64 s.lo.b)).setCell ⟨x0, 6, none⟩ (.int .i64 s.lo.c)).setCell ⟨x0, 7, none⟩ (.int .i64 s.hi.a)).setCell ⟨x0, 8, none⟩ (.int .i64 s.hi.b)).setCell ⟨x0, 9, none⟩ (.int .i64 s.hi.c)).setCell ⟨x0, 0, none⟩ (.int .i64 (s.sq + 1))) := ⟨_, rfl⟩
  have p3 : ApW x0 W3 [.int .i64 (s.sq + 1), .int .i64 s.fe, .slice A1 s.ents.length k1, .slice A3 s.tmbs.length k3, .int .i64 s.lo.a, .int .i64 s.lo.b, .int .i64 s.lo.c, .int .i64 s.hi.a, .int .i64 s.hi.b, .int .i64 s.hi.c] [.int .i64 1, .int .i64 tk, .int .i64 0, .int .i64 bg, .int .i64 fi, .string ky] [.int .i64 0, .int .i64 0, .slice none 0 0, .slice none 0 0, .int .i64 0, .int .i64 0, .int .i64 0, .int .i64 0, .int .i64 0, .int .i64 0] := by rw [hW3]; exact (((((((((((P2.out.set (k := 0) (by simp) (.int .i64 s.sq)).set (k := 1) (by simp) (.int .i64 s.fe)).set (k := 2) (by simp) (.slice A1 s.ents.length k1)).set (k := 3) (by simp) (.slice A3 s.tmbs.length k3)).set (k := 4) (by simp) (.int .i64 s.lo.a)).set (k := 5) (by simp) (.int .i64 s.lo.b)).set (k := 6) (by simp) (.int .i64 s.lo.c)).set (k := 7) (by simp) (.int .i64 s.hi.a)).set (k := 8) (by simp) (.int .i64 s.hi.b)).set (k := 9) (by simp) (.int .i64 s.hi.c)).set (k := 0) (by simp) (.int .i64 (s.sq + 1)))
  have b3 : Below x0 w W3 := by rw [hW3]; repeat' first | with_reducible exact b2 | (with_reducible refine Below.setCell ?_ (by exact Nat.le_refl _) _)
  have q1 : OwnSl GEnt.vals 4 103 y W3 (.slice A1 s.ents.length k1) s.ents := by
    rw [hW3]; repeat' first | with_reducible exact O1.out | (with_reducible refine OwnSl.farO ?_ (by show x0 < y; omega) _)
  have q3 : OwnSl GTmb.vals 2 108 y W3 (.slice A3 s.tmbs.length k3) s.tmbs := by
    rw [hW3]; repeat' first | with_reducible exact O3.out | (with_reducible refine OwnSl.farO ?_ (by show x0 < y; omega) _)
  have hyW : y ≤ W3.heap.size := by rw [hW3]; simp only [size_setCell]; exact hyz
  rw [← hW3]
  clear hyz hW3 c0 c1 c2' c3 c4 c5 c6 c7 c8 c9 fs P2 O1 O3 b2
  have P3 := Lib.hid p3; clear p3
  have Q1 := Lib.hid q1; clear q1
  have Q3 := Lib.hid q3; clear q3
  generalize (Value.agg #[.int .i64 s.sq, .int .i64 s.fe, .slice A s.ents.length c, .slice A2 s.tmbs.length c2, .int .i64 s.lo.a, .int .i64 s.lo.b, .int .i64 s.lo.c, .int .i64 s.hi.a, .int .i64 s.hi.b, .int .i64 s.hi.c]) = va2
  generalize (Value.agg #[.int .i64 1, .int .i64 tk, .int .i64 0, .int .i64 bg, .int .i64 fi, .string ky]) = vr2
  generalize (Value.agg #[.int .i64 s.sq, .int .i64 s.fe, .slice A1 s.ents.length k1, .slice A3 s.tmbs.length k3, .int .i64 s.lo.a, .int .i64 s.lo.b, .int .i64 s.lo.c, .int .i64 s.hi.a, .int .i64 s.hi.b, .int .i64 s.hi.c]) = va4
  cases b
  · have HN : Hid (¬ TakeP s ⟨1, tk, 0, bg, fi, ky⟩) := Lib.hid (fun h => by have := HBT.out.2 h; cases this)
    clear HBT
    obtain ⟨c0, c1, c2', c3, c4, c5, c6, c7, c8, c9⟩ := P3.out.cs.ten
    obtain ⟨z0, z1, z2, z3, z4, z5, z6, z7, z8, z9⟩ := P3.out.cz.ten
    have y0 := P3.out.fz 0
    have y1 := P3.out.fz 1
    have y2 := P3.out.fz 2
    have y3 := P3.out.fz 3
    have y4 := P3.out.fz 4
    have y5 := P3.out.fz 5
    have y6 := P3.out.fz 6
    have y7 := P3.out.fz 7
    have y8 := P3.out.fz 8
    have y9 := P3.out.fz 9
    go_wp2
    refine bodyPost_ret (v := .tuple #[.agg #[.int .i64 (s.sq + 1), .int .i64 s.fe, .slice A1 s.ents.length k1, .slice A3 s.tmbs.length k3, .int .i64 s.lo.a, .int .i64 s.lo.b, .int .i64 s.lo.c, .int .i64 s.hi.a, .int .i64 s.hi.b, .int .i64 s.hi.c], .bool false]) (by simp [results, Tryz.results25, go_sem, *]) rfl ⟨{ s with sq := s.sq + 1 }, false, _, _, _, _, .inr ⟨HN.out, rfl, rfl⟩, rfl, ?_⟩
    rw [Hx0.out]
    exact apl_end Q1.out Q3.out HNE.out hy2 b3
  have HY : Hid (TakeP s ⟨1, tk, 0, bg, fi, ky⟩) := Lib.hid (HBT.out.1 rfl)
  clear HBT
  have HO4 : Hid (OwnSl GEnt.vals 4 103 y (W3.alloc (.cells #[.int .i64 0, .int .i64 bg, .int .i64 fi, .string ky] 103)) (.slice A1 s.ents.length k1) s.ents) := Lib.hid (World.ownsRow.alloc Q1.out _)
  have HN4 := Lib.hid (new_entv W3 ⟨0, bg, fi, ky⟩ 103)
  obtain ⟨c0, c1, c2', c3, c4, c5, c6, c7, c8, c9⟩ := P3.out.cs.ten
  obtain ⟨q0, q1, q2, q3, q4, q5⟩ := (show RecAt W3 (x0 + 1) ⟨1, tk, 0, bg, fi, ky⟩ from P3.out.cr).cells
  go_upto_region 17 with (at_builtin; refine wpList_append_sl GEnt.vals 4 40 (fun _ => rfl) entv_one 31 103 _ infoEnt rfl (by omega) Tryz.underlying31 rfl _ _ rfl y s.ents [⟨0, bg, fi, ky⟩] (.slice A1 s.ents.length k1) rfl HO4.out (some ⟨W3.heap.size, 0, none⟩) 1 (W3.heap.size + 1) rfl HN4.out (by simp [maxLen]; omega) (by simp; omega) (by simp; omega) ?_; intro v' w5 hO5 hg5 hv5; obtain ⟨zs, hzs⟩ : ∃ zs, zs = s.ents ++ [(⟨0, bg, fi, ky⟩ : GEnt)] := ⟨_, rfl⟩; rw [← hzs] at hO5; obtain ⟨A5, k5, rfl⟩ := hO5.form; have HO5 := Lib.hid hO5; have HZS := Lib.hid hzs; have HV5 := Lib.hid hv5; have HG5 := Lib.hid hg5; clear hO5 hzs hv5; have hb5 : Below y (W3.alloc (.cells #[.int .i64 0, .int .i64 bg, .int .i64 fi, .string ky] 103)) w5 := below_of_grown hg5 (by simp; omega) (fun g e => (World.ownsRow.lt HO4.out g e).1); clear hg5; have P5 := Lib.hid ((P3.out.below (Below.alloc (Below.refl W3.heap.size W3) (Nat.le_refl _) _) P3.out.sz).below hb5 hy2); clear hb5; obtain ⟨c0, c1, c2', c3, c4, c5, c6, c7, c8, c9⟩ := P5.out.cs.ten; obtain ⟨q0, q1, q2, q3, q4, q5⟩ := (show RecAt w5 (x0 + 1) ⟨1, tk, 0, bg, fi, ky⟩ from P5.out.cr).cells; have fs := P5.out.fs)
  go_upto_region 25 with fail
  have P6 := Lib.hid (show ApW x0 ((w5.setCell ⟨x0, 2, none⟩ (.slice A5 zs.length k5)).setCell ⟨x0, 7, none⟩ (.int .i64 fi)) [.int .i64 (s.sq + 1), .int .i64 s.fe, .slice A5 zs.length k5, .slice A3 s.tmbs.length k3, .int .i64 s.lo.a, .int .i64 s.lo.b, .int .i64 s.lo.c, .int .i64 fi, .int .i64 s.hi.b, .int .i64 s.hi.c] [.int .i64 1, .int .i64 tk, .int .i64 0, .int .i64 bg, .int .i64 fi, .string ky] [.int .i64 0, .int .i64 0, .slice none 0 0, .slice none 0 0, .int .i64 0, .int .i64 0, .int .i64 0, .int .i64 0, .int .i64 0, .int .i64 0] from (P5.out.set (k := 2) (by simp) (.slice A5 zs.length k5)).set (k := 7) (by simp) (.int .i64 fi))
  have OE6 : Hid (OwnSl GEnt.vals 4 103 y ((w5.setCell ⟨x0, 2, none⟩ (.slice A5 zs.length k5)).setCell ⟨x0, 7, none⟩ (.int .i64 fi)) (.slice A5 zs.length k5) zs) := Lib.hid ((HO5.out.farO (p := ⟨x0, 2, none⟩) (by show x0 < y; omega) _).farO (p := ⟨x0, 7, none⟩) (by show x0 < y; omega) _)
  have OT5 : OwnSl GTmb.vals 2 108 y w5 (.slice A3 s.tmbs.length k3) s.tmbs := OwnSl.kept (World.ownsRow.alloc Q3.out _) HG5.out (by
    rw [own_blk, own_blk]
    cases hq : blk A3 with
    | none => exact .inl rfl
    | some b => exact .inr (fun e => HNE.out b e.symm hq))
  have OT6 : Hid (OwnSl GTmb.vals 2 108 y ((w5.setCell ⟨x0, 2, none⟩ (.slice A5 zs.length k5)).setCell ⟨x0, 7, none⟩ (.int .i64 fi)) (.slice A3 s.tmbs.length k3) s.tmbs) := Lib.hid ((OwnSl.farO OT5 (p := ⟨x0, 2, none⟩) (by show x0 < y; omega) _).farO (p := ⟨x0, 7, none⟩) (by show x0 < y; omega) _)
  have HNE6 : Hid (∀ b, blk A5 = some b → blk A3 ≠ some b) := Lib.hid (fun b e e' => by
    have h5 := HV5.out
    rw [own_blk, own_blk] at h5
    rcases h5 with h | h
    · exact HNE.out b (h.symm.trans e) e'
    · have h1 := h.symm.trans e
      injection h1 with h1
      have h2 := (World.ownsRow.lt Q3.out b ((own_blk _ _ _).trans e')).2
      simp at h1
      omega)
  have b6 : Below x0 w ((w5.setCell ⟨x0, 2, none⟩ (.slice A5 zs.length k5)).setCell ⟨x0, 7, none⟩ (.int .i64 fi)) := by
    have h1 : Below y (W3.alloc (.cells #[.int .i64 0, .int .i64 bg, .int .i64 fi, .string ky] 103)) w5 := below_of_grown HG5.out (by simp; omega) (fun g e => (World.ownsRow.lt HO4.out g e).1)
    have h2 : Below x0 w w5 := (b3.alloc (by omega) _).trans (h1.mono (by omega))
    exact (h2.setCell (by exact Nat.le_refl _) _).setCell (by exact Nat.le_refl _) _
  clear c0 c1 c2' c3 c4 c5 c6 c7 c8 c9 q0 q1 q2 q3 q4 q5 fs Q1 Q3 P3 P5 b3 HO4 HN4 HO5 HV5 HG5 OT5
  generalize ((w5.setCell ⟨x0, 2, none⟩ (.slice A5 zs.length k5)).setCell ⟨x0, 7, none⟩ (.int .i64 fi)) = W6 at *
  have HAP : Hid (({ s with sq := s.sq + 1, ents := zs, hi := ⟨fi, s.hi.b, s.hi.c⟩ } : GSt) = appS s ⟨1, tk, 0, bg, fi, ky⟩) := Lib.hid (by rw [HZS.out]; simp [appS, GTri.set, GRec.ent])
  obtain ⟨c0, c1, c2', c3, c4, c5, c6, c7, c8, c9⟩ := P6.out.cs.ten
  obtain ⟨z0, z1, z2, z3, z4, z5, z6, z7, z8, z9⟩ := P6.out.cz.ten
  have y0 := P6.out.fz 0
  have y1 := P6.out.fz 1
  have y2 := P6.out.fz 2
  have y3 := P6.out.fz 3
  have y4 := P6.out.fz 4
  have y5 := P6.out.fz 5
  have y6 := P6.out.fz 6
  have y7 := P6.out.fz 7
  have y8 := P6.out.fz 8
  have y9 := P6.out.fz 9
  go_wp2
  refine bodyPost_ret (v := .tuple #[.agg #[.int .i64 (s.sq + 1), .int .i64 s.fe, .slice A5 zs.length k5, .slice A3 s.tmbs.length k3, .int .i64 s.lo.a, .int .i64 s.lo.b, .int .i64 s.lo.c, .int .i64 fi, .int .i64 s.hi.b, .int .i64 s.hi.c], .bool true]) (by simp [results, Tryz.results25, go_sem, *]) rfl ⟨{ s with sq := s.sq + 1, ents := zs, hi := ⟨fi, s.hi.b, s.hi.c⟩ }, true, _, _, _, _, .inl ⟨HY.out, HAP.out, rfl⟩, rfl, ?_⟩
  rw [Hx0.out]
  exact apl_end OE6.out OT6.out HNE6.out hy2 b6

set_option maxRecDepth 100000 in
set_option maxHeartbeats 4000000 in
theorem apply3_1 (A : Option Addr) (c : Nat) (A2 : Option Addr) (c2 : Nat) (s : GSt) (tk bg fi : Int) (ky : ByteArray) (B : Nat) (w : World) (h : StAt w B A A2 s) (hB : B ≤ w.heap.size) (hl : s.ents.length ≤ 1048576) (hl2 : s.tmbs.length ≤ 1048576) (hsq : 0 ≤ s.sq ∧ s.sq ≤ 999999)
    (hT : ∀ W, Below w.heap.size w W → Calls Tryz.prog 58 #[.agg #[.int .i64 s.sq, .int .i64 s.fe, .slice A s.ents.length c, .slice A2 s.tmbs.length c2, .int .i64 s.lo.a, .int .i64 s.lo.b, .int .i64 s.lo.c, .int .i64 s.hi.a, .int .i64 s.hi.b, .int .i64 s.hi.c], .agg #[.int .i64 3, .int .i64 tk, .int .i64 1, .int .i64 bg, .int .i64 fi, .string ky]] W (IsBB (TakeP s ⟨3, tk, 1, bg, fi, ky⟩) W)) :
    Calls Tryz.prog 25 #[.agg #[.int .i64 s.sq, .int .i64 s.fe, .slice A s.ents.length c, .slice A2 s.tmbs.length c2, .int .i64 s.lo.a, .int .i64 s.lo.b, .int .i64 s.lo.c, .int .i64 s.hi.a, .int .i64 s.hi.b, .int .i64 s.hi.c], .agg #[.int .i64 3, .int .i64 tk, .int .i64 1, .int .i64 bg, .int .i64 fi, .string ky]] w (AplEnd s ⟨3, tk, 1, bg, fi, ky⟩ w) := by
  have H := Lib.hid h; clear h
  have HT := Lib.hid hT; clear hT
  go_enter Tryz.func25, Tryz.ntmps25
  go_upto_region 1 with fail
  obtain ⟨W, hW⟩ : ∃ W, W = ((w.alloc (.cells #[.int .i64 s.sq, .int .i64 s.fe, .slice A s.ents.length c, .slice A2 s.tmbs.length c2, .int .i64 s.lo.a, .int .i64 s.lo.b, .int .i64 s.lo.c, .int .i64 s.hi.a, .int .i64 s.hi.b, .int .i64 s.hi.c] 34)).alloc (.cells #[.int .i64 3, .int .i64 tk, .int .i64 1, .int .i64 bg, .int .i64 fi, .string ky] 38)).alloc (.cells #[.int .i64 0, .int .i64 0, .slice none 0 0, .slice none 0 0, .int .i64 0, .int .i64 0, .int .i64 0, .int .i64 0, .int .i64 0, .int .i64 0] 34) := ⟨_, rfl⟩
  have p0 : ApW w.heap.size W [.int .i64 s.sq, .int .i64 s.fe, .slice A s.ents.length c, .slice A2 s.tmbs.length c2, .int .i64 s.lo.a, .int .i64 s.lo.b, .int .i64 s.lo.c, .int .i64 s.hi.a, .int .i64 s.hi.b, .int .i64 s.hi.c] [.int .i64 3, .int .i64 tk, .int .i64 1, .int .i64 bg, .int .i64 fi, .string ky] [.int .i64 0, .int .i64 0, .slice none 0 0, .slice none 0 0, .int .i64 0, .int .i64 0, .int .i64 0, .int .i64 0, .int .i64 0, .int .i64 0] := by rw [hW]; exact ApW.new w (.int .i64 s.sq) (.int .i64 s.fe) (.slice A s.ents.length c) (.slice A2 s.tmbs.length c2) (.int .i64 s.lo.a) (.int .i64 s.lo.b) (.int .i64 s.lo.c) (.int .i64 s.hi.a) (.int .i64 s.hi.b) (.int .i64 s.hi.c) (.int .i64 3) (.int .i64 tk) (.int .i64 1) (.int .i64 bg) (.int .i64 fi) (.string ky) _ _ _
  have b0 : Below w.heap.size w W := by rw [hW]; exact bal (bal (bal (Below.refl _ _) _) _) _
  rw [← hW]
  clear hW
  generalize (Value.agg #[.int .i64 s.sq, .int .i64 s.fe, .slice A s.ents.length c, .slice A2 s.tmbs.length c2, .int .i64 s.lo.a, .int .i64 s.lo.b, .int .i64 s.lo.c, .int .i64 s.hi.a, .int .i64 s.hi.b, .int .i64 s.hi.c]) = va
  generalize (Value.agg #[.int .i64 3, .int .i64 tk, .int .i64 1, .int .i64 bg, .int .i64 fi, .string ky]) = vr
  have P0 := Lib.hid p0; clear p0
  generalize hx0 : w.heap.size = x0 at *
  have Hx0 := Lib.hid hx0; clear hx0
  obtain ⟨c0, c1, c2', c3, c4, c5, c6, c7, c8, c9⟩ := P0.out.cs.ten
  obtain ⟨q0, q1, q2, q3, q4, q5⟩ := (show RecAt W (x0 + 1) ⟨3, tk, 1, bg, fi, ky⟩ from P0.out.cr).cells
  go_wp2_with fail
  refine (HT.out W b0).mono ?_
  rintro e w1 ⟨b, hb, rfl, hb1⟩
  have HBT := Lib.hid hb; clear hb
  have b1 : Below x0 w w1 := b0.trans (hb1.mono (by have := P0.out.sz; omega))
  have P1 := Lib.hid (P0.out.below hb1 P0.out.sz)
  clear P0 b0 hb1 HT c0 c1 c2' c3 c4 c5 c6 c7 c8 c9 q0 q1 q2 q3 q4 q5
  obtain ⟨c0, c1, c2', c3, c4, c5, c6, c7, c8, c9⟩ := P1.out.cs.ten
  have hw1 : x0 ≤ w1.heap.size := by have := P1.out.sz; omega
  go_wp2_with fail
  refine (l06OwnO_any A c A2 c2 s x0 w1 ((H.out.below b1 hB).more hB) hw1 hl hl2).mono ?_
  rintro e w2 ⟨A1, k1, A3, k3, rfl, o1, o3, hne, hb2, hyz⟩
  have b2 : Below x0 w w2 := b1.trans (hb2.mono hw1)
  have P2 := Lib.hid (P1.out.below hb2 P1.out.sz)
  have O1 := Lib.hid o1; have O3 := Lib.hid o3; have HNE := Lib.hid hne
  have hy2 : x0 + 3 ≤ w1.heap.size + 2 := by have := P1.out.sz; omega
  clear P1 b1 hb2 o1 o3 hne c0 c1 c2' c3 c4 c5 c6 c7 c8 c9
  generalize w1.heap.size + 2 = y at *
  obtain ⟨c0, c1, c2', c3, c4, c5, c6, c7, c8, c9⟩ := P2.out.cs.ten
  have fs := P2.out.fs
  go_upto_region 4 with fail
  obtain ⟨W3, hW3⟩ : ∃ W3, W3 = (((((((((((w2.setCell ⟨x0, 0, none⟩ (.int .i64 s.sq)).setCell ⟨x0, 1, none⟩ (.int .i64 s.fe)).setCell ⟨x0, 2, none⟩ (.slice A1 s.ents.length k1)).setCell ⟨x0, 3, none⟩ (.slice A3 s.tmbs.length k3)).setCell ⟨x0, 4, none⟩ (.int .i64 s.lo.a)).setCell ⟨x0, 5, none⟩ (.int .i64 s.lo.b)).setCell ⟨x0, 6, none⟩ (.int .i64 s.lo.c)).setCell ⟨x0, 7, none⟩ (.int .i64 s.hi.a)).setCell ⟨x0, 8, none⟩ (.int .i64 s.hi.b)).setCell ⟨x0, 9, none⟩ (.int .i64 s.hi.c)).setCell ⟨x0, 0, none⟩ (.int .i64 (s.sq + 1))) := ⟨_, rfl⟩
  have p3 : ApW x0 W3 [.int .i64 (s.sq + 1), .int .i64 s.fe, .slice A1 s.ents.length k1, .slice A3 s.tmbs.length k3, .int .i64 s.lo.a, .int .i64 s.lo.b, .int .i64 s.lo.c, .int .i64 s.hi.a, .int .i64 s.hi.b, .int .i64 s.hi.c] [.int .i64 3, .int .i64 tk, .int .i64 1, .int .i64 bg, .int .i64 fi, .string ky] [.int .i64 0, .int .i64 0, .slice none 0 0, .slice none 0 0, .int .i64 0, .int .i64 0, .int .i64 0, .int .i64 0, .int .i64 0, .int .i64 0] := by rw [hW3]; exact (((((((((((P2.out.set (k := 0) (by simp) (.int .i64 s.sq)).set (k := 1) (by simp) (.int .i64 s.fe)).set (k := 2) (by simp) (.slice A1 s.ents.length k1)).set (k := 3) (by simp) (.slice A3 s.tmbs.length k3)).set (k := 4) (by simp) (.int .i64 s.lo.a)).set (k := 5) (by simp) (.int .i64 s.lo.b)).set (k := 6) (by simp) (.int .i64 s.lo.c)).set (k := 7) (by simp) (.int .i64 s.hi.a)).set (k := 8) (by simp) (.int .i64 s.hi.b)).set (k := 9) (by simp) (.int .i64 s.hi.c)).set (k := 0) (by simp) (.int .i64 (s.sq + 1)))
  have b3 : Below x0 w W3 := by rw [hW3]; repeat' first | with_reducible exact b2 | (with_reducible refine Below.setCell ?_ (by exact Nat.le_refl _) _)
  have q1 : OwnSl GEnt.vals 4 103 y W3 (.slice A1 s.ents.length k1) s.ents := by
    rw [hW3]; repeat' first | with_reducible exact O1.out | (with_reducible refine OwnSl.farO ?_ (by show x0 < y; omega) _)
  have q3 : OwnSl GTmb.vals 2 108 y W3 (.slice A3 s.tmbs.length k3) s.tmbs := by
    rw [hW3]; repeat' first | with_reducible exact O3.out | (with_reducible refine OwnSl.farO ?_ (by show x0 < y; omega) _)
  have hyW : y ≤ W3.heap.size := by rw [hW3]; simp only [size_setCell]; exact hyz
  rw [← hW3]
  clear hyz hW3 c0 c1 c2' c3 c4 c5 c6 c7 c8 c9 fs P2 O1 O3 b2
  have P3 := Lib.hid p3; clear p3
  have Q1 := Lib.hid q1; clear q1
  have Q3 := Lib.hid q3; clear q3
  generalize (Value.agg #[.int .i64 s.sq, .int .i64 s.fe, .slice A s.ents.length c, .slice A2 s.tmbs.length c2, .int .i64 s.lo.a, .int .i64 s.lo.b, .int .i64 s.lo.c, .int .i64 s.hi.a, .int .i64 s.hi.b, .int .i64 s.hi.c]) = va2
  generalize (Value.agg #[.int .i64 3, .int .i64 tk, .int .i64 1, .int .i64 bg, .int .i64 fi, .string ky]) = vr2
  generalize (Value.agg #[.int .i64 s.sq, .int .i64 s.fe, .slice A1 s.ents.length k1, .slice A3 s.tmbs.length k3, .int .i64 s.lo.a, .int .i64 s.lo.b, .int .i64 s.lo.c, .int .i64 s.hi.a, .int .i64 s.hi.b, .int .i64 s.hi.c]) = va4
  cases b
  · have HN : Hid (¬ TakeP s ⟨3, tk, 1, bg, fi, ky⟩) := Lib.hid (fun h => by have := HBT.out.2 h; cases this)
    clear HBT
    obtain ⟨c0, c1, c2', c3, c4, c5, c6, c7, c8, c9⟩ := P3.out.cs.ten
    obtain ⟨z0, z1, z2, z3, z4, z5, z6, z7, z8, z9⟩ := P3.out.cz.ten
    have y0 := P3.out.fz 0
    have y1 := P3.out.fz 1
    have y2 := P3.out.fz 2
    have y3 := P3.out.fz 3
    have y4 := P3.out.fz 4
    have y5 := P3.out.fz 5
    have y6 := P3.out.fz 6
    have y7 := P3.out.fz 7
    have y8 := P3.out.fz 8
    have y9 := P3.out.fz 9
    go_wp2
    refine bodyPost_ret (v := .tuple #[.agg #[.int .i64 (s.sq + 1), .int .i64 s.fe, .slice A1 s.ents.length k1, .slice A3 s.tmbs.length k3, .int .i64 s.lo.a, .int .i64 s.lo.b, .int .i64 s.lo.c, .int .i64 s.hi.a, .int .i64 s.hi.b, .int .i64 s.hi.c], .bool false]) (by simp [results, Tryz.results25, go_sem, *]) rfl ⟨{ s with sq := s.sq + 1 }, false, _, _, _, _, .inr ⟨HN.out, rfl, rfl⟩, rfl, ?_⟩
    rw [Hx0.out]
    exact apl_end Q1.out Q3.out HNE.out hy2 b3
  have HY : Hid (TakeP s ⟨3, tk, 1, bg, fi, ky⟩) := Lib.hid (HBT.out.1 rfl)
  clear HBT
  have HO4 : Hid (OwnSl GEnt.vals 4 103 y (W3.alloc (.cells #[.int .i64 1, .int .i64 bg, .int .i64 fi, .string ky] 103)) (.slice A1 s.ents.length k1) s.ents) := Lib.hid (World.ownsRow.alloc Q1.out _)
  have HN4 := Lib.hid (new_entv W3 ⟨1, bg, fi, ky⟩ 103)
  obtain ⟨c0, c1, c2', c3, c4, c5, c6, c7, c8, c9⟩ := P3.out.cs.ten
  obtain ⟨q0, q1, q2, q3, q4, q5⟩ := (show RecAt W3 (x0 + 1) ⟨3, tk, 1, bg, fi, ky⟩ from P3.out.cr).cells
  go_upto_region 17 with (at_builtin; refine wpList_append_sl GEnt.vals 4 40 (fun _ => rfl) entv_one 31 103 _ infoEnt rfl (by omega) Tryz.underlying31 rfl _ _ rfl y s.ents [⟨1, bg, fi, ky⟩] (.slice A1 s.ents.length k1) rfl HO4.out (some ⟨W3.heap.size, 0, none⟩) 1 (W3.heap.size + 1) rfl HN4.out (by simp [maxLen]; omega) (by simp; omega) (by simp; omega) ?_; intro v' w5 hO5 hg5 hv5; obtain ⟨zs, hzs⟩ : ∃ zs, zs = s.ents ++ [(⟨1, bg, fi, ky⟩ : GEnt)] := ⟨_, rfl⟩; rw [← hzs] at hO5; obtain ⟨A5, k5, rfl⟩ := hO5.form; have HO5 := Lib.hid hO5; have HZS := Lib.hid hzs; have HV5 := Lib.hid hv5; have HG5 := Lib.hid hg5; clear hO5 hzs hv5; have hb5 : Below y (W3.alloc (.cells #[.int .i64 1, .int .i64 bg, .int .i64 fi, .string ky] 103)) w5 := below_of_grown hg5 (by simp; omega) (fun g e => (World.ownsRow.lt HO4.out g e).1); clear hg5; have P5 := Lib.hid ((P3.out.below (Below.alloc (Below.refl W3.heap.size W3) (Nat.le_refl _) _) P3.out.sz).below hb5 hy2); clear hb5; obtain ⟨c0, c1, c2', c3, c4, c5, c6, c7, c8, c9⟩ := P5.out.cs.ten; obtain ⟨q0, q1, q2, q3, q4, q5⟩ := (show RecAt w5 (x0 + 1) ⟨3, tk, 1, bg, fi, ky⟩ from P5.out.cr).cells; have fs := P5.out.fs)
  go_upto_region 25 with fail
  have P6 := Lib.hid (show ApW x0 ((w5.setCell ⟨x0, 2, none⟩ (.slice A5 zs.length k5)).setCell ⟨x0, 8, none⟩ (.int .i64 fi)) [.int .i64 (s.sq + 1), .int .i64 s.fe, .slice A5 zs.length k5, .slice A3 s.tmbs.length k3, .int .i64 s.lo.a, .int .i64 s.lo.b, .int .i64 s.lo.c, .int .i64 s.hi.a, .int .i64 fi, .int .i64 s.hi.c] [.int .i64 3, .int .i64 tk, .int .i64 1, .int .i64 bg, .int .i64 fi, .string ky] [.int .i64 0, .int .i64 0, .slice none 0 0, .slice none 0 0, .int .i64 0, .int .i64 0, .int .i64 0, .int .i64 0, .int .i64 0, .int .i64 0] from (P5.out.set (k := 2) (by simp) (.slice A5 zs.length k5)).set (k := 8) (by simp) (.int .i64 fi))
  have OE6 : Hid (OwnSl GEnt.vals 4 103 y ((w5.setCell ⟨x0, 2, none⟩ (.slice A5 zs.length k5)).setCell ⟨x0, 8, none⟩ (.int .i64 fi)) (.slice A5 zs.length k5) zs) := Lib.hid ((HO5.out.farO (p := ⟨x0, 2, none⟩) (by show x0 < y; omega) _).farO (p := ⟨x0, 8, none⟩) (by show x0 < y; omega) _)
  have OT5 : OwnSl GTmb.vals 2 108 y w5 (.slice A3 s.tmbs.length k3) s.tmbs := OwnSl.kept (World.ownsRow.alloc Q3.out _) HG5.out (by
    rw [own_blk, own_blk]
    cases hq : blk A3 with
    | none => exact .inl rfl
    | some b => exact .inr (fun e => HNE.out b e.symm hq))
  have OT6 : Hid (OwnSl GTmb.vals 2 108 y ((w5.setCell ⟨x0, 2, none⟩ (.slice A5 zs.length k5)).setCell ⟨x0, 8, none⟩ (.int .i64 fi)) (.slice A3 s.tmbs.length k3) s.tmbs) := Lib.hid ((OwnSl.farO OT5 (p := ⟨x0, 2, none⟩) (by show x0 < y; omega) _).farO (p := ⟨x0, 8, none⟩) (by show x0 < y; omega) _)
  have HNE6 : Hid (∀ b, blk A5 = some b → blk A3 ≠ some b) := Lib.hid (fun b e e' => by
    have h5 := HV5.out
    rw [own_blk, own_blk] at h5
    rcases h5 with h | h
    · exact HNE.out b (h.symm.trans e) e'
    · have h1 := h.symm.trans e
      injection h1 with h1
      have h2 := (World.ownsRow.lt Q3.out b ((own_blk _ _ _).trans e')).2
      simp at h1
      omega)
  have b6 : Below x0 w ((w5.setCell ⟨x0, 2, none⟩ (.slice A5 zs.length k5)).setCell ⟨x0, 8, none⟩ (.int .i64 fi)) := by
    have h1 : Below y (W3.alloc (.cells #[.int .i64 1, .int .i64 bg, .int .i64 fi, .string ky] 103)) w5 := below_of_grown HG5.out (by simp; omega) (fun g e => (World.ownsRow.lt HO4.out g e).1)
    have h2 : Below x0 w w5 := (b3.alloc (by omega) _).trans (h1.mono (by omega))
    exact (h2.setCell (by exact Nat.le_refl _) _).setCell (by exact Nat.le_refl _) _
  clear c0 c1 c2' c3 c4 c5 c6 c7 c8 c9 q0 q1 q2 q3 q4 q5 fs Q1 Q3 P3 P5 b3 HO4 HN4 HO5 HV5 HG5 OT5
  generalize ((w5.setCell ⟨x0, 2, none⟩ (.slice A5 zs.length k5)).setCell ⟨x0, 8, none⟩ (.int .i64 fi)) = W6 at *
  have HAP : Hid (({ s with sq := s.sq + 1, ents := zs, hi := ⟨s.hi.a, fi, s.hi.c⟩ } : GSt) = appS s ⟨3, tk, 1, bg, fi, ky⟩) := Lib.hid (by rw [HZS.out]; simp [appS, GTri.set, GRec.ent])
  obtain ⟨c0, c1, c2', c3, c4, c5, c6, c7, c8, c9⟩ := P6.out.cs.ten
  obtain ⟨z0, z1, z2, z3, z4, z5, z6, z7, z8, z9⟩ := P6.out.cz.ten
  have y0 := P6.out.fz 0
  have y1 := P6.out.fz 1
  have y2 := P6.out.fz 2
  have y3 := P6.out.fz 3
  have y4 := P6.out.fz 4
  have y5 := P6.out.fz 5
  have y6 := P6.out.fz 6
  have y7 := P6.out.fz 7
  have y8 := P6.out.fz 8
  have y9 := P6.out.fz 9
  go_wp2
  refine bodyPost_ret (v := .tuple #[.agg #[.int .i64 (s.sq + 1), .int .i64 s.fe, .slice A5 zs.length k5, .slice A3 s.tmbs.length k3, .int .i64 s.lo.a, .int .i64 s.lo.b, .int .i64 s.lo.c, .int .i64 s.hi.a, .int .i64 fi, .int .i64 s.hi.c], .bool true]) (by simp [results, Tryz.results25, go_sem, *]) rfl ⟨{ s with sq := s.sq + 1, ents := zs, hi := ⟨s.hi.a, fi, s.hi.c⟩ }, true, _, _, _, _, .inl ⟨HY.out, HAP.out, rfl⟩, rfl, ?_⟩
  rw [Hx0.out]
  exact apl_end OE6.out OT6.out HNE6.out hy2 b6

set_option maxRecDepth 100000 in
set_option maxHeartbeats 4000000 in
theorem apply3_2 (A : Option Addr) (c : Nat) (A2 : Option Addr) (c2 : Nat) (s : GSt) (tk bg fi : Int) (ky : ByteArray) (B : Nat) (w : World) (h : StAt w B A A2 s) (hB : B ≤ w.heap.size) (hl : s.ents.length ≤ 1048576) (hl2 : s.tmbs.length ≤ 1048576) (hsq : 0 ≤ s.sq ∧ s.sq ≤ 999999)
    (hT : ∀ W, Below w.heap.size w W → Calls Tryz.prog 58 #[.agg #[.int .i64 s.sq, .int .i64 s.fe, .slice A s.ents.length c, .slice A2 s.tmbs.length c2, .int .i64 s.lo.a, .int .i64 s.lo.b, .int .i64 s.lo.c, .int .i64 s.hi.a, .int .i64 s.hi.b, .int .i64 s.hi.c], .agg #[.int .i64 3, .int .i64 tk, .int .i64 2, .int .i64 bg, .int .i64 fi, .string ky]] W (IsBB (TakeP s ⟨3, tk, 2, bg, fi, ky⟩) W)) :
    Calls Tryz.prog 25 #[.agg #[.int .i64 s.sq, .int .i64 s.fe, .slice A s.ents.length c, .slice A2 s.tmbs.length c2, .int .i64 s.lo.a, .int .i64 s.lo.b, .int .i64 s.lo.c, .int .i64 s.hi.a, .int .i64 s.hi.b, .int .i64 s.hi.c], .agg #[.int .i64 3, .int .i64 tk, .int .i64 2, .int .i64 bg, .int .i64 fi, .string ky]] w (AplEnd s ⟨3, tk, 2, bg, fi, ky⟩ w) := by
  have H := Lib.hid h; clear h
  have HT := Lib.hid hT; clear hT
  go_enter Tryz.func25, Tryz.ntmps25
  go_upto_region 1 with fail
  obtain ⟨W, hW⟩ : ∃ W, W = ((w.alloc (.cells #[.int .i64 s.sq, .int .i64 s.fe, .slice A s.ents.length c, .slice A2 s.tmbs.length c2, .int .i64 s.lo.a, .int .i64 s.lo.b, .int .i64 s.lo.c, .int .i64 s.hi.a, .int .i64 s.hi.b, .int .i64 s.hi.c] 34)).alloc (.cells #[.int .i64 3, .int .i64 tk, .int .i64 2, .int .i64 bg, .int .i64 fi, .string ky] 38)).alloc (.cells #[.int .i64 0, .int .i64 0, .slice none 0 0, .slice none 0 0, .int .i64 0, .int .i64 0, .int .i64 0, .int .i64 0, .int .i64 0, .int .i64 0] 34) := ⟨_, rfl⟩
  have p0 : ApW w.heap.size W [.int .i64 s.sq, .int .i64 s.fe, .slice A s.ents.length c, .slice A2 s.tmbs.length c2, .int .i64 s.lo.a, .int .i64 s.lo.b, .int .i64 s.lo.c, .int .i64 s.hi.a, .int .i64 s.hi.b, .int .i64 s.hi.c] [.int .i64 3, .int .i64 tk, .int .i64 2, .int .i64 bg, .int .i64 fi, .string ky] [.int .i64 0, .int .i64 0, .slice none 0 0, .slice none 0 0, .int .i64 0, .int .i64 0, .int .i64 0, .int .i64 0, .int .i64 0, .int .i64 0] := by rw [hW]; exact ApW.new w (.int .i64 s.sq) (.int .i64 s.fe) (.slice A s.ents.length c) (.slice A2 s.tmbs.length c2) (.int .i64 s.lo.a) (.int .i64 s.lo.b) (.int .i64 s.lo.c) (.int .i64 s.hi.a) (.int .i64 s.hi.b) (.int .i64 s.hi.c) (.int .i64 3) (.int .i64 tk) (.int .i64 2) (.int .i64 bg) (.int .i64 fi) (.string ky) _ _ _
  have b0 : Below w.heap.size w W := by rw [hW]; exact bal (bal (bal (Below.refl _ _) _) _) _
  rw [← hW]
  clear hW
  generalize (Value.agg #[.int .i64 s.sq, .int .i64 s.fe, .slice A s.ents.length c, .slice A2 s.tmbs.length c2, .int .i64 s.lo.a, .int .i64 s.lo.b, .int .i64 s.lo.c, .int .i64 s.hi.a, .int .i64 s.hi.b, .int .i64 s.hi.c]) = va
  generalize (Value.agg #[.int .i64 3, .int .i64 tk, .int .i64 2, .int .i64 bg, .int .i64 fi, .string ky]) = vr
  have P0 := Lib.hid p0; clear p0
  generalize hx0 : w.heap.size = x0 at *
  have Hx0 := Lib.hid hx0; clear hx0
  obtain ⟨c0, c1, c2', c3, c4, c5, c6, c7, c8, c9⟩ := P0.out.cs.ten
  obtain ⟨q0, q1, q2, q3, q4, q5⟩ := (show RecAt W (x0 + 1) ⟨3, tk, 2, bg, fi, ky⟩ from P0.out.cr).cells
  go_wp2_with fail
  refine (HT.out W b0).mono ?_
  rintro e w1 ⟨b, hb, rfl, hb1⟩
  have HBT := Lib.hid hb; clear hb
  have b1 : Below x0 w w1 := b0.trans (hb1.mono (by have := P0.out.sz; omega))
  have P1 := Lib.hid (P0.out.below hb1 P0.out.sz)
  clear P0 b0 hb1 HT c0 c1 c2' c3 c4 c5 c6 c7 c8 c9 q0 q1 q2 q3 q4 q5
  obtain ⟨c0, c1, c2', c3, c4, c5, c6, c7, c8, c9⟩ := P1.out.cs.ten
  have hw1 : x0 ≤ w1.heap.size := by have := P1.out.sz; omega
  go_wp2_with fail
  refine (l06OwnO_any A c A2 c2 s x0 w1 ((H.out.below b1 hB).more hB) hw1 hl hl2).mono ?_
  rintro e w2 ⟨A1, k1, A3, k3, rfl, o1, o3, hne, hb2, hyz⟩
  have b2 : Below x0 w w2 := b1.trans (hb2.mono hw1)
  have P2 := Lib.hid (P1.out.below hb2 P1.out.sz)
  have O1 := Lib.hid o1; have O3 := Lib.hid o3; have HNE := Lib.hid hne
  have hy2 : x0 + 3 ≤ w1.heap.size + 2 := by have := P1.out.sz; omega
  clear P1 b1 hb2 o1 o3 hne c0 c1 c2' c3 c4 c5 c6 c7 c8 c9
  generalize w1.heap.size + 2 = y at *
  obtain ⟨c0, c1, c2', c3, c4, c5, c6, c7, c8, c9⟩ := P2.out.cs.ten
  have fs := P2.out.fs
  go_upto_region 4 with fail
  obtain ⟨W3, hW3⟩ : ∃ W3, W3 = (((((((((((w2.setCell ⟨x0, 0, none⟩ (.int .i64 s.sq)).setCell ⟨x0, 1, none⟩ (.int .i64 s.fe)).setCell ⟨x0, 2, none⟩ (.slice A1 s.ents.length k1)).setCell ⟨x0, 3, none⟩ (.slice A3 s.tmbs.length k3)).setCell ⟨x0, 4, none⟩ (.int .i64 s.lo.a)).setCell ⟨x0, 5, none⟩ (.int .i64 s.lo.b)).setCell ⟨x0, 6, none⟩ (.int .i64 s.lo.c)).setCell ⟨x0, 7, none⟩ (.int .i64 s.hi.a)).setCell ⟨x0, 8, none⟩ (.int .i64 s.hi.b)).setCell ⟨x0, 9, none⟩ (.int .i64 s.hi.c)).setCell ⟨x0, 0, none⟩ (.int .i64 (s.sq + 1))) := ⟨_, rfl⟩
  have p3 : ApW x0 W3 [.int .i64 (s.sq + 1), .int .i64 s.fe, .slice A1 s.ents.length k1, .slice A3 s.tmbs.length k3, .int .i64 s.lo.a, .int .i64 s.lo.b, .int .i64 s.lo.c, .int .i64 s.hi.a, .int .i64 s.hi.b, .int .i64 s.hi.c] [.int .i64 3, .int .i64 tk, .int .i64 2, .int .i64 bg, .int .i64 fi, .string ky] [.int .i64 0, .int .i64 0, .slice none 0 0, .slice none 0 0, .int .i64 0, .int .i64 0, .int .i64 0, .int .i64 0, .int .i64 0, .int .i64 0] := by rw [hW3]; exact (((((((((((P2.out.set (k := 0) (by simp) (.int .i64 s.sq)).set (k := 1) (by simp) (.int .i64 s.fe)).set (k := 2) (by simp) (.slice A1 s.ents.length k1)).set (k := 3) (by simp) (.slice A3 s.tmbs.length k3)).set (k := 4) (by simp) (.int .i64 s.lo.a)).set (k := 5) (by simp) (.int .i64 s.lo.b)).set (k := 6) (by simp) (.int .i64 s.lo.c)).set (k := 7) (by simp) (.int .i64 s.hi.a)).set (k := 8) (by simp) (.int .i64 s.hi.b)).set (k := 9) (by simp) (.int .i64 s.hi.c)).set (k := 0) (by simp) (.int .i64 (s.sq + 1)))
  have b3 : Below x0 w W3 := by rw [hW3]; repeat' first | with_reducible exact b2 | (with_reducible refine Below.setCell ?_ (by exact Nat.le_refl _) _)
  have q1 : OwnSl GEnt.vals 4 103 y W3 (.slice A1 s.ents.length k1) s.ents := by
    rw [hW3]; repeat' first | with_reducible exact O1.out | (with_reducible refine OwnSl.farO ?_ (by show x0 < y; omega) _)
  have q3 : OwnSl GTmb.vals 2 108 y W3 (.slice A3 s.tmbs.length k3) s.tmbs := by
    rw [hW3]; repeat' first | with_reducible exact O3.out | (with_reducible refine OwnSl.farO ?_ (by show x0 < y; omega) _)
  have hyW : y ≤ W3.heap.size := by rw [hW3]; simp only [size_setCell]; exact hyz
  rw [← hW3]
  clear hyz hW3 c0 c1 c2' c3 c4 c5 c6 c7 c8 c9 fs P2 O1 O3 b2
  have P3 := Lib.hid p3; clear p3
  have Q1 := Lib.hid q1; clear q1
  have Q3 := Lib.hid q3; clear q3
  generalize (Value.agg #[.int .i64 s.sq, .int .i64 s.fe, .slice A s.ents.length c, .slice A2 s.tmbs.length c2, .int .i64 s.lo.a, .int .i64 s.lo.b, .int .i64 s.lo.c, .int .i64 s.hi.a, .int .i64 s.hi.b, .int .i64 s.hi.c]) = va2
  generalize (Value.agg #[.int .i64 3, .int .i64 tk, .int .i64 2, .int .i64 bg, .int .i64 fi, .string ky]) = vr2
  generalize (Value.agg #[.int .i64 s.sq, .int .i64 s.fe, .slice A1 s.ents.length k1, .slice A3 s.tmbs.length k3, .int .i64 s.lo.a, .int .i64 s.lo.b, .int .i64 s.lo.c, .int .i64 s.hi.a, .int .i64 s.hi.b, .int .i64 s.hi.c]) = va4
  cases b
  · have HN : Hid (¬ TakeP s ⟨3, tk, 2, bg, fi, ky⟩) := Lib.hid (fun h => by have := HBT.out.2 h; cases this)
    clear HBT
    obtain ⟨c0, c1, c2', c3, c4, c5, c6, c7, c8, c9⟩ := P3.out.cs.ten
    obtain ⟨z0, z1, z2, z3, z4, z5, z6, z7, z8, z9⟩ := P3.out.cz.ten
    have y0 := P3.out.fz 0
    have y1 := P3.out.fz 1
    have y2 := P3.out.fz 2
    have y3 := P3.out.fz 3
    have y4 := P3.out.fz 4
    have y5 := P3.out.fz 5
    have y6 := P3.out.fz 6
    have y7 := P3.out.fz 7
    have y8 := P3.out.fz 8
    have y9 := P3.out.fz 9
    go_wp2
    refine bodyPost_ret (v := .tuple #[.agg #[.int .i64 (s.sq + 1), .int .i64 s.fe, .slice A1 s.ents.length k1, .slice A3 s.tmbs.length k3, .int .i64 s.lo.a, .int .i64 s.lo.b, .int .i64 s.lo.c, .int .i64 s.hi.a, .int .i64 s.hi.b, .int .i64 s.hi.c], .bool false]) (by simp [results, Tryz.results25, go_sem, *]) rfl ⟨{ s with sq := s.sq + 1 }, false, _, _, _, _, .inr ⟨HN.out, rfl, rfl⟩, rfl, ?_⟩
    rw [Hx0.out]
    exact apl_end Q1.out Q3.out HNE.out hy2 b3
  have HY : Hid (TakeP s ⟨3, tk, 2, bg, fi, ky⟩) := Lib.hid (HBT.out.1 rfl)
  clear HBT
  have HO4 : Hid (OwnSl GEnt.vals 4 103 y (W3.alloc (.cells #[.int .i64 2, .int .i64 bg, .int .i64 fi, .string ky] 103)) (.slice A1 s.ents.length k1) s.ents) := Lib.hid (World.ownsRow.alloc Q1.out _)
  have HN4 := Lib.hid (new_entv W3 ⟨2, bg, fi, ky⟩ 103)
  obtain ⟨c0, c1, c2', c3, c4, c5, c6, c7, c8, c9⟩ := P3.out.cs.ten
  obtain ⟨q0, q1, q2, q3, q4, q5⟩ := (show RecAt W3 (x0 + 1) ⟨3, tk, 2, bg, fi, ky⟩ from P3.out.cr).cells
  go_upto_region 17 with (at_builtin; refine wpList_append_sl GEnt.vals 4 40 (fun _ => rfl) entv_one 31 103 _ infoEnt rfl (by omega) Tryz.underlying31 rfl _ _ rfl y s.ents [⟨2, bg, fi, ky⟩] (.slice A1 s.ents.length k1) rfl HO4.out (some ⟨W3.heap.size, 0, none⟩) 1 (W3.heap.size + 1) rfl HN4.out (by simp [maxLen]; omega) (by simp; omega) (by simp; omega) ?_; intro v' w5 hO5 hg5 hv5; obtain ⟨zs, hzs⟩ : ∃ zs, zs = s.ents ++ [(⟨2, bg, fi, ky⟩ : GEnt)] := ⟨_, rfl⟩; rw [← hzs] at hO5; obtain ⟨A5, k5, rfl⟩ := hO5.form; have HO5 := Lib.hid hO5; have HZS := Lib.hid hzs; have HV5 := Lib.hid hv5; have HG5 := Lib.hid hg5; clear hO5 hzs hv5; have hb5 : Below y (W3.alloc (.cells #[.int .i64 2, .int .i64 bg, .int .i64 fi, .string ky] 103)) w5 := below_of_grown hg5 (by simp; omega) (fun g e => (World.ownsRow.lt HO4.out g e).1); clear hg5; have P5 := Lib.hid ((P3.out.below (Below.alloc (Below.refl W3.heap.size W3) (Nat.le_refl _) _) P3.out.sz).below hb5 hy2); clear hb5; obtain ⟨c0, c1, c2', c3, c4, c5, c6, c7, c8, c9⟩ := P5.out.cs.ten; obtain ⟨q0, q1, q2, q3, q4, q5⟩ := (show RecAt w5 (x0 + 1) ⟨3, tk, 2, bg, fi, ky⟩ from P5.out.cr).cells; have fs := P5.out.fs)
  go_upto_region 25 with fail
  have P6 := Lib.hid (show ApW x0 ((w5.setCell ⟨x0, 2, none⟩ (.slice A5 zs.length k5)).setCell ⟨x0, 9, none⟩ (.int .i64 fi)) [.int .i64 (s.sq + 1), .int .i64 s.fe, .slice A5 zs.length k5, .slice A3 s.tmbs.length k3, .int .i64 s.lo.a, .int .i64 s.lo.b, .int .i64 s.lo.c, .int .i64 s.hi.a, .int .i64 s.hi.b, .int .i64 fi] [.int .i64 3, .int .i64 tk, .int .i64 2, .int .i64 bg, .int .i64 fi, .string ky] [.int .i64 0, .int .i64 0, .slice none 0 0, .slice none 0 0, .int .i64 0, .int .i64 0, .int .i64 0, .int .i64 0, .int .i64 0, .int .i64 0] from (P5.out.set (k := 2) (by simp) (.slice A5 zs.length k5)).set (k := 9) (by simp) (.int .i64 fi))
  have OE6 : Hid (OwnSl GEnt.vals 4 103 y ((w5.setCell ⟨x0, 2, none⟩ (.slice A5 zs.length k5)).setCell ⟨x0, 9, none⟩ (.int .i64 fi)) (.slice A5 zs.length k5) zs) := Lib.hid ((HO5.out.farO (p := ⟨x0, 2, none⟩) (by show x0 < y; omega) _).farO (p := ⟨x0, 9, none⟩) (by show x0 < y; omega) _)
  have OT5 : OwnSl GTmb.vals 2 108 y w5 (.slice A3 s.tmbs.length k3) s.tmbs := OwnSl.kept (World.ownsRow.alloc Q3.out _) HG5.out (by
    rw [own_blk, own_blk]
    cases hq : blk A3 with
    | none => exact .inl rfl
    | some b => exact .inr (fun e => HNE.out b e.symm hq))
  have OT6 : Hid (OwnSl GTmb.vals 2 108 y ((w5.setCell ⟨x0, 2, none⟩ (.slice A5 zs.length k5)).setCell ⟨x0, 9, none⟩ (.int .i64 fi)) (.slice A3 s.tmbs.length k3) s.tmbs) := Lib.hid ((OwnSl.farO OT5 (p := ⟨x0, 2, none⟩) (by show x0 < y; omega) _).farO (p := ⟨x0, 9, none⟩) (by show x0 < y; omega) _)
  have HNE6 : Hid (∀ b, blk A5 = some b → blk A3 ≠ some b) := Lib.hid (fun b e e' => by
    have h5 := HV5.out
    rw [own_blk, own_blk] at h5
    rcases h5 with h | h
    · exact HNE.out b (h.symm.trans e) e'
    · have h1 := h.symm.trans e
      injection h1 with h1
      have h2 := (World.ownsRow.lt Q3.out b ((own_blk _ _ _).trans e')).2
      simp at h1
      omega)
  have b6 : Below x0 w ((w5.setCell ⟨x0, 2, none⟩ (.slice A5 zs.length k5)).setCell ⟨x0, 9, none⟩ (.int .i64 fi)) := by
    have h1 : Below y (W3.alloc (.cells #[.int .i64 2, .int .i64 bg, .int .i64 fi, .string ky] 103)) w5 := below_of_grown HG5.out (by simp; omega) (fun g e => (World.ownsRow.lt HO4.out g e).1)
    have h2 : Below x0 w w5 := (b3.alloc (by omega) _).trans (h1.mono (by omega))
    exact (h2.setCell (by exact Nat.le_refl _) _).setCell (by exact Nat.le_refl _) _
  clear c0 c1 c2' c3 c4 c5 c6 c7 c8 c9 q0 q1 q2 q3 q4 q5 fs Q1 Q3 P3 P5 b3 HO4 HN4 HO5 HV5 HG5 OT5
  generalize ((w5.setCell ⟨x0, 2, none⟩ (.slice A5 zs.length k5)).setCell ⟨x0, 9, none⟩ (.int .i64 fi)) = W6 at *
  have HAP : Hid (({ s with sq := s.sq + 1, ents := zs, hi := ⟨s.hi.a, s.hi.b, fi⟩ } : GSt) = appS s ⟨3, tk, 2, bg, fi, ky⟩) := Lib.hid (by rw [HZS.out]; simp [appS, GTri.set, GRec.ent])
  obtain ⟨c0, c1, c2', c3, c4, c5, c6, c7, c8, c9⟩ := P6.out.cs.ten
  obtain ⟨z0, z1, z2, z3, z4, z5, z6, z7, z8, z9⟩ := P6.out.cz.ten
  have y0 := P6.out.fz 0
  have y1 := P6.out.fz 1
  have y2 := P6.out.fz 2
  have y3 := P6.out.fz 3
  have y4 := P6.out.fz 4
  have y5 := P6.out.fz 5
  have y6 := P6.out.fz 6
  have y7 := P6.out.fz 7
  have y8 := P6.out.fz 8
  have y9 := P6.out.fz 9
  go_wp2
  refine bodyPost_ret (v := .tuple #[.agg #[.int .i64 (s.sq + 1), .int .i64 s.fe, .slice A5 zs.length k5, .slice A3 s.tmbs.length k3, .int .i64 s.lo.a, .int .i64 s.lo.b, .int .i64 s.lo.c, .int .i64 s.hi.a, .int .i64 s.hi.b, .int .i64 fi], .bool true]) (by simp [results, Tryz.results25, go_sem, *]) rfl ⟨{ s with sq := s.sq + 1, ents := zs, hi := ⟨s.hi.a, s.hi.b, fi⟩ }, true, _, _, _, _, .inl ⟨HY.out, HAP.out, rfl⟩, rfl, ?_⟩
  rw [Hx0.out]
  exact apl_end OE6.out OT6.out HNE6.out hy2 b6

end Go.Proofs.YtpfanmcjlfdaiaaGreatDoorR
