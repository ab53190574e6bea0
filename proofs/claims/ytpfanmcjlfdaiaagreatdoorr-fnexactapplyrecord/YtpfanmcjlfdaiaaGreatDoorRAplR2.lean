/-
  Contract of the model's l06Apply for records that retire. Conditions: lengths; what l06Takes answers.
-/
import Derived.Test.YtpfanmcjlfdaiaaGreatDoorRAplR
namespace Go.Proofs.YtpfanmcjlfdaiaaGreatDoorR
open Go.ChangeShapes Go.WideShapes Go.ChangeAt Go.RowKit Go.Deep Go.Joins Go.Maps
set_option linter.unusedVariables false
set_option linter.unusedSimpArgs false

set_option maxRecDepth 100000 in
set_option maxHeartbeats 4000000 in
theorem apply4_2 (A : Option Addr) (c : Nat) (A2 : Option Addr) (c2 : Nat) (s : GSt) (tk bg fi : Int) (ky : ByteArray) (B : Nat) (w : World) (h : StAt w B A A2 s) (hB : B ≤ w.heap.size) (hl : s.ents.length ≤ 1048576) (hl2 : s.tmbs.length ≤ 1048576) (hsq : 0 ≤ s.sq ∧ s.sq ≤ 999999)
    (hT : ∀ W, Below w.heap.size w W → Calls Tryz.prog 58 #[.agg #[.int .i64 s.sq, .int .i64 s.fe, .slice A s.ents.length c, .slice A2 s.tmbs.length c2, .int .i64 s.lo.a, .int .i64 s.lo.b, .int .i64 s.lo.c, .int .i64 s.hi.a, .int .i64 s.hi.b, .int .i64 s.hi.c], .agg #[.int .i64 4, .int .i64 tk, .int .i64 2, .int .i64 bg, .int .i64 fi, .string ky]] W (IsBB (TakeP s ⟨4, tk, 2, bg, fi, ky⟩) W)) :
    Calls Tryz.prog 25 #[.agg #[.int .i64 s.sq, .int .i64 s.fe, .slice A s.ents.length c, .slice A2 s.tmbs.length c2, .int .i64 s.lo.a, .int .i64 s.lo.b, .int .i64 s.lo.c, .int .i64 s.hi.a, .int .i64 s.hi.b, .int .i64 s.hi.c], .agg #[.int .i64 4, .int .i64 tk, .int .i64 2, .int .i64 bg, .int .i64 fi, .string ky]] w (AplEnd s ⟨4, tk, 2, bg, fi, ky⟩ w) := by
  have H := Lib.hid h; clear h
  have HT := Lib.hid hT; clear hT
  go_enter Tryz.func25, Tryz.ntmps25
  go_upto_region 1 with fail
  obtain ⟨W, hW⟩ : ∃ W, W = ((w.alloc (.cells #[.int .i64 s.sq, .int .i64 s.fe, .slice A s.ents.length c, .slice A2 s.tmbs.length c2, .int .i64 s.lo.a, .int .i64 s.lo.b, .int .i64 s.lo.c, .int .i64 s.hi.a, .int .i64 s.hi.b, .int .i64 s.hi.c] 34)).alloc (.cells #[.int .i64 4, .int .i64 tk, .int .i64 2, .int .i64 bg, .int .i64 fi, .string ky] 38)).alloc (.cells #[.int .i64 0, .int .i64 0, .slice none 0 0, .slice none 0 0, .int .i64 0, .int .i64 0, .int .i64 0, .int .i64 0, .int .i64 0, .int .i64 0] 34) := ⟨_, rfl⟩
  have p0 : ApW w.heap.size W [.int .i64 s.sq, .int .i64 s.fe, .slice A s.ents.length c, .slice A2 s.tmbs.length c2, .int .i64 s.lo.a, .int .i64 s.lo.b, .int .i64 s.lo.c, .int .i64 s.hi.a, .int .i64 s.hi.b, .int .i64 s.hi.c] [.int .i64 4, .int .i64 tk, .int .i64 2, .int .i64 bg, .int .i64 fi, .string ky] [.int .i64 0, .int .i64 0, .slice none 0 0, .slice none 0 0, .int .i64 0, .int .i64 0, .int .i64 0, .int .i64 0, .int .i64 0, .int .i64 0] := by rw [hW]; exact ApW.new w (.int .i64 s.sq) (.int .i64 s.fe) (.slice A s.ents.length c) (.slice A2 s.tmbs.length c2) (.int .i64 s.lo.a) (.int .i64 s.lo.b) (.int .i64 s.lo.c) (.int .i64 s.hi.a) (.int .i64 s.hi.b) (.int .i64 s.hi.c) (.int .i64 4) (.int .i64 tk) (.int .i64 2) (.int .i64 bg) (.int .i64 fi) (.string ky) _ _ _
  have b0 : Below w.heap.size w W := by rw [hW]; exact bal (bal (bal (Below.refl _ _) _) _) _
  rw [← hW]
  clear hW
  generalize (Value.agg #[.int .i64 s.sq, .int .i64 s.fe, .slice A s.ents.length c, .slice A2 s.tmbs.length c2, .int .i64 s.lo.a, .int .i64 s.lo.b, .int .i64 s.lo.c, .int .i64 s.hi.a, .int .i64 s.hi.b, .int .i64 s.hi.c]) = va
  generalize (Value.agg #[.int .i64 4, .int .i64 tk, .int .i64 2, .int .i64 bg, .int .i64 fi, .string ky]) = vr
  have P0 := Lib.hid p0; clear p0
  generalize hx0 : w.heap.size = x0 at *
  have Hx0 := Lib.hid hx0; clear hx0
  obtain ⟨c0, c1, c2', c3, c4, c5, c6, c7, c8, c9⟩ := P0.out.cs.ten
  obtain ⟨q0, q1, q2, q3, q4, q5⟩ := (show RecAt W (x0 + 1) ⟨4, tk, 2, bg, fi, ky⟩ from P0.out.cr).cells
  go_wp2_with fail
  refine (HT.out W b0).mono ?_
  rintro e w1 ⟨b, hb, rfl, hb1⟩
  have HBT := Lib.hid hb; clear hb
  have b1 : Below x0 w w1 := b0.trans (hb1.mono (by have := P0.out.sz; omega))
  have P1 := Lib.hid (P0.out.below hb1 P0.out.sz)
  clear P0 b0 hb1 HT c0 c1 c2' c3 c4 c5 c6 c7 c8 c9 q0 q1 q2 q3 q4 q5
  obtain ⟨c0, c1, c2', c3, c4, c5, c6, c7, c8, c9⟩ := P1.out.cs.ten
  have hw1 : x0 ≤ w1.heap.size := by have := P1.out.sz; omega
  go_wp2_with fail
  refine (l06OwnO_any A c A2 c2 s x0 w1 ((H.out.below b1 hB).more hB) hw1 hl hl2).mono ?_
  rintro e w2 ⟨A1, k1, A3, k3, rfl, o1, o3, hne, hb2, hyz⟩
  have b2 : Below x0 w w2 := b1.trans (hb2.mono hw1)
  have P2 := Lib.hid (P1.out.below hb2 P1.out.sz)
  have O1 := Lib.hid o1; have O3 := Lib.hid o3; have HNE := Lib.hid hne
  have hy2 : x0 + 3 ≤ w1.heap.size + 2 := by have := P1.out.sz; omega
  clear P1 b1 hb2 o1 o3 hne c0 c1 c2' c3 c4 c5 c6 c7 c8 c9
  generalize w1.heap.size + 2 = y at *
  obtain ⟨c0, c1, c2', c3, c4, c5, c6, c7, c8, c9⟩ := P2.out.cs.ten
  have fs := P2.out.fs
  go_upto_region 4 with fail
  obtain ⟨W3, hW3⟩ : ∃ W3, W3 = (((((((((((w2.setCell ⟨x0, 0, none⟩ (.int .i64 s.sq)).setCell ⟨x0, 1, none⟩ (.int .i64 s.fe)).setCell ⟨x0, 2, none⟩ (.slice A1 s.ents.length k1)).setCell ⟨x0, 3, none⟩ (.slice A3 s.tmbs.length k3)).setCell ⟨x0, 4, none⟩ (.int .i64 s.lo.a)).setCell ⟨x0, 5, none⟩ (.int .i64 s.lo.b)).setCell ⟨x0, 6, none⟩ (.int .i64 s.lo.c)).setCell ⟨x0, 7, none⟩ (.int .i64 s.hi.a)).setCell ⟨x0, 8, none⟩ (.int .i64 s.hi.b)).setCell ⟨x0, 9, none⟩ (.int .i64 s.hi.c)).setCell ⟨x0, 0, none⟩ (.int .i64 (s.sq + 1))) := ⟨_, rfl⟩
  have p3 : ApW x0 W3 [.int .i64 (s.sq + 1), .int .i64 s.fe, .slice A1 s.ents.length k1, .slice A3 s.tmbs.length k3, .int .i64 s.lo.a, .int .i64 s.lo.b, .int .i64 s.lo.c, .int .i64 s.hi.a, .int .i64 s.hi.b, .int .i64 s.hi.c] [.int .i64 4, .int .i64 tk, .int .i64 2, .int .i64 bg, .int .i64 fi, .string ky] [.int .i64 0, .int .i64 0, .slice none 0 0, .slice none 0 0, .int .i64 0, .int .i64 0, .int .i64 0, .int .i64 0, .int .i64 0, .int .i64 0] := by rw [hW3]; exact (((((((((((P2.out.set (k := 0) (by simp) (.int .i64 s.sq)).set (k := 1) (by simp) (.int .i64 s.fe)).set (k := 2) (by simp) (.slice A1 s.ents.length k1)).set (k := 3) (by simp) (.slice A3 s.tmbs.length k3)).set (k := 4) (by simp) (.int .i64 s.lo.a)).set (k := 5) (by simp) (.int .i64 s.lo.b)).set (k := 6) (by simp) (.int .i64 s.lo.c)).set (k := 7) (by simp) (.int .i64 s.hi.a)).set (k := 8) (by simp) (.int .i64 s.hi.b)).set (k := 9) (by simp) (.int .i64 s.hi.c)).set (k := 0) (by simp) (.int .i64 (s.sq + 1)))
  have b3 : Below x0 w W3 := by rw [hW3]; repeat' first | with_reducible exact b2 | (with_reducible refine Below.setCell ?_ (by exact Nat.le_refl _) _)
  have q1 : OwnSl GEnt.vals 4 103 y W3 (.slice A1 s.ents.length k1) s.ents := by
    rw [hW3]; repeat' first | with_reducible exact O1.out | (with_reducible refine OwnSl.farO ?_ (by show x0 < y; omega) _)
  have q3 : OwnSl GTmb.vals 2 108 y W3 (.slice A3 s.tmbs.length k3) s.tmbs := by
    rw [hW3]; repeat' first | with_reducible exact O3.out | (with_reducible refine OwnSl.farO ?_ (by show x0 < y; omega) _)
  have hyW : y ≤ W3.heap.size := by rw [hW3]; simp only [size_setCell]; exact hyz
  rw [← hW3]
  clear hyz hW3 c0 c1 c2' c3 c4 c5 c6 c7 c8 c9 fs P2 O1 O3 b2
  have P3 := Lib.hid p3; clear p3
  have Q1 := Lib.hid q1; clear q1
  have Q3 := Lib.hid q3; clear q3
  generalize (Value.agg #[.int .i64 s.sq, .int .i64 s.fe, .slice A s.ents.length c, .slice A2 s.tmbs.length c2, .int .i64 s.lo.a, .int .i64 s.lo.b, .int .i64 s.lo.c, .int .i64 s.hi.a, .int .i64 s.hi.b, .int .i64 s.hi.c]) = va2
  generalize (Value.agg #[.int .i64 4, .int .i64 tk, .int .i64 2, .int .i64 bg, .int .i64 fi, .string ky]) = vr2
  generalize (Value.agg #[.int .i64 s.sq, .int .i64 s.fe, .slice A1 s.ents.length k1, .slice A3 s.tmbs.length k3, .int .i64 s.lo.a, .int .i64 s.lo.b, .int .i64 s.lo.c, .int .i64 s.hi.a, .int .i64 s.hi.b, .int .i64 s.hi.c]) = va4
  cases b
  · have HN : Hid (¬ TakeP s ⟨4, tk, 2, bg, fi, ky⟩) := Lib.hid (fun h => by have := HBT.out.2 h; cases this)
    clear HBT
    obtain ⟨c0, c1, c2', c3, c4, c5, c6, c7, c8, c9⟩ := P3.out.cs.ten
    obtain ⟨z0, z1, z2, z3, z4, z5, z6, z7, z8, z9⟩ := P3.out.cz.ten
    have y0 := P3.out.fz 0
    have y1 := P3.out.fz 1
    have y2 := P3.out.fz 2
    have y3 := P3.out.fz 3
    have y4 := P3.out.fz 4
    have y5 := P3.out.fz 5
    have y6 := P3.out.fz 6
    have y7 := P3.out.fz 7
    have y8 := P3.out.fz 8
    have y9 := P3.out.fz 9
    go_wp2
    refine bodyPost_ret (v := .tuple #[.agg #[.int .i64 (s.sq + 1), .int .i64 s.fe, .slice A1 s.ents.length k1, .slice A3 s.tmbs.length k3, .int .i64 s.lo.a, .int .i64 s.lo.b, .int .i64 s.lo.c, .int .i64 s.hi.a, .int .i64 s.hi.b, .int .i64 s.hi.c], .bool false]) (by simp [results, Tryz.results25, go_sem, *]) rfl ⟨{ s with sq := s.sq + 1 }, false, _, _, _, _, .inr ⟨HN.out, rfl, rfl⟩, rfl, ?_⟩
    rw [Hx0.out]
    exact apl_end Q1.out Q3.out HNE.out hy2 b3
  have HY : Hid (TakeP s ⟨4, tk, 2, bg, fi, ky⟩) := Lib.hid (HBT.out.1 rfl)
  clear HBT
  have hfe : firstE s.ents 2 = some ⟨2, bg, fi, ky⟩ := by
    rcases HY.out with ⟨h, _⟩ | ⟨h, _⟩ | ⟨h, _⟩ | ⟨_, _, h, _⟩ | ⟨h, _⟩
    · simp at h
    · simp at h
    · simp at h
    · exact h
    · simp at h
  have HFE := Lib.hid hfe; clear hfe
  obtain ⟨c0, c1, c2', c3, c4, c5, c6, c7, c8, c9⟩ := P3.out.cs.ten
  obtain ⟨q0, q1, q2, q3, q4, q5⟩ := (show RecAt W3 (x0 + 1) ⟨4, tk, 2, bg, fi, ky⟩ from P3.out.cr).cells
  have hst : StAt W3 W3.heap.size A1 A3 ({ s with sq := s.sq + 1 } : GSt) := ⟨(OwnSl.sl Q1.out (fun _ => rfl)).1, (OwnSl.sl Q3.out (fun _ => rfl)).1⟩
  have HST := Lib.hid hst; clear hst
  go_wp2_with fail
  refine (l06First_any A1 k1 A3 k3 ({ s with sq := s.sq + 1 } : GSt) 2 W3.heap.size W3 HST.out (Nat.le_refl _) hl).mono ?_
  rintro e w4 ⟨n, hn, rfl, hb4⟩
  clear c0 c1 c2' c3 c4 c5 c6 c7 c8 c9 q0 q1 q2 q3 q4 q5 HST
  obtain ⟨k, hk, rfl, hek, hnt⟩ : ∃ k : Nat, ∃ hk : k < s.ents.length, n = k ∧ firstE s.ents 2 = some s.ents[k] ∧ NoT s.ents 2 k := by
    rcases hn with ⟨h, _⟩ | h
    · rw [HFE.out] at h; cases h
    · exact h
  have hkt : s.ents[k].tier = 2 := (firstE_mem hek).2
  have HER : Hid (s.ents.eraseP (fun e => e.tier == 2) = s.ents.take k ++ s.ents.drop (k + 1)) := Lib.hid (erase_at hk hnt hkt)
  have HTK : Hid ((s.ents.take k).length = k) := Lib.hid (by simp; omega)
  have HDK : Hid ((s.ents.drop (k + 1)).length = s.ents.length - (k + 1)) := Lib.hid (by simp)
  clear hn hek hnt hkt
  have P4 := Lib.hid (P3.out.below hb4 P3.out.sz)
  have E4 := Lib.hid (OwnSl.below Q1.out hb4)
  have Q4 := Lib.hid (OwnSl.below Q3.out hb4)
  have b4 : Below x0 w w4 := b3.trans (hb4.mono (by omega))
  have hy4 : y ≤ w4.heap.size := Nat.le_trans hyW hb4.size
  clear P3 Q1 Q3 b3 hb4
  obtain ⟨g, rfl⟩ : ∃ g, A1 = some ⟨g, 0, none⟩ := by
    rcases E4.out.2 with ⟨he, hn⟩ | ⟨g, cap, cur, he, _⟩
    · omega
    · injection he with e1 e2 e3; exact ⟨g, e1⟩
  have HSE : Hid (EntsAt w4 w4.heap.size (some ⟨g, 0, none⟩) s.ents) := Lib.hid (OwnSl.sl E4.out (fun _ => rfl)).1
  have hcap : s.ents.length ≤ k1 := (OwnSl.sl E4.out (fun _ => rfl)).2.2.2
  have HSK : Hid (EntsAt w4 w4.heap.size (some ⟨g, 0, none⟩) (s.ents.take k)) := Lib.hid (ents_take HSE.out k)
  have HSD0 : Hid (EntsAt w4 w4.heap.size (some ⟨g, 0 + (k + 1) * 4, none⟩) (s.ents.drop (k + 1))) := Lib.hid (ents_drop HSE.out (k + 1))
  have C2 : Hid (w4.cell? ⟨x0, 2, none⟩ = some (.slice (some ⟨g, 0, none⟩) s.ents.length k1)) := Lib.hid (P4.out.cs.ten.2.2.1)
  have x0lt : x0 + 3 ≤ w4.heap.size := P4.out.sz
  have i0 : (0 : Int) ≤ (k : Int) := by omega
  have i1 : (k : Int) ≤ (k1 : Int) := by omega
  have i2 : (k : Int) + 1 ≤ (s.ents.length : Int) := by omega
  have i3 : (0 : Int) ≤ (k : Int) + 1 := by omega
  have i4 : (s.ents.length : Int) ≤ (k1 : Int) := by omega
  have wk : IntKind.i64.wrap ((k : Int) + 1) = (k : Int) + 1 := by rw [IntKind.wrap_i64]; omega
  have HSD : Hid (EntsAt w4 w4.heap.size (some ⟨g, (k + 1) * 4, none⟩) (s.ents.drop (k + 1))) := Lib.hid (by simpa using HSD0.out)
  have x0l : x0 < w4.heap.size := by omega
  have c2' : w4.cell? ⟨x0, 2, none⟩ = some (.slice (some ⟨g, 0, none⟩) s.ents.length k1) := C2.out
  have f2 : w4.frozen? ⟨x0, 2, none⟩ = false := P4.out.fs 2
  go_upto_region 22 with fail
  go_cut [7] (fun p wx => p = .int .i64 (k : Int) ∧ ∃ (L : List GEnt) (A7 : Option Addr) (k7 : Nat) (w7 : World), wx = w7.setCell ⟨x0, 2, none⟩ (.slice A7 L.length k7) ∧ Hid (L = s.ents.eraseP (fun e => e.tier == 2)) ∧ Hid (OwnSl GEnt.vals 4 103 w4.heap.size w7 (.slice A7 L.length k7) L) ∧ Hid (Below w4.heap.size w4 w7))
  case first =>
    by_cases hc : k1 = k + 1
    · have hn1 : s.ents.length = k + 1 := by omega
      have hdn : s.ents.drop (k + 1) = [] := List.drop_eq_nil_of_le (by omega)
      have HSD2 : Hid (EntsAt w4 w4.heap.size (some ⟨g, 0, none⟩) (s.ents.drop (k + 1))) := Lib.hid (by rw [hdn]; exact Sl.nil)
      have HD0 : Hid ((s.ents.drop (k + 1)).length = 0) := Lib.hid (by rw [hdn]; rfl)
      clear hdn
      subst hc
      rw [hn1] at c2'
      have HN1 := Lib.hid hn1; clear hn1
      have hq : (k : Int) ≤ (k : Int) + 1 := by omega
      have o0 : OwnSl GEnt.vals 4 103 w4.heap.size (w4.alloc (.cells #[] 103)).drew (.slice (some ⟨w4.heap.size, 0, none⟩) 0 0) [] := own_empty GEnt.vals 4 103 w4
      have O0 := Lib.hid o0; clear o0
      go_region_law (first
        | (refine step_append_sl GEnt.vals 4 40 (fun _ => rfl) entv_one 31 103 _ infoEnt rfl (by omega) Tryz.underlying31 rfl _ _ rfl w4.heap.size [] (s.ents.take k) (.slice (some ⟨w4.heap.size, 0, none⟩) 0 0) rfl O0.out (some ⟨g, 0, none⟩) (k + 1) w4.heap.size (by rw [HTK.out]; rfl) (Sl.below HSK.out (show Below w4.heap.size w4 (w4.alloc (.cells #[] 103)).drew from (Below.alloc (Below.refl w4.heap.size w4) (Nat.le_refl _) _).drew) (Nat.le_refl _)) (by rw [HTK.out]; simp [maxLen]; omega) (by rw [HTK.out]; simp; omega) (by show w4.heap.size ≤ (w4.alloc (.cells #[] 103)).heap.size; simp) ?_; intro v1 w6 hO6 hg6; rw [List.nil_append] at hO6; have O6 := Lib.hid hO6; clear hO6; have hb6 : Below w4.heap.size w4 w6 := (show Below w4.heap.size w4 (w4.alloc (.cells #[] 103)).drew from (Below.alloc (Below.refl w4.heap.size w4) (Nat.le_refl _) _).drew).trans (below_of_grown hg6 (by show w4.heap.size ≤ (w4.alloc (.cells #[] 103)).heap.size; simp) (fun g e => (World.ownsRow.lt O0.out g e).1)); clear hg6; have u2 := (hb6.cell (p := ⟨x0, 2, none⟩) (by show x0 < _; omega)).trans c2')
        | (refine step_append_sl GEnt.vals 4 40 (fun _ => rfl) entv_one 31 103 _ infoEnt rfl (by omega) Tryz.underlying31 rfl _ _ rfl w4.heap.size (s.ents.take k) (s.ents.drop (k + 1)) v1 rfl O6.out (some ⟨g, 0, none⟩) 0 w4.heap.size (by first | (rw [HD0.out]; rfl) | (rw [HD0.out]; simp [Act.eval])) (Sl.below HSD2.out hb6 (Nat.le_refl _)) (by rw [HTK.out, HD0.out]; simp [maxLen]; have := HN1.out; omega) (by rw [HTK.out, HD0.out]; have := HN1.out; omega) hb6.size ?_; intro v2 w7 hO7 hg7; rw [← HER.out] at hO7; obtain ⟨L, hL⟩ : ∃ L, L = s.ents.eraseP (fun e => e.tier == 2) := ⟨_, rfl⟩; rw [← hL] at hO7; obtain ⟨A7, k7, rfl⟩ := hO7.form; have O7 := Lib.hid hO7; have HL := Lib.hid hL; clear hO7 hL; have hb7 : Below w4.heap.size w4 w7 := hb6.trans (below_of_grown hg7 hb6.size (fun g e => (World.ownsRow.lt O6.out g e).1)); clear hg7; have y2 := (hb7.cell (p := ⟨x0, 2, none⟩) (by show x0 < _; omega)).trans c2'; have g2 := (hb7.frozen (p := ⟨x0, 2, none⟩) (by show x0 < _; omega)).trans f2))
      all_goals (go_wp2_with fail; go_meet)
      all_goals exact ⟨rfl, L, A7, k7, w7, rfl, HL, O7, Lib.hid hb7⟩
    · have o0 : OwnSl GEnt.vals 4 103 w4.heap.size (w4.alloc (.cells #[] 103)).drew (.slice (some ⟨w4.heap.size, 0, none⟩) 0 0) [] := own_empty GEnt.vals 4 103 w4
      have O0 := Lib.hid o0; clear o0
      go_region_law (first
        | (refine step_append_sl GEnt.vals 4 40 (fun _ => rfl) entv_one 31 103 _ infoEnt rfl (by omega) Tryz.underlying31 rfl _ _ rfl w4.heap.size [] (s.ents.take k) (.slice (some ⟨w4.heap.size, 0, none⟩) 0 0) rfl O0.out (some ⟨g, 0, none⟩) k1 w4.heap.size (by rw [HTK.out]; rfl) (Sl.below HSK.out (show Below w4.heap.size w4 (w4.alloc (.cells #[] 103)).drew from (Below.alloc (Below.refl w4.heap.size w4) (Nat.le_refl _) _).drew) (Nat.le_refl _)) (by rw [HTK.out]; simp [maxLen]; omega) (by rw [HTK.out]; simp; omega) (by show w4.heap.size ≤ (w4.alloc (.cells #[] 103)).heap.size; simp) ?_; intro v1 w6 hO6 hg6; rw [List.nil_append] at hO6; have O6 := Lib.hid hO6; clear hO6; have hb6 : Below w4.heap.size w4 w6 := (show Below w4.heap.size w4 (w4.alloc (.cells #[] 103)).drew from (Below.alloc (Below.refl w4.heap.size w4) (Nat.le_refl _) _).drew).trans (below_of_grown hg6 (by show w4.heap.size ≤ (w4.alloc (.cells #[] 103)).heap.size; simp) (fun g e => (World.ownsRow.lt O0.out g e).1)); clear hg6; have u2 := (hb6.cell (p := ⟨x0, 2, none⟩) (by show x0 < _; omega)).trans c2')
        | (refine step_append_sl GEnt.vals 4 40 (fun _ => rfl) entv_one 31 103 _ infoEnt rfl (by omega) Tryz.underlying31 rfl _ _ rfl w4.heap.size (s.ents.take k) (s.ents.drop (k + 1)) v1 rfl O6.out (some ⟨g, (k + 1) * 4, none⟩) (k1 - (k + 1)) w4.heap.size (by first | (rw [HDK.out]; rfl) | (rw [HDK.out]; simp [Act.eval])) (Sl.below HSD.out hb6 (Nat.le_refl _)) (by rw [HTK.out, HDK.out]; simp [maxLen]; omega) (by rw [HTK.out, HDK.out]; omega) hb6.size ?_; intro v2 w7 hO7 hg7; rw [← HER.out] at hO7; obtain ⟨L, hL⟩ : ∃ L, L = s.ents.eraseP (fun e => e.tier == 2) := ⟨_, rfl⟩; rw [← hL] at hO7; obtain ⟨A7, k7, rfl⟩ := hO7.form; have O7 := Lib.hid hO7; have HL := Lib.hid hL; clear hO7 hL; have hb7 : Below w4.heap.size w4 w7 := hb6.trans (below_of_grown hg7 hb6.size (fun g e => (World.ownsRow.lt O6.out g e).1)); clear hg7; have y2 := (hb7.cell (p := ⟨x0, 2, none⟩) (by show x0 < _; omega)).trans c2'; have g2 := (hb7.frozen (p := ⟨x0, 2, none⟩) (by show x0 < _; omega)).trans f2))
      all_goals (go_wp2_with fail; go_meet)
      all_goals exact ⟨rfl, L, A7, k7, w7, rfl, HL, O7, Lib.hid hb7⟩
  case rest =>
    obtain ⟨rfl, L, A7, k7, w7, rfl, HL, O7, HB7⟩ := hcut
    have P7 := Lib.hid (show ApW x0 (w7.setCell ⟨x0, 2, none⟩ (.slice A7 L.length k7)) [.int .i64 (s.sq + 1), .int .i64 s.fe, .slice A7 L.length k7, .slice A3 s.tmbs.length k3, .int .i64 s.lo.a, .int .i64 s.lo.b, .int .i64 s.lo.c, .int .i64 s.hi.a, .int .i64 s.hi.b, .int .i64 s.hi.c] [.int .i64 4, .int .i64 tk, .int .i64 2, .int .i64 bg, .int .i64 fi, .string ky] [.int .i64 0, .int .i64 0, .slice none 0 0, .slice none 0 0, .int .i64 0, .int .i64 0, .int .i64 0, .int .i64 0, .int .i64 0, .int .i64 0] from (P4.out.below HB7.out P4.out.sz).set (k := 2) (by simp) (.slice A7 L.length k7))
    have T7 : Hid (OwnSl GTmb.vals 2 108 y (w7.setCell ⟨x0, 2, none⟩ (.slice A7 L.length k7)) (.slice A3 s.tmbs.length k3) s.tmbs) := Lib.hid ((OwnSl.below Q4.out HB7.out).farO (p := ⟨x0, 2, none⟩) (by show x0 < y; omega) _)
    have E7 : Hid (OwnSl GEnt.vals 4 103 w4.heap.size (w7.setCell ⟨x0, 2, none⟩ (.slice A7 L.length k7)) (.slice A7 L.length k7) L) := Lib.hid (O7.out.farO (p := ⟨x0, 2, none⟩) (by show x0 < _; omega) _)
    have b7 : Below x0 w (w7.setCell ⟨x0, 2, none⟩ (.slice A7 L.length k7)) := (b4.trans (HB7.out.mono (by omega))).setCell (by exact Nat.le_refl _) _
    have NE7 : Hid (∀ b, blk A7 = some b → blk A3 ≠ some b) := Lib.hid (fun b e e' => by
      have h1 := (World.ownsRow.lt O7.out b ((own_blk _ _ _).trans e)).1
      have h2 := (World.ownsRow.lt Q4.out b ((own_blk _ _ _).trans e')).2
      omega)
    have s7 : w4.heap.size ≤ (w7.setCell ⟨x0, 2, none⟩ (.slice A7 L.length k7)).heap.size := by rw [size_setCell]; exact HB7.out.size
    clear O7 HB7 P4 E4 Q4 b4 HSE HSK HSD0 HSD C2 c2' f2 HER HTK HDK HFE
    generalize w7.setCell ⟨x0, 2, none⟩ (.slice A7 L.length k7) = W7 at *
    have HO4 : Hid (OwnSl GTmb.vals 2 108 y (W7.alloc (.cells #[.int .i64 (s.sq + 1), .string ky] 108)) (.slice A3 s.tmbs.length k3) s.tmbs) := Lib.hid (World.ownsRow.alloc T7.out _)
    have HN4 := Lib.hid (new_tmbv W7 ⟨s.sq + 1, ky⟩ 108)
    obtain ⟨c0, c1, c2', c3, c4, c5, c6, c7, c8, c9⟩ := P7.out.cs.ten
    obtain ⟨q0, q1, q2, q3, q4, q5⟩ := (show RecAt W7 (x0 + 1) ⟨4, tk, 2, bg, fi, ky⟩ from P7.out.cr).cells
    have hyW7 : y ≤ W7.heap.size := by omega
    go_upto_region 24 with (at_builtin; refine wpList_append_sl GTmb.vals 2 24 (fun _ => rfl) tmbv_one 32 108 _ infoTmb rfl (by omega) Tryz.underlying32 rfl _ _ rfl y s.tmbs [(⟨s.sq + 1, ky⟩ : GTmb)] (.slice A3 s.tmbs.length k3) rfl HO4.out (some ⟨W7.heap.size, 0, none⟩) 1 (W7.heap.size + 1) rfl HN4.out (by simp [maxLen]; omega) (by simp; omega) (by simp; omega) ?_; intro v' w5 hO5 hg5 hv5; obtain ⟨zs, hzs⟩ : ∃ zs, zs = s.tmbs ++ [(⟨s.sq + 1, ky⟩ : GTmb)] := ⟨_, rfl⟩; rw [← hzs] at hO5; obtain ⟨A5, k5, rfl⟩ := hO5.form; have HO5 := Lib.hid hO5; have HZS := Lib.hid hzs; have HV5 := Lib.hid hv5; have HG5 := Lib.hid hg5; clear hO5 hzs hv5; have hb5 : Below y (W7.alloc (.cells #[.int .i64 (s.sq + 1), .string ky] 108)) w5 := below_of_grown hg5 (by simp; omega) (fun g e => (World.ownsRow.lt HO4.out g e).1); clear hg5; have P5 := Lib.hid ((P7.out.below (Below.alloc (Below.refl W7.heap.size W7) (Nat.le_refl _) _) P7.out.sz).below hb5 hy2); clear hb5; obtain ⟨c0, c1, c2', c3, c4, c5, c6, c7, c8, c9⟩ := P5.out.cs.ten; obtain ⟨q0, q1, q2, q3, q4, q5⟩ := (show RecAt w5 (x0 + 1) ⟨4, tk, 2, bg, fi, ky⟩ from P5.out.cr).cells; have fs := P5.out.fs)
    go_upto_region 25 with fail
    have P6 := Lib.hid (show ApW x0 ((w5.setCell ⟨x0, 3, none⟩ (.slice A5 zs.length k5)).setCell ⟨x0, 6, none⟩ (.int .i64 fi)) [.int .i64 (s.sq + 1), .int .i64 s.fe, .slice A7 L.length k7, .slice A5 zs.length k5, .int .i64 s.lo.a, .int .i64 s.lo.b, .int .i64 fi, .int .i64 s.hi.a, .int .i64 s.hi.b, .int .i64 s.hi.c] [.int .i64 4, .int .i64 tk, .int .i64 2, .int .i64 bg, .int .i64 fi, .string ky] [.int .i64 0, .int .i64 0, .slice none 0 0, .slice none 0 0, .int .i64 0, .int .i64 0, .int .i64 0, .int .i64 0, .int .i64 0, .int .i64 0] from (P5.out.set (k := 3) (by simp) (.slice A5 zs.length k5)).set (k := 6) (by simp) (.int .i64 fi))
    have OT6 : Hid (OwnSl GTmb.vals 2 108 y ((w5.setCell ⟨x0, 3, none⟩ (.slice A5 zs.length k5)).setCell ⟨x0, 6, none⟩ (.int .i64 fi)) (.slice A5 zs.length k5) zs) := Lib.hid ((HO5.out.farO (p := ⟨x0, 3, none⟩) (by show x0 < y; omega) _).farO (p := ⟨x0, 6, none⟩) (by show x0 < y; omega) _)
    have OE5 : OwnSl GEnt.vals 4 103 w4.heap.size w5 (.slice A7 L.length k7) L := OwnSl.kept (World.ownsRow.alloc E7.out _) HG5.out (by
      rw [own_blk, own_blk]
      cases hq : blk A7 with
      | none => exact .inl rfl
      | some b => exact .inr (fun e => NE7.out b hq e.symm))
    have OE6 : Hid (OwnSl GEnt.vals 4 103 y ((w5.setCell ⟨x0, 3, none⟩ (.slice A5 zs.length k5)).setCell ⟨x0, 6, none⟩ (.int .i64 fi)) (.slice A7 L.length k7) L) := Lib.hid (OwnSl.monoO ((OwnSl.farO OE5 (p := ⟨x0, 3, none⟩) (by show x0 < _; omega) _).farO (p := ⟨x0, 6, none⟩) (by show x0 < _; omega) _) hy4)
    have HNE6 : Hid (∀ b, blk A7 = some b → blk A5 ≠ some b) := Lib.hid (fun b e e' => by
      have h5 := HV5.out
      rw [own_blk, own_blk] at h5
      rcases h5 with h | h
      · exact NE7.out b e (h.symm.trans e')
      · have h1 := h.symm.trans e'
        injection h1 with h1
        have h2 := (World.ownsRow.lt E7.out b ((own_blk _ _ _).trans e)).2
        simp at h1
        omega)
    have b6 : Below x0 w ((w5.setCell ⟨x0, 3, none⟩ (.slice A5 zs.length k5)).setCell ⟨x0, 6, none⟩ (.int .i64 fi)) := by
      have h1 : Below y (W7.alloc (.cells #[.int .i64 (s.sq + 1), .string ky] 108)) w5 := below_of_grown HG5.out (by simp; omega) (fun g e => (World.ownsRow.lt HO4.out g e).1)
      have h2 : Below x0 w w5 := (b7.alloc (by omega) _).trans (h1.mono (by omega))
      exact (h2.setCell (by exact Nat.le_refl _) _).setCell (by exact Nat.le_refl _) _
    clear c0 c1 c2' c3 c4 c5 c6 c7 c8 c9 q0 q1 q2 q3 q4 q5 fs P7 P5 b7 HO4 HN4 HO5 HV5 HG5 OE5 T7 E7 NE7
    generalize (w5.setCell ⟨x0, 3, none⟩ (.slice A5 zs.length k5)).setCell ⟨x0, 6, none⟩ (.int .i64 fi) = W6 at *
    have HAP : Hid (({ s with sq := s.sq + 1, ents := L, tmbs := zs, lo := ⟨s.lo.a, s.lo.b, fi⟩ } : GSt) = appS s ⟨4, tk, 2, bg, fi, ky⟩) := Lib.hid (by rw [HZS.out, HL.out]; simp [appS, GTri.set])
    obtain ⟨c0, c1, c2', c3, c4, c5, c6, c7, c8, c9⟩ := P6.out.cs.ten
    obtain ⟨z0, z1, z2, z3, z4, z5, z6, z7, z8, z9⟩ := P6.out.cz.ten
    have y0 := P6.out.fz 0
    have y1 := P6.out.fz 1
    have y2 := P6.out.fz 2
    have y3 := P6.out.fz 3
    have y4 := P6.out.fz 4
    have y5 := P6.out.fz 5
    have y6 := P6.out.fz 6
    have y7 := P6.out.fz 7
    have y8 := P6.out.fz 8
    have y9 := P6.out.fz 9
    go_wp2
    refine bodyPost_ret (v := .tuple #[.agg #[.int .i64 (s.sq + 1), .int .i64 s.fe, .slice A7 L.length k7, .slice A5 zs.length k5, .int .i64 s.lo.a, .int .i64 s.lo.b, .int .i64 fi, .int .i64 s.hi.a, .int .i64 s.hi.b, .int .i64 s.hi.c], .bool true]) (by simp [results, Tryz.results25, go_sem, *]) rfl ⟨{ s with sq := s.sq + 1, ents := L, tmbs := zs, lo := ⟨s.lo.a, s.lo.b, fi⟩ }, true, _, _, _, _, .inl ⟨HY.out, HAP.out, rfl⟩, rfl, ?_⟩
    rw [Hx0.out]
    exact apl_end OE6.out OT6.out HNE6.out hy2 b6

end Go.Proofs.YtpfanmcjlfdaiaaGreatDoorR
