/-
  Contract of the model's IngesterOK. Conditions: a length.
-/
import Derived.Test.YtpfanmcjlfdaiaaIngI
import Derived.Test.YtpfanmcjlfdaiaaSamOK
namespace Go.Proofs.Ytpfanmcjlfdaiaa
open Go.ChangeShapes Go.WideShapes Go.ChangeAt Go.RowKit Go.Deep Go.Joins
set_option linter.unusedVariables false
set_option linter.unusedSimpArgs false

theorem fT_eq {xs : List GSam} (h : 0 < xs.length) : fT xs = xs[0].t := by simp [fT, h]

theorem lT_eq {xs : List GSam} {n : Nat} (h : xs.length = n + 1) : lT xs = (xs[n]'(by omega)).t := by simp [lT, h]

set_option maxRecDepth 100000 in
set_option maxHeartbeats 2000000 in
theorem specIngesterOK_any (A : Option Addr) (c : Nat) (s : GIng) (B : Nat) (w : World) (h : SamsAt w B A s.bat) (hB : B ≤ w.heap.size) (hl : s.bat.length ≤ 1048576) :
    Calls Try.prog 13 #[.agg #[.int .i64 s.id, .int .i64 s.sq, .int .i64 s.beg, .int .i64 s.fin, .slice A s.bat.length c, .bool s.put]] w (IsBB (IngP s) w) := by
  obtain ⟨id, sq, beg, fin, bat, put⟩ := s
  dsimp only at *
  have H := Lib.hid h; clear h
  cases d : inB id 0 9
  · have HD := Lib.hid d; clear d
    have Hn : Hid (¬ IngP ⟨id, sq, beg, fin, bat, put⟩) := Lib.hid (fun h => by have := h.1; dsimp only at this; rw [HD.out] at this; cases this)
    go_enter Try.func13, Try.ntmps13
    go_wp2_with fail
    refine (inL_any id 0 9 _).mono ?_
    rintro e w1 ⟨rfl, rfl⟩
    rw [HD.out]
    go_wp2
    go_ret
    exact ⟨false, by simp [Hn.out], rfl, bal (Below.refl _ _) _⟩
  have HD := Lib.hid d; clear d
  go_enter Try.func13, Try.ntmps13
  go_wp2_with fail
  refine (inL_any id 0 9 _).mono ?_
  rintro e w1 ⟨rfl, rfl⟩
  rw [HD.out]
  go_wp2_with fail
  obtain ⟨W, hW⟩ : ∃ W, W = w.alloc (.cells #[.int .i64 id, .int .i64 sq, .int .i64 beg, .int .i64 fin, .slice A bat.length c, .bool put] 24) := ⟨_, rfl⟩
  have ca : Cells W w.heap.size 0 [.int .i64 id, .int .i64 sq, .int .i64 beg, .int .i64 fin, .slice A bat.length c, .bool put] := by rw [hW]; exact Cells.new w _ _
  have b0 : Below w.heap.size w W := by rw [hW]; exact bal (Below.refl _ _) _
  have s0 : w.heap.size < W.heap.size := by rw [hW]; simp
  rw [← hW]
  clear hW
  have CA := Lib.hid ca; clear ca
  refine (specSamplesOK_any A c bat B W (Sl.below H.out b0 hB) (Nat.le_trans hB b0.size) hl).mono ?_
  rintro e w2 ⟨bb, hbb, rfl, hb2⟩
  have b2 : Below w.heap.size w w2 := bnext b0 hb2
  have ca2 := CA.out.below hb2 s0
  have p0 := ca2 0 _ rfl
  have p1 := ca2 1 _ rfl
  have p2 := ca2 2 _ rfl
  have p3 := ca2 3 _ rfl
  have p4 := ca2 4 _ rfl
  have p5 := ca2 5 _ rfl
  simp only [Nat.zero_add] at p0 p1 p2 p3 p4 p5
  clear CA hb2 b0 s0
  cases bb
  · have Hn : Hid (¬ IngP ⟨id, sq, beg, fin, bat, put⟩) := Lib.hid (fun h => by have := hbb.2 h.2.2.1; cases this)
    clear hbb
    go_wp2
    go_ret
    exact ⟨false, by simp [Hn.out], rfl, b2⟩
  have HS : Hid (SamP bat) := Lib.hid (hbb.1 rfl)
  clear hbb
  by_cases h8 : bat.length ≤ 8
  rotate_left
  · have u8 : decide ((bat.length : Int) > 8) = true := by simp; omega
    have u9 : decide (8 < (bat.length : Int)) = true := by simp; omega
    have Hn : Hid (¬ IngP ⟨id, sq, beg, fin, bat, put⟩) := Lib.hid (fun h => h8 h.2.1)
    go_wp2
    go_ret
    exact ⟨false, by simp [Hn.out], rfl, b2⟩
  have u8 : decide ((bat.length : Int) > 8) = false := by simp; omega
  have u9 : decide (8 < (bat.length : Int)) = false := by simp; omega
  cases put
  · by_cases e1 : sq = 0
    rotate_left
    · have r1 : (sq == 0) = false := by simpa using e1
      have Hn : Hid (¬ IngP ⟨id, sq, beg, fin, bat, false⟩) := Lib.hid (by rintro ⟨_, _, _, ⟨_, h, _⟩ | ⟨h, _⟩⟩; (· exact e1 h); (· cases h))
      clear e1
      go_wp2
      go_ret
      exact ⟨false, by simp [Hn.out], rfl, b2⟩
    have r1 : (sq == 0) = true := by simpa using e1
    by_cases e2 : beg = 0
    rotate_left
    · have r2 : (beg == 0) = false := by simpa using e2
      have Hn : Hid (¬ IngP ⟨id, sq, beg, fin, bat, false⟩) := Lib.hid (by rintro ⟨_, _, _, ⟨_, _, h, _⟩ | ⟨h, _⟩⟩; (· exact e2 h); (· cases h))
      clear e1 e2
      go_wp2
      go_ret
      exact ⟨false, by simp [Hn.out], rfl, b2⟩
    have r2 : (beg == 0) = true := by simpa using e2
    have Hi : Hid ((fin == 0) = true ↔ IngP ⟨id, sq, beg, fin, bat, false⟩) := Lib.hid (by
      constructor
      · intro h
        exact ⟨HD.out, h8, HS.out, .inl ⟨rfl, e1, e2, by simpa using h⟩⟩
      · rintro ⟨_, _, _, ⟨_, _, _, h⟩ | ⟨h, _⟩⟩
        · simpa using h
        · cases h)
    clear e1 e2
    go_wp2
    go_ret
    exact ⟨_, Hi.out, rfl, b2⟩
  by_cases h0 : 0 < bat.length
  rotate_left
  · have u1 : decide ((bat.length : Int) > 0) = false := decide_eq_false (by omega)
    have u2 : decide (0 < (bat.length : Int)) = false := decide_eq_false (by omega)
    have Hn : Hid (¬ IngP ⟨id, sq, beg, fin, bat, true⟩) := Lib.hid (by rintro ⟨_, _, _, ⟨h, _⟩ | ⟨_, h, _⟩⟩; (· cases h); (· exact h0 h))
    go_wp2_with fail
    go_quiet (fail)
    go_wp2
    go_ret
    exact ⟨false, by simp [Hn.out], rfl, bdrewNS b2 _⟩
  have u1 : decide ((bat.length : Int) > 0) = true := decide_eq_true (by omega)
  have u2 : decide (0 < (bat.length : Int)) = true := decide_eq_true (by omega)
  obtain ⟨n, hn⟩ : ∃ n, bat.length = n + 1 := ⟨bat.length - 1, by omega⟩
  obtain ⟨b, o, rfl, hb, k0, kv0⟩ := SamsAt.one (Sl.below H.out b2 hB) h0
  obtain ⟨b', o', e', hb', k1, kv1⟩ := SamsAt.one (Sl.below H.out b2 hB) (k := n) (by omega)
  obtain ⟨rfl, rfl⟩ : b = b' ∧ o = o' := by injection e' with e'; injection e' with e1 e2; exact ⟨e1, e2⟩
  rw [← fT_eq h0] at k0
  rw [← lT_eq hn] at k1
  have HT := inB_iff.1 (lT_in HS.out h0)
  have x1 : wrap64 ((n : Int) + 1 - 1) = n := by unfold wrap64; omega
  have x5 : wrap64 (n : Int) = n := by unfold wrap64; omega
  have x2 : wrap64 (lT bat + 1) = lT bat + 1 := by unfold wrap64; omega
  have x3 : (n : Int) < (n : Int) + 1 := by omega
  have x4 : (0 : Int) < (n : Int) + 1 := by omega
  have u3 : decide ((n : Int) + 1 > 0) = true := decide_eq_true (by omega)
  have u4 : decide (0 < (n : Int) + 1) = true := decide_eq_true (by omega)
  have u5 : decide (8 < (n : Int) + 1) = false := decide_eq_false (by omega)
  have u6 : decide ((n : Int) + 1 > 8) = false := decide_eq_false (by omega)
  rw [hn] at p4
  clear u1 u2 u8 u9 ca2
  have Hn0 := Lib.hid hn
  clear kv0 kv1 hb' hn e'
  simp only [Nat.zero_mul, Nat.add_zero] at k0
  cases c1 : inB sq 1 999999
  · have Hn : Hid (¬ IngP ⟨id, sq, beg, fin, bat, true⟩) := Lib.hid (by rintro ⟨_, _, _, ⟨h, _⟩ | ⟨_, _, h, _⟩⟩; (· cases h); (· dsimp only at h; rw [c1] at h; cases h))
    go_wp2_with fail
    go_quiet (first | (go_at_call 24; refine Calls.quiet_of_same ((inL_any _ _ _ _).mono (fun e w' h => ⟨h.1, h.2.symm⟩))))
    go_wp2
    go_ret
    exact ⟨false, by simp [Hn.out], rfl, bdrewNS b2 _⟩
  cases c2 : inB beg 0 (fT bat)
  · have Hn : Hid (¬ IngP ⟨id, sq, beg, fin, bat, true⟩) := Lib.hid (by rintro ⟨_, _, _, ⟨h, _⟩ | ⟨_, _, _, h, _⟩⟩; (· cases h); (· dsimp only at h; rw [c2] at h; cases h))
    go_wp2_with fail
    go_quiet (first | (go_at_call 24; refine Calls.quiet_of_same ((inL_any _ _ _ _).mono (fun e w' h => ⟨h.1, h.2.symm⟩))))
    go_wp2
    go_ret
    exact ⟨false, by simp [Hn.out], rfl, bdrewNS b2 _⟩
  have Hi : Hid ((fin == lT bat + 1) = true ↔ IngP ⟨id, sq, beg, fin, bat, true⟩) := Lib.hid (by
    constructor
    · intro h
      exact ⟨HD.out, h8, HS.out, .inr ⟨rfl, h0, c1, c2, by simpa using h⟩⟩
    · rintro ⟨_, _, _, ⟨h, _⟩ | ⟨_, _, _, _, h⟩⟩
      · cases h
      · simpa using h)
  go_wp2_with fail
  go_quiet (first | (go_at_call 24; refine Calls.quiet_of_same ((inL_any _ _ _ _).mono (fun e w' h => ⟨h.1, h.2.symm⟩))))
  go_wp2
  go_ret
  exact ⟨_, Hi.out, rfl, bdrewNS b2 _⟩

end Go.Proofs.Ytpfanmcjlfdaiaa
