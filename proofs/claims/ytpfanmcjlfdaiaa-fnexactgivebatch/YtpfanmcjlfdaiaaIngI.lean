/-
  What makes an ingester right, and contracts of the program's batch, first, end, right and IngesterOK. Conditions: a length.
-/
import Derived.Test.YtpfanmcjlfdaiaaNewI
import Derived.Test.YtpfanmcjlfdaiaaCloS
import Derived.Test.YtpfanmcjlfdaiaaSamImpl
import Derived.Deep.RegionHeld3
import Derived.Deep.QuietTactic
namespace Go.Proofs.Ytpfanmcjlfdaiaa
open Go.ChangeShapes Go.WideShapes Go.ChangeAt Go.RowKit Go.Deep Go.Joins
set_option linter.unusedVariables false
set_option linter.unusedSimpArgs false

/-- the first time of a batch, and its last one -/
def fT (xs : List GSam) : Int := if h : 0 < xs.length then xs[0].t else 0

def lT (xs : List GSam) : Int := if h : 0 < xs.length then (xs[xs.length - 1]'(by omega)).t else 0

/-- an ingester is right -/
def IngP (g : GIng) : Prop := inB g.id 0 9 = true ∧ g.bat.length ≤ 8 ∧ SamP g.bat ∧ ((g.put = false ∧ g.sq = 0 ∧ g.beg = 0 ∧ g.fin = 0) ∨ (g.put = true ∧ 0 < g.bat.length ∧ inB g.sq 1 999999 = true ∧ inB g.beg 0 (fT g.bat) = true ∧ g.fin = lT g.bat + 1))

theorem batFirst_any (A : Option Addr) (c : Nat) (xs : List GSam) (B p : Nat) (i1 i2 : Int) (w : World) (h : SamsAt w B A xs) (h0 : 0 < xs.length) (hp : Cells w p 0 [.slice A xs.length c, .int .i64 i1, .int .i64 i2]) :
    Calls Try.prog 39 #[.pointer (some ⟨p, 0, none⟩)] w fun e w' => e = .returned (.int .i64 (fT xs)) ∧ w' = w := by
  obtain ⟨b, o, rfl, hq, q0, hr⟩ := SamsAt.one h h0
  have p0 := hp 0 _ rfl
  have e0 : fT xs = xs[0].t := by simp [fT, h0]
  rw [e0]
  simp only [Nat.zero_add, Nat.zero_mul, Nat.add_zero] at p0 q0
  clear h hp e0 hr hq
  generalize xs[0].t = t at *
  generalize xs.length = n at *
  have hi : (0 : Int) < n := by omega
  go_enter Try.func39, Try.ntmps39
  go_wp2
  go_ret
  exact ⟨rfl, rfl⟩

theorem batEnd_any (A : Option Addr) (c : Nat) (xs : List GSam) (B p : Nat) (i1 i2 : Int) (w : World) (h : SamsAt w B A xs) (h0 : 0 < xs.length) (hl : xs.length ≤ 1048576) (ht : inB (lT xs) 0 99999 = true) (hp : Cells w p 0 [.slice A xs.length c, .int .i64 i1, .int .i64 i2]) :
    Calls Try.prog 40 #[.pointer (some ⟨p, 0, none⟩)] w fun e w' => e = .returned (.int .i64 (lT xs + 1)) ∧ ∃ m, w' = w.drewN m := by
  obtain ⟨n, hn⟩ : ∃ n, xs.length = n + 1 := ⟨xs.length - 1, by omega⟩
  obtain ⟨b, o, rfl, hq, q0, hr⟩ := SamsAt.one h (k := n) (by omega)
  have p0 := hp 0 _ rfl
  have e0 : lT xs = xs[n].t := by simp [lT, h0, hn]
  rw [e0] at ht ⊢
  simp only [Nat.zero_add] at p0
  have ht' := inB_iff.1 ht
  clear h hp e0 ht
  generalize xs[n].t = t at *
  rw [hn] at p0
  have hnl : n ≤ 1048576 := by omega
  clear hr hq hn h0 hl
  have c1 : wrap64 (((n + 1 : Nat) : Int) - 1) = n := by unfold wrap64; omega
  have c2 : wrap64 (t + 1) = t + 1 := by unfold wrap64; omega
  have hi : (n : Int) < ((n + 1 : Nat) : Int) := by omega
  go_enter Try.func40, Try.ntmps40
  go_wp2_with fail
  go_quiet (fail)
  go_wp2
  go_ret
  exact ⟨rfl, _, rfl⟩

theorem own_monoI {α : Type} {f : α → List Value} {m : Nat} {e : TypeId} {base base' : Nat} {w : World} {v : Value} {xs : List α} (h : OwnSl f m e base w v xs) (hb : base' ≤ base) : OwnSl f m e base' w v xs := by
  refine ⟨h.1, ?_⟩
  rcases h.2 with h0 | ⟨g, cap, cur, e1, h1, h2⟩
  · exact .inl h0
  · exact .inr ⟨g, cap, cur, e1, Nat.le_trans hb h1, h2⟩

/-- what batch answers: nothing, or a box in new memory with a copy of the samples -/
def BatEnd (s : GIng) (w : World) (e : Ending) (w' : World) : Prop :=
  Below w.heap.size w w' ∧ ((s.bat = [] ∧ e = .returned (.pointer none)) ∨ (0 < s.bat.length ∧ ∃ (p : Nat) (A' : Option Addr) (c' : Nat), e = .returned (.pointer (some ⟨p, 0, none⟩)) ∧ Cells w' p 0 [.slice A' s.bat.length c', .int .i64 s.sq, .int .i64 s.beg] ∧ (∀ i, w'.frozen? ⟨p, i, none⟩ = false) ∧ OwnSl GSam.vals 2 47 w.heap.size w' (.slice A' s.bat.length c') s.bat ∧ w.heap.size ≤ p ∧ p < w'.heap.size ∧ blk A' ≠ some p))

set_option maxRecDepth 100000 in
theorem ingBatch_any (A : Option Addr) (c : Nat) (s : GIng) (B : Nat) (w : World) (h : SamsAt w B A s.bat) (hB : B ≤ w.heap.size) (hl : s.bat.length ≤ 1048576) :
    Calls Try.prog 38 #[.agg #[.int .i64 s.id, .int .i64 s.sq, .int .i64 s.beg, .int .i64 s.fin, .slice A s.bat.length c, .bool s.put]] w (BatEnd s w) := by
  have H := Lib.hid h; clear h
  by_cases h0 : s.bat.length = 0
  · have e0 : s.bat = [] := List.length_eq_zero_iff.1 h0
    have d : ((s.bat.length : Int) == 0) = true := by simp [h0]
    have HE := Lib.hid e0; clear e0 h0 H
    go_enter Try.func38, Try.ntmps38
    go_wp2
    go_ret
    exact ⟨bal (Below.refl _ _) _, .inl ⟨HE.out, rfl⟩⟩
  have d : ((s.bat.length : Int) == 0) = false := beq_false_of_ne (by omega)
  have h1 : 0 < s.bat.length := by omega
  clear h0
  go_enter Try.func38, Try.ntmps38
  go_wp2_with fail
  obtain ⟨W, hW⟩ : ∃ W, W = w.alloc (.cells #[.int .i64 s.id, .int .i64 s.sq, .int .i64 s.beg, .int .i64 s.fin, .slice A s.bat.length c, .bool s.put] 24) := ⟨_, rfl⟩
  have ca : Cells W w.heap.size 0 [.int .i64 s.id, .int .i64 s.sq, .int .i64 s.beg, .int .i64 s.fin, .slice A s.bat.length c, .bool s.put] := by rw [hW]; exact Cells.new w _ _
  have b0 : Below w.heap.size w W := by rw [hW]; exact bal (Below.refl _ _) _
  have s0 : w.heap.size < W.heap.size := by rw [hW]; simp
  rw [← hW]
  clear hW
  have q1 := ca 1 _ rfl
  have q2 := ca 2 _ rfl
  have q4 := ca 4 _ rfl
  simp only [Nat.zero_add] at q1 q2 q4
  have CA := Lib.hid ca; clear ca
  go_region_held3 (fun w' => w'.cell? ⟨w.heap.size, 1, none⟩ = some (.int .i64 s.sq) ∧ w'.cell? ⟨w.heap.size, 2, none⟩ = some (.int .i64 s.beg) ∧ w'.cell? ⟨w.heap.size, 4, none⟩ = some (.slice A s.bat.length c))
    (first | exact ⟨q1, q2, q4⟩ | exact ⟨(hb1.cell (p := ⟨w.heap.size, 1, none⟩) s0).trans q1, (hb1.cell (p := ⟨w.heap.size, 2, none⟩) s0).trans q2, (hb1.cell (p := ⟨w.heap.size, 4, none⟩) s0).trans q4⟩ | (go_keep; done))
    (first | (go_at_call 34; refine (cloneSam_any A c s.bat B W.drew (by exact Sl.below H.out b0.drew hB) (by exact Nat.le_trans hB b0.size) hl).mono ?_; rintro e w1 ⟨A1, c1, rfl, ho1, hb1'⟩; have HO1 := Lib.hid ho1; clear ho1; have hb1 : Below W.heap.size W w1 := (Below.refl _ _).drew.trans hb1'; clear hb1'))
  have bb : Below w.heap.size w (w1.alloc (.cells #[.slice A1 s.bat.length c1, .int .i64 s.sq, .int .i64 s.beg] 60)) := (b0.trans (hb1.mono (Nat.le_of_lt s0))).alloc (by have := hb1.size; omega) _
  have hlt := World.ownsRow.lt HO1.out
  have hd : W.drew.heap.size = W.heap.size := rfl
  have sz : w.heap.size ≤ w1.heap.size := by have := hb1.size; omega
  go_wp2
  go_ret
  refine ⟨bb, .inr ⟨h1, w1.heap.size, A1, c1, rfl, Cells.new w1 _ _, fun i => by simp [go_sem], ?_, sz, by simp, ?_⟩⟩
  · exact own_monoI (World.ownsRow.alloc HO1.out _) (by have := b0.size; omega)
  · intro e
    have := hlt _ (by rw [ownBlock_blk]; exact e)
    omega

theorem lT_in {xs : List GSam} (h : SamP xs) (h0 : 0 < xs.length) : inB (lT xs) 0 99999 = true := by
  obtain ⟨n, hn⟩ : ∃ n, xs.length = n + 1 := ⟨xs.length - 1, by omega⟩
  have h1 := (h.2 n (by omega) (by omega)).1
  have e : lT xs = (xs[n]'(by omega)).t := by simp [lT, h0, hn]
  have := samB_iff.1 h1
  rw [e]
  exact inB_iff.2 ⟨this.1, this.2.1⟩

set_option maxRecDepth 100000 in
set_option maxHeartbeats 2000000 in
theorem ingRight_any (A : Option Addr) (c : Nat) (s : GIng) (B : Nat) (w : World) (h : SamsAt w B A s.bat) (hB : B ≤ w.heap.size) (hl : s.bat.length ≤ 1048576) :
    Calls Try.prog 28 #[.agg #[.int .i64 s.id, .int .i64 s.sq, .int .i64 s.beg, .int .i64 s.fin, .slice A s.bat.length c, .bool s.put]] w (IsBB (IngP s) w) := by
  obtain ⟨id, sq, beg, fin, bat, put⟩ := s
  dsimp only at *
  have H := Lib.hid h; clear h
  cases d : inB id 0 9
  · have HD := Lib.hid d; clear d
    have Hn : Hid (¬ IngP ⟨id, sq, beg, fin, bat, put⟩) := Lib.hid (fun h => by have := h.1; dsimp only at this; rw [HD.out] at this; cases this)
    go_enter Try.func28, Try.ntmps28
    go_wp2_with fail
    refine (isIdI_any id _).mono ?_
    rintro e w1 ⟨rfl, rfl⟩
    rw [HD.out]
    go_wp2
    go_ret
    exact ⟨false, by simp [Hn.out], rfl, bal (Below.refl _ _) _⟩
  have HD := Lib.hid d; clear d
  by_cases h8 : bat.length ≤ 8
  rotate_left
  · have u8 : decide ((bat.length : Int) > 8) = true := by simp; omega
    have u9 : decide (8 < (bat.length : Int)) = true := by simp; omega
    have Hn : Hid (¬ IngP ⟨id, sq, beg, fin, bat, put⟩) := Lib.hid (fun h => h8 h.2.1)
    go_enter Try.func28, Try.ntmps28
    go_wp2_with fail
    refine (isIdI_any id _).mono ?_
    rintro e w1 ⟨rfl, rfl⟩
    rw [HD.out]
    go_wp2
    go_ret
    exact ⟨false, by simp [Hn.out], rfl, bal (Below.refl _ _) _⟩
  have u8 : decide ((bat.length : Int) > 8) = false := by simp; omega
  have u9 : decide (8 < (bat.length : Int)) = false := by simp; omega
  go_enter Try.func28, Try.ntmps28
  go_wp2_with fail
  refine (isIdI_any id _).mono ?_
  rintro e w1 ⟨rfl, rfl⟩
  rw [HD.out]
  go_wp2_with fail
  obtain ⟨W, hW⟩ : ∃ W, W = w.alloc (.cells #[.int .i64 id, .int .i64 sq, .int .i64 beg, .int .i64 fin, .slice A bat.length c, .bool put] 24) := ⟨_, rfl⟩
  have ca : Cells W w.heap.size 0 [.int .i64 id, .int .i64 sq, .int .i64 beg, .int .i64 fin, .slice A bat.length c, .bool put] := by rw [hW]; exact Cells.new w _ _
  have b0 : Below w.heap.size w W := by rw [hW]; exact bal (Below.refl _ _) _
  have s0 : w.heap.size < W.heap.size := by rw [hW]; simp
  rw [← hW]
  clear hW
  have CA := Lib.hid ca; clear ca
  refine (samplesOK_any A c bat B W (Sl.below H.out b0 hB) (Nat.le_trans hB b0.size) hl).mono ?_
  rintro e w2 ⟨bb, hbb, rfl, hb2⟩
  have b2 : Below w.heap.size w w2 := bnext b0 hb2
  have ca2 := CA.out.below hb2 s0
  have p0 := ca2 0 _ rfl
  have p1 := ca2 1 _ rfl
  have p2 := ca2 2 _ rfl
  have p3 := ca2 3 _ rfl
  have p4 := ca2 4 _ rfl
  have p5 := ca2 5 _ rfl
  simp only [Nat.zero_add] at p0 p1 p2 p3 p4 p5
  have CA2 := Lib.hid ca2; clear ca2 CA
  have s2 : w.heap.size < w2.heap.size := Nat.lt_of_lt_of_le s0 hb2.size
  clear hb2 b0 s0
  cases bb
  · have Hn : Hid (¬ IngP ⟨id, sq, beg, fin, bat, put⟩) := Lib.hid (fun h => by have := hbb.2 h.2.2.1; cases this)
    clear hbb
    go_wp2
    go_ret
    exact ⟨false, by simp [Hn.out], rfl, b2⟩
  have HS : Hid (SamP bat) := Lib.hid (hbb.1 rfl)
  clear hbb
  cases put
  · by_cases e1 : sq = 0
    rotate_left
    · have r1 : (sq == 0) = false := by simpa using e1
      have Hn : Hid (¬ IngP ⟨id, sq, beg, fin, bat, false⟩) := Lib.hid (by rintro ⟨_, _, _, ⟨_, h, _⟩ | ⟨h, _⟩⟩; (· exact e1 h); (· cases h))
      clear e1
      go_wp2
      go_ret
      exact ⟨false, by simp [Hn.out], rfl, b2⟩
    have r1 : (sq == 0) = true := by simpa using e1
    by_cases e2 : beg = 0
    rotate_left
    · have r2 : (beg == 0) = false := by simpa using e2
      have Hn : Hid (¬ IngP ⟨id, sq, beg, fin, bat, false⟩) := Lib.hid (by rintro ⟨_, _, _, ⟨_, _, h, _⟩ | ⟨h, _⟩⟩; (· exact e2 h); (· cases h))
      clear e1 e2
      go_wp2
      go_ret
      exact ⟨false, by simp [Hn.out], rfl, b2⟩
    have r2 : (beg == 0) = true := by simpa using e2
    have Hi : Hid ((fin == 0) = true ↔ IngP ⟨id, sq, beg, fin, bat, false⟩) := Lib.hid (by
      constructor
      · intro h
        exact ⟨HD.out, h8, HS.out, .inl ⟨rfl, e1, e2, by simpa using h⟩⟩
      · rintro ⟨_, _, _, ⟨_, _, _, h⟩ | ⟨h, _⟩⟩
        · simpa using h
        · cases h)
    clear e1 e2
    go_wp2
    go_ret
    exact ⟨_, Hi.out, rfl, b2⟩
  go_wp2_with fail
  refine (ingBatch_any A c ⟨id, sq, beg, fin, bat, true⟩ B w2 (Sl.below H.out b2 hB) (Nat.le_trans hB b2.size) hl).mono ?_
  rintro e w3 ⟨hb3, ⟨he, rfl⟩ | ⟨h0, p, A', c', rfl, hp, _, ho, hp1, hp2, _⟩⟩
  · have b3 : Below w.heap.size w w3 := bnext b2 hb3
    dsimp only at he
    have Hn : Hid (¬ IngP ⟨id, sq, beg, fin, bat, true⟩) := Lib.hid (by rintro ⟨_, _, _, ⟨h, _⟩ | ⟨_, h, _⟩⟩; (· cases h); (· dsimp only at h; rw [he] at h; simp at h))
    clear hb3 he p0 p1 p2 p3 p4 p5
    go_wp2_with fail
    go_quiet (fail)
    go_wp2
    go_ret
    exact ⟨false, by simp [Hn.out], rfl, bdrewNS b3 _⟩
  dsimp only at h0 hp ho
  have b3 : Below w.heap.size w w3 := bnext b2 hb3
  have ca3 := CA2.out.below hb3 s2
  have q1 := ca3 1 _ rfl
  have q2 := ca3 2 _ rfl
  have q3 := ca3 3 _ rfl
  simp only [Nat.zero_add] at q1 q2 q3
  obtain ⟨hsl, _, _, _⟩ := OwnSl.sl ho (fun _ => rfl)
  have HSL := Lib.hid hsl; have HP := Lib.hid hp
  have HT := Lib.hid (lT_in HS.out h0)
  clear hsl hp ho hb3 p0 p1 p2 p3 p4 p5 ca3 CA2
  cases c1 : inB sq 1 999999
  · have Hn : Hid (¬ IngP ⟨id, sq, beg, fin, bat, true⟩) := Lib.hid (by rintro ⟨_, _, _, ⟨h, _⟩ | ⟨_, _, h, _⟩⟩; (· cases h); (· dsimp only at h; rw [c1] at h; cases h))
    go_wp2_with fail
    go_quiet (first
      | (go_at_call 32; refine Calls.quiet_of_same ((within_any _ _ _ _).mono (fun e w' h => ⟨h.1, h.2.symm⟩)))
      | (go_at_call 39; refine Calls.quiet_of_same (batFirst_any A' c' bat w3.heap.size p sq beg _ HSL.out h0 HP.out))
      | (go_at_call 40; refine Calls.quiet_of (batEnd_any A' c' bat w3.heap.size p sq beg _ HSL.out h0 hl HT.out HP.out)))
    go_wp2
    go_ret
    exact ⟨false, by simp [Hn.out], rfl, bdrewNS b3 _⟩
  cases c2 : inB beg 0 (fT bat)
  · have Hn : Hid (¬ IngP ⟨id, sq, beg, fin, bat, true⟩) := Lib.hid (by rintro ⟨_, _, _, ⟨h, _⟩ | ⟨_, _, _, h, _⟩⟩; (· cases h); (· dsimp only at h; rw [c2] at h; cases h))
    go_wp2_with fail
    go_quiet (first
      | (go_at_call 32; refine Calls.quiet_of_same ((within_any _ _ _ _).mono (fun e w' h => ⟨h.1, h.2.symm⟩)))
      | (go_at_call 39; refine Calls.quiet_of_same (batFirst_any A' c' bat w3.heap.size p sq beg _ HSL.out h0 HP.out))
      | (go_at_call 40; refine Calls.quiet_of (batEnd_any A' c' bat w3.heap.size p sq beg _ HSL.out h0 hl HT.out HP.out)))
    go_wp2
    go_ret
    exact ⟨false, by simp [Hn.out], rfl, bdrewNS b3 _⟩
  have Hi : Hid ((fin == lT bat + 1) = true ↔ IngP ⟨id, sq, beg, fin, bat, true⟩) := Lib.hid (by
    constructor
    · intro h
      exact ⟨HD.out, h8, HS.out, .inr ⟨rfl, h0, c1, c2, by simpa using h⟩⟩
    · rintro ⟨_, _, _, ⟨h, _⟩ | ⟨_, _, _, _, h⟩⟩
      · cases h
      · simpa using h)
  go_wp2_with fail
  go_quiet (first
      | (go_at_call 32; refine Calls.quiet_of_same ((within_any _ _ _ _).mono (fun e w' h => ⟨h.1, h.2.symm⟩)))
      | (go_at_call 39; refine Calls.quiet_of_same (batFirst_any A' c' bat w3.heap.size p sq beg _ HSL.out h0 HP.out))
      | (go_at_call 40; refine Calls.quiet_of (batEnd_any A' c' bat w3.heap.size p sq beg _ HSL.out h0 hl HT.out HP.out)))
  go_wp2
  go_ret
  exact ⟨_, Hi.out, rfl, bdrewNS b3 _⟩

theorem ingesterOK_any (A : Option Addr) (c : Nat) (s : GIng) (B : Nat) (w : World) (h : SamsAt w B A s.bat) (hB : B ≤ w.heap.size) (hl : s.bat.length ≤ 1048576) :
    Calls Try.prog 15 #[.agg #[.int .i64 s.id, .int .i64 s.sq, .int .i64 s.beg, .int .i64 s.fin, .slice A s.bat.length c, .bool s.put]] w (IsBB (IngP s) w) := by
  have H := Lib.hid h; clear h
  go_enter Try.func15, Try.ntmps15
  go_wp2_with fail
  have bb : Below w.heap.size w (w.alloc (.cells #[.int .i64 s.id, .int .i64 s.sq, .int .i64 s.beg, .int .i64 s.fin, .slice A s.bat.length c, .bool s.put] 24)) := bal (Below.refl _ _) _
  generalize w.alloc (.cells #[.int .i64 s.id, .int .i64 s.sq, .int .i64 s.beg, .int .i64 s.fin, .slice A s.bat.length c, .bool s.put] 24) = W at *
  refine (ingRight_any A c s B W (Sl.below H.out bb hB) (Nat.le_trans hB bb.size) hl).mono ?_
  rintro r w1 ⟨b, hb, rfl, hb1⟩
  have Hb := Lib.hid hb
  have b1 := bnext bb hb1
  clear hb hb1 bb
  go_wp2
  go_ret
  exact ⟨b, Hb.out, rfl, b1⟩

end Go.Proofs.Ytpfanmcjlfdaiaa
