/-
  Contracts of SameIngester of both packages: true just where all is alike. Conditions: none beside lengths.
-/
import Derived.Test.YtpfanmcjlfdaiaaIng
namespace Go.Proofs.Ytpfanmcjlfdaiaa
open Go.ChangeShapes Go.WideShapes Go.ChangeAt Go.RowKit Go.Deep Go.Joins
set_option linter.unusedVariables false
set_option linter.unusedSimpArgs false

/-- which of the parts of two ingesters is the first to differ, in the forms that a walk asks -/
theorem ing_cases (s t : GIng) : (s.id = t.id ∧ s.sq = t.sq ∧ s.beg = t.beg ∧ s.fin = t.fin ∧ s.put = t.put) ∨ (s ≠ t ∧ (s.id == t.id) = false) ∨ (s ≠ t ∧ (s.id == t.id) = true ∧ (s.sq == t.sq) = false) ∨ (s ≠ t ∧ (s.id == t.id) = true ∧ (s.sq == t.sq) = true ∧ (s.beg == t.beg) = false) ∨ (s ≠ t ∧ (s.id == t.id) = true ∧ (s.sq == t.sq) = true ∧ (s.beg == t.beg) = true ∧ (s.fin == t.fin) = false) ∨ (s ≠ t ∧ (s.id == t.id) = true ∧ (s.sq == t.sq) = true ∧ (s.beg == t.beg) = true ∧ (s.fin == t.fin) = true ∧ (s.put == t.put) = false) := by
  by_cases h0 : s.id = t.id
  rotate_left
  · exact .inr (.inl ⟨fun e => h0 (by rw [e]), by simpa using h0⟩)
  by_cases h1 : s.sq = t.sq
  rotate_left
  · exact .inr (.inr (.inl ⟨fun e => h1 (by rw [e]), by simpa using h0, by simpa using h1⟩))
  by_cases h2 : s.beg = t.beg
  rotate_left
  · exact .inr (.inr (.inr (.inl ⟨fun e => h2 (by rw [e]), by simpa using h0, by simpa using h1, by simpa using h2⟩)))
  by_cases h3 : s.fin = t.fin
  rotate_left
  · exact .inr (.inr (.inr (.inr (.inl ⟨fun e => h3 (by rw [e]), by simpa using h0, by simpa using h1, by simpa using h2, by simpa using h3⟩))))
  by_cases h4 : s.put = t.put
  rotate_left
  · exact .inr (.inr (.inr (.inr (.inr (⟨fun e => h4 (by rw [e]), by simpa using h0, by simpa using h1, by simpa using h2, by simpa using h3, by revert h4; cases s.put <;> cases t.put <;> simp⟩)))))
  exact .inl ⟨h0, h1, h2, h3, h4⟩

set_option maxRecDepth 100000 in
theorem sameIngester_any (A : Option Addr) (c : Nat) (D : Option Addr) (d : Nat) (s t : GIng) (B : Nat) (w : World) (h : SamsAt w B A s.bat) (k : SamsAt w B D t.bat) (hB : B ≤ w.heap.size) (hl : s.bat.length ≤ 4611686018427387904) (kl : t.bat.length ≤ 4611686018427387904) :
    Calls Try.prog 23 #[.agg #[.int .i64 s.id, .int .i64 s.sq, .int .i64 s.beg, .int .i64 s.fin, .slice A s.bat.length c, .bool s.put], .agg #[.int .i64 t.id, .int .i64 t.sq, .int .i64 t.beg, .int .i64 t.fin, .slice D t.bat.length d, .bool t.put]] w (IsBB (s = t) w) := by
  have Bw : ∀ o1 o2, Below w.heap.size w ((w.alloc o1).alloc o2) := fun o1 o2 => bal (bal (Below.refl _ _) _) _
  have BW := Lib.hid Bw; clear Bw
  have H := Lib.hid h; clear h
  have K := Lib.hid k; clear k
  rcases ing_cases s t with ⟨e0, e1, e2, e3, e4⟩ | ⟨hn, g0⟩ | ⟨hn, g0, g1⟩ | ⟨hn, g0, g1, g2⟩ | ⟨hn, g0, g1, g2, g3⟩ | ⟨hn, g0, g1, g2, g3, g4⟩
  · have HE : Hid (s = t ↔ s.bat = t.bat) := Lib.hid (by
      constructor
      · rintro rfl; rfl
      · rintro e5; clear H K; cases s; cases t; simp_all)
    obtain ⟨id, sq, beg, fin, bat, put⟩ := s
    obtain ⟨id', sq', beg', fin', bat', put'⟩ := t
    dsimp only at *
    subst e0 e1 e2 e3 e4
    have r4 : (put == put) = true := by simp
    have r5 : (put != put) = false := by simp
    go_enter Try.func23, Try.ntmps23
    go_wp2_with fail
    refine (slicesEqSam_any A D c d bat bat' B _ (Sl.below H.out (BW.out _ _) hB) (Sl.below K.out (BW.out _ _) hB) (by simp; omega) hl kl).mono ?_
    rintro e w1 ⟨b1, hb1, rfl, hB1⟩
    have hbw : Below w.heap.size w w1 := (BW.out _ _).trans (hB1.mono (by simp <;> omega))
    have HF : Hid (b1 = true ↔ bat = bat') := Lib.hid hb1
    clear hb1 hB1
    go_wp2
    go_ret
    exact ⟨b1, by rw [HE.out]; exact HF.out, rfl, hbw⟩
  · clear H K
    have n0 : (s.id != t.id) = true := by simp [bne, g0]
    have Hn := Lib.hid hn; clear hn
    go_enter Try.func23, Try.ntmps23
    go_wp2
    go_ret
    exact ⟨false, by simp [Hn.out], rfl, BW.out _ _⟩
  · clear H K
    have n0 : (s.id != t.id) = false := by simp [bne, g0]
    have n1 : (s.sq != t.sq) = true := by simp [bne, g1]
    have Hn := Lib.hid hn; clear hn
    go_enter Try.func23, Try.ntmps23
    go_wp2
    go_ret
    exact ⟨false, by simp [Hn.out], rfl, BW.out _ _⟩
  · clear H K
    have n0 : (s.id != t.id) = false := by simp [bne, g0]
    have n1 : (s.sq != t.sq) = false := by simp [bne, g1]
    have n2 : (s.beg != t.beg) = true := by simp [bne, g2]
    have Hn := Lib.hid hn; clear hn
    go_enter Try.func23, Try.ntmps23
    go_wp2
    go_ret
    exact ⟨false, by simp [Hn.out], rfl, BW.out _ _⟩
  · clear H K
    have n0 : (s.id != t.id) = false := by simp [bne, g0]
    have n1 : (s.sq != t.sq) = false := by simp [bne, g1]
    have n2 : (s.beg != t.beg) = false := by simp [bne, g2]
    have n3 : (s.fin != t.fin) = true := by simp [bne, g3]
    have Hn := Lib.hid hn; clear hn
    go_enter Try.func23, Try.ntmps23
    go_wp2
    go_ret
    exact ⟨false, by simp [Hn.out], rfl, BW.out _ _⟩
  · clear H K
    have n0 : (s.id != t.id) = false := by simp [bne, g0]
    have n1 : (s.sq != t.sq) = false := by simp [bne, g1]
    have n2 : (s.beg != t.beg) = false := by simp [bne, g2]
    have n3 : (s.fin != t.fin) = false := by simp [bne, g3]
    have n4 : (s.put != t.put) = true := by simp [bne, g4]
    have Hn := Lib.hid hn; clear hn
    go_enter Try.func23, Try.ntmps23
    go_wp2
    go_ret
    exact ⟨false, by simp [Hn.out], rfl, BW.out _ _⟩

set_option maxRecDepth 100000 in
set_option maxHeartbeats 2000000 in
theorem specSameIngester_any (A : Option Addr) (c : Nat) (D : Option Addr) (d : Nat) (s t : GIng) (B : Nat) (w : World) (h : SamsAt w B A s.bat) (k : SamsAt w B D t.bat) (hB : B ≤ w.heap.size) (hl : s.bat.length ≤ 4611686018427387904) (kl : t.bat.length ≤ 4611686018427387904) :
    Calls Try.prog 22 #[.agg #[.int .i64 s.id, .int .i64 s.sq, .int .i64 s.beg, .int .i64 s.fin, .slice A s.bat.length c, .bool s.put], .agg #[.int .i64 t.id, .int .i64 t.sq, .int .i64 t.beg, .int .i64 t.fin, .slice D t.bat.length d, .bool t.put]] w (IsBB (s = t) w) := by
  have Bw : ∀ o1 o2, Below w.heap.size w ((w.alloc o1).alloc o2) := fun o1 o2 => bal (bal (Below.refl _ _) _) _
  have BW := Lib.hid Bw; clear Bw
  have H := Lib.hid h; clear h
  have K := Lib.hid k; clear k
  rcases ing_cases s t with ⟨e0, e1, e2, e3, e4⟩ | ⟨hn, g0⟩ | ⟨hn, g0, g1⟩ | ⟨hn, g0, g1, g2⟩ | ⟨hn, g0, g1, g2, g3⟩ | ⟨hn, g0, g1, g2, g3, g4⟩
  · have HE : Hid (s = t ↔ s.bat = t.bat) := Lib.hid (by
      constructor
      · rintro rfl; rfl
      · rintro e5; clear H K; cases s; cases t; simp_all)
    obtain ⟨id, sq, beg, fin, bat, put⟩ := s
    obtain ⟨id', sq', beg', fin', bat', put'⟩ := t
    dsimp only at *
    subst e0 e1 e2 e3 e4
    have r4 : (put == put) = true := by simp
    have r5 : (put != put) = false := by simp
    by_cases l0 : bat.length = bat'.length
    rotate_left
    · have u0 : ((bat.length : Int) != (bat'.length : Int)) = true := by simp; omega
      have u1 : ((bat.length : Int) == (bat'.length : Int)) = false := by simp; omega
      have Hn : Hid (¬ (bat = bat')) := Lib.hid (fun h => l0 (by rw [h]))
      clear l0 H K
      go_enter Try.func22, Try.ntmps22
      go_wp2
      go_ret
      exact ⟨false, by rw [HE.out]; simp [Hn.out], rfl, BW.out _ _⟩
    have u0 : ((bat.length : Int) != (bat'.length : Int)) = false := by simp; omega
    have u1 : ((bat.length : Int) == (bat'.length : Int)) = true := by simp; omega
    have HLE := Lib.hid l0
    clear l0
    go_enter Try.func22, Try.ntmps22
    go_wp2_with fail
    obtain ⟨W, hW⟩ : ∃ W, W = (w.alloc (.cells #[.int .i64 id, .int .i64 sq, .int .i64 beg, .int .i64 fin, .slice A bat.length c, .bool put] 24)).alloc (.cells #[.int .i64 id, .int .i64 sq, .int .i64 beg, .int .i64 fin, .slice D bat'.length d, .bool put] 24) := ⟨_, rfl⟩
    have ca : Cells W w.heap.size 0 [.int .i64 id, .int .i64 sq, .int .i64 beg, .int .i64 fin, .slice A bat.length c, .bool put] := by
      rw [hW]
      exact (Cells.new w _ _).below (bal (Below.refl _ _) _) (by simp)
    have cb : Cells W (w.heap.size + 1) 0 [.int .i64 id, .int .i64 sq, .int .i64 beg, .int .i64 fin, .slice D bat'.length d, .bool put] := by
      rw [hW]
      have := Cells.new (w.alloc (.cells #[.int .i64 id, .int .i64 sq, .int .i64 beg, .int .i64 fin, .slice A bat.length c, .bool put] 24)) [.int .i64 id, .int .i64 sq, .int .i64 beg, .int .i64 fin, .slice D bat'.length d, .bool put] 24
      simpa using this
    have hs : w.heap.size + 2 ≤ W.heap.size := by rw [hW]; simp
    have HB : Hid (∀ wr, Below W.heap.size W wr → Below w.heap.size w wr) := Lib.hid (fun wr h => by
      refine Below.trans ?_ (h.mono (by omega))
      rw [hW]
      exact BW.out _ _)
    rw [← hW]
    clear hW BW r4 r5
    have CA := Lib.hid ca; have CB := Lib.hid cb; clear ca cb
    have hB0 : Hid (B ≤ w.heap.size) := Lib.hid hB
    clear hB
    generalize hx0 : w.heap.size = x0 at *
    have Hx0 := Lib.hid hx0; clear hx0
    go_loopw [5] (fun i wr => ∃ k : Nat, k ≤ bat.length ∧ i = .int .i64 k ∧ Hid (bat.take k = bat'.take k) ∧ Below W.heap.size W wr) (fun i _ => bat.length - (intOf i).toNat)
    case atStart => exact ⟨0, by omega, rfl, Lib.hid (by simp), Below.refl _ _⟩
    case round =>
      obtain ⟨k, hk, rfl, HH, hb⟩ := hrel
      have c0 : wr.cell? ⟨x0, 4, none⟩ = some (.slice A bat.length c) := by have := (CA.out.below hb (by omega)) 4 _ rfl; simpa using this
      have c1 : wr.cell? ⟨x0 + 1, 4, none⟩ = some (.slice D bat'.length d) := by have := (CB.out.below hb (by omega)) 4 _ rfl; simpa using this
      by_cases hlt : k < bat.length
      · have hy : k < bat'.length := by have := HLE.out; omega
        obtain ⟨b1, o1, rfl, hb1, p0, p1⟩ := SamsAt.one (Sl.below (H.out) (HB.out _ hb) hB0.out) hlt
        obtain ⟨b2, o2, rfl, hb2, q0, q1⟩ := SamsAt.one (Sl.below (K.out) (HB.out _ hb) hB0.out) hy
        rcases sam_cases bat[k] bat'[k] with he | ⟨he, f0⟩ | ⟨he, f0, f1⟩
        · have hn : bat.take (k + 1) = bat'.take (k + 1) := by
            rw [List.take_succ_eq_append_getElem hlt, List.take_succ_eq_append_getElem hy, HH.out, he]
          have Hn := Lib.hid hn; clear hn
          rw [← he] at q0 q1
          clear he
          go_wp2_with fail
          go_quiet (fail)
          go_wp2
          go_roundw
          case rel => exact ⟨k + 1, by omega, by go_num, Hn, bdrewNS hb _⟩
          case measure => simp [intOf]; omega
        · have Hn : Hid (¬ (bat = bat')) := Lib.hid (fun h => he (by simp [h]))
          clear he
          go_wp2_with fail
          go_quiet (fail)
          go_wp2
          go_ret
          exact ⟨false, by rw [HE.out]; simp [Hn.out], rfl, by rw [Hx0.out]; exact bdrewNS (HB.out _ hb) _⟩
        · have Hn : Hid (¬ (bat = bat')) := Lib.hid (fun h => he (by simp [h]))
          clear he
          go_wp2_with fail
          go_quiet (fail)
          go_wp2
          go_ret
          exact ⟨false, by rw [HE.out]; simp [Hn.out], rfl, by rw [Hx0.out]; exact bdrewNS (HB.out _ hb) _⟩
      · have hyes : bat = bat' := by
          have h1 := HH.out
          have h2 := HLE.out
          rw [List.take_of_length_le (by omega), List.take_of_length_le (by omega)] at h1
          exact h1
        have Hy := Lib.hid hyes; clear hyes
        go_wp2
        go_ret
        exact ⟨true, by rw [HE.out]; simp [Hy.out], rfl, by rw [Hx0.out]; exact HB.out _ hb⟩
  · clear H K
    have n0 : (s.id != t.id) = true := by simp [bne, g0]
    have Hn := Lib.hid hn; clear hn
    go_enter Try.func22, Try.ntmps22
    go_wp2
    go_ret
    exact ⟨false, by simp [Hn.out], rfl, BW.out _ _⟩
  · clear H K
    have n0 : (s.id != t.id) = false := by simp [bne, g0]
    have n1 : (s.sq != t.sq) = true := by simp [bne, g1]
    have Hn := Lib.hid hn; clear hn
    go_enter Try.func22, Try.ntmps22
    go_wp2
    go_ret
    exact ⟨false, by simp [Hn.out], rfl, BW.out _ _⟩
  · clear H K
    have n0 : (s.id != t.id) = false := by simp [bne, g0]
    have n1 : (s.sq != t.sq) = false := by simp [bne, g1]
    have n2 : (s.beg != t.beg) = true := by simp [bne, g2]
    have Hn := Lib.hid hn; clear hn
    go_enter Try.func22, Try.ntmps22
    go_wp2
    go_ret
    exact ⟨false, by simp [Hn.out], rfl, BW.out _ _⟩
  · clear H K
    have n0 : (s.id != t.id) = false := by simp [bne, g0]
    have n1 : (s.sq != t.sq) = false := by simp [bne, g1]
    have n2 : (s.beg != t.beg) = false := by simp [bne, g2]
    have n3 : (s.fin != t.fin) = true := by simp [bne, g3]
    have Hn := Lib.hid hn; clear hn
    go_enter Try.func22, Try.ntmps22
    go_wp2
    go_ret
    exact ⟨false, by simp [Hn.out], rfl, BW.out _ _⟩
  · clear H K
    have n0 : (s.id != t.id) = false := by simp [bne, g0]
    have n1 : (s.sq != t.sq) = false := by simp [bne, g1]
    have n2 : (s.beg != t.beg) = false := by simp [bne, g2]
    have n3 : (s.fin != t.fin) = false := by simp [bne, g3]
    have n4 : (s.put != t.put) = true := by simp [bne, g4]
    have Hn := Lib.hid hn; clear hn
    go_enter Try.func22, Try.ntmps22
    go_wp2
    go_ret
    exact ⟨false, by simp [Hn.out], rfl, BW.out _ _⟩

end Go.Proofs.Ytpfanmcjlfdaiaa
