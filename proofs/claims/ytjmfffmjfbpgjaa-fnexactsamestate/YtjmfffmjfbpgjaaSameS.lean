/-
  Contracts of SameState of both packages: true just where all is alike. Conditions: none beside lengths.
-/
import Derived.Test.YtjmfffmjfbpgjaaStt
namespace Go.Proofs.Ytjmfffmjfbpgjaa
open Go.ChangeShapes Go.WideShapes Go.ChangeAt Go.RowKit Go.Deep Go.Joins
set_option linter.unusedVariables false
set_option linter.unusedSimpArgs false

/-- which of the numbers of two states is the first to differ, in the forms that a walk asks -/
theorem stt_cases (s t : GSt) : (s.sq = t.sq ∧ s.fe = t.fe ∧ s.lo = t.lo ∧ s.hi = t.hi) ∨
    (s ≠ t ∧ (s.sq == t.sq) = false) ∨ (s ≠ t ∧ (s.sq == t.sq) = true ∧ (s.fe == t.fe) = false) ∨ (s ≠ t ∧ (s.sq == t.sq) = true ∧ (s.fe == t.fe) = true ∧ decide (s.lo = t.lo) = false) ∨
    (s ≠ t ∧ (s.sq == t.sq) = true ∧ (s.fe == t.fe) = true ∧ decide (s.lo = t.lo) = true ∧ decide (s.hi = t.hi) = false) := by
  by_cases h0 : s.sq = t.sq
  rotate_left
  · exact .inr (.inl ⟨fun e => h0 (by rw [e]), by simpa using h0⟩)
  by_cases h1 : s.fe = t.fe
  rotate_left
  · exact .inr (.inr (.inl ⟨fun e => h1 (by rw [e]), by simpa using h0, by simpa using h1⟩))
  by_cases h2 : s.lo = t.lo
  rotate_left
  · exact .inr (.inr (.inr (.inl ⟨fun e => h2 (by rw [e]), by simpa using h0, by simpa using h1, by simpa using h2⟩)))
  by_cases h3 : s.hi = t.hi
  rotate_left
  · exact .inr (.inr (.inr (.inr ⟨fun e => h3 (by rw [e]), by simpa using h0, by simpa using h1, by simpa using h2, by simpa using h3⟩)))
  exact .inl ⟨h0, h1, h2, h3⟩

set_option maxRecDepth 100000 in
theorem sameState_any (A : Option Addr) (c : Nat) (A2 : Option Addr) (c2 : Nat) (D : Option Addr) (d : Nat) (D2 : Option Addr) (d2 : Nat) (s t : GSt) (B : Nat) (w : World) (h : StAt w B A A2 s) (k : StAt w B D D2 t) (hB : B ≤ w.heap.size)
    (hl : s.ents.length ≤ 4611686018427387904) (hl2 : s.tmbs.length ≤ 4611686018427387904) (kl : t.ents.length ≤ 4611686018427387904) (kl2 : t.tmbs.length ≤ 4611686018427387904) :
    Calls Try.prog 7 #[.agg #[.int .i64 s.sq, .int .i64 s.fe, .slice A s.ents.length c, .slice A2 s.tmbs.length c2, .int .i64 s.lo.a, .int .i64 s.lo.b, .int .i64 s.lo.c, .int .i64 s.hi.a, .int .i64 s.hi.b, .int .i64 s.hi.c], .agg #[.int .i64 t.sq, .int .i64 t.fe, .slice D t.ents.length d, .slice D2 t.tmbs.length d2, .int .i64 t.lo.a, .int .i64 t.lo.b, .int .i64 t.lo.c, .int .i64 t.hi.a, .int .i64 t.hi.b, .int .i64 t.hi.c]] w (IsBB (s = t) w) := by
  have Bw : ∀ o1 o2, Below w.heap.size w ((w.alloc o1).alloc o2) := fun o1 o2 => bal (bal (Below.refl _ _) _) _
  have BW := Lib.hid Bw; clear Bw
  have H := Lib.hid h; clear h
  have K := Lib.hid k; clear k
  rcases stt_cases s t with ⟨e0, e1, e2, e3⟩ | ⟨hn, g0⟩ | ⟨hn, g0, g1⟩ | ⟨hn, g0, g1, g2⟩ | ⟨hn, g0, g1, g2, g3⟩
  · have HE : Hid (s = t ↔ s.ents = t.ents ∧ s.tmbs = t.tmbs) := Lib.hid (by
      constructor
      · rintro rfl; exact ⟨rfl, rfl⟩
      · rintro ⟨e4, e5⟩; clear H K; cases s; cases t; simp_all)
    obtain ⟨sq, fe, ents, tmbs, lo, hi⟩ := s
    obtain ⟨sq', fe', ents', tmbs', lo', hi'⟩ := t
    dsimp only at *
    subst e0 e1 e2 e3
    have k2 := eq3 lo lo true (by simp)
    have k3 := eq3 hi hi true (by simp)
    go_enter Try.func7, Try.ntmps7
    go_wp2_with fail
    refine (slicesEqEnt_any A D c d ents ents' B _ (Sl.below H.out.1 (BW.out _ _) hB) (Sl.below K.out.1 (BW.out _ _) hB) (by simp; omega) hl kl).mono ?_
    rintro e w1 ⟨b1, hb1, rfl, hB1⟩
    have hbw : Below w.heap.size w w1 := (BW.out _ _).trans (hB1.mono (by simp <;> omega))
    cases b1
    · have Hn : Hid (¬ (ents = ents' ∧ tmbs = tmbs')) := Lib.hid (fun h => by have := hb1.2 h.1; cases this)
      clear hb1 hB1
      go_wp2
      go_ret
      exact ⟨false, by rw [HE.out]; simp [Hn.out], rfl, hbw⟩
    have E1 := Lib.hid (hb1.1 rfl)
    have c0 : w1.cell? ⟨w.heap.size, 3, none⟩ = some (.slice A2 tmbs.length c2) := by rw [hB1.cell (by simp <;> omega)]; simp [go_sem]
    have c1 : w1.cell? ⟨w.heap.size + 1, 3, none⟩ = some (.slice D2 tmbs'.length d2) := by rw [hB1.cell (by simp)]; simp [go_sem]
    clear hb1 hB1
    go_wp2_with fail
    refine (slicesEqTmb_any A2 D2 c2 d2 tmbs tmbs' B _ (Sl.below H.out.2 hbw hB) (Sl.below K.out.2 hbw hB) (by have := hbw.size; omega) hl2 kl2).mono ?_
    rintro e w2 ⟨b2, hb2, rfl, hB2⟩
    have hbw2 := bnext hbw hB2
    have HF : Hid (b2 = true ↔ (ents = ents' ∧ tmbs = tmbs')) := Lib.hid (by rw [hb2]; simp [E1.out])
    clear hb2 hB2 c0 c1
    go_wp2
    go_ret
    exact ⟨b2, by rw [HE.out]; exact HF.out, rfl, hbw2⟩
  · clear H K
    have Hn := Lib.hid hn; clear hn
    go_enter Try.func7, Try.ntmps7
    go_wp2
    go_ret
    exact ⟨false, by simp [Hn.out], rfl, BW.out _ _⟩
  · clear H K
    have Hn := Lib.hid hn; clear hn
    go_enter Try.func7, Try.ntmps7
    go_wp2
    go_ret
    exact ⟨false, by simp [Hn.out], rfl, BW.out _ _⟩
  · clear H K
    have k2 := eq3 s.lo t.lo _ g2
    clear g2
    have Hn := Lib.hid hn; clear hn
    go_enter Try.func7, Try.ntmps7
    go_wp2
    go_ret
    exact ⟨false, by simp [Hn.out], rfl, BW.out _ _⟩
  · clear H K
    have k2 := eq3 s.lo t.lo _ g2
    have k3 := eq3 s.hi t.hi _ g3
    clear g2 g3
    have Hn := Lib.hid hn; clear hn
    go_enter Try.func7, Try.ntmps7
    go_wp2
    go_ret
    exact ⟨false, by simp [Hn.out], rfl, BW.out _ _⟩

set_option maxRecDepth 100000 in
set_option maxHeartbeats 2000000 in
theorem specSameState_any (A : Option Addr) (c : Nat) (A2 : Option Addr) (c2 : Nat) (D : Option Addr) (d : Nat) (D2 : Option Addr) (d2 : Nat) (s t : GSt) (B : Nat) (w : World) (h : StAt w B A A2 s) (k : StAt w B D D2 t) (hB : B ≤ w.heap.size)
    (hl : s.ents.length ≤ 4611686018427387904) (hl2 : s.tmbs.length ≤ 4611686018427387904) (kl : t.ents.length ≤ 4611686018427387904) (kl2 : t.tmbs.length ≤ 4611686018427387904) :
    Calls Try.prog 5 #[.agg #[.int .i64 s.sq, .int .i64 s.fe, .slice A s.ents.length c, .slice A2 s.tmbs.length c2, .int .i64 s.lo.a, .int .i64 s.lo.b, .int .i64 s.lo.c, .int .i64 s.hi.a, .int .i64 s.hi.b, .int .i64 s.hi.c], .agg #[.int .i64 t.sq, .int .i64 t.fe, .slice D t.ents.length d, .slice D2 t.tmbs.length d2, .int .i64 t.lo.a, .int .i64 t.lo.b, .int .i64 t.lo.c, .int .i64 t.hi.a, .int .i64 t.hi.b, .int .i64 t.hi.c]] w (IsBB (s = t) w) := by
  have Bw : ∀ o1 o2, Below w.heap.size w ((w.alloc o1).alloc o2) := fun o1 o2 => bal (bal (Below.refl _ _) _) _
  have BW := Lib.hid Bw; clear Bw
  have H := Lib.hid h; clear h
  have K := Lib.hid k; clear k
  rcases stt_cases s t with ⟨e0, e1, e2, e3⟩ | ⟨hn, g0⟩ | ⟨hn, g0, g1⟩ | ⟨hn, g0, g1, g2⟩ | ⟨hn, g0, g1, g2, g3⟩
  · have HE : Hid (s = t ↔ s.ents = t.ents ∧ s.tmbs = t.tmbs) := Lib.hid (by
      constructor
      · rintro rfl; exact ⟨rfl, rfl⟩
      · rintro ⟨e4, e5⟩; clear H K; cases s; cases t; simp_all)
    obtain ⟨sq, fe, ents, tmbs, lo, hi⟩ := s
    obtain ⟨sq', fe', ents', tmbs', lo', hi'⟩ := t
    dsimp only at *
    subst e0 e1 e2 e3
    have k2 := eq3 lo lo true (by simp)
    have k3 := eq3 hi hi true (by simp)
    by_cases l0 : ents.length = ents'.length
    rotate_left
    · have u0 : ((ents.length : Int) != (ents'.length : Int)) = true := by simp; omega
      have u1 : ((ents.length : Int) == (ents'.length : Int)) = false := by simp; omega
      have Hn : Hid (¬ (ents = ents' ∧ tmbs = tmbs')) := Lib.hid (fun h => l0 (by rw [h.1]))
      clear l0 H K
      go_enter Try.func5, Try.ntmps5
      go_wp2
      go_ret
      exact ⟨false, by rw [HE.out]; simp [Hn.out], rfl, BW.out _ _⟩
    by_cases l1 : tmbs.length = tmbs'.length
    rotate_left
    · have u0 : ((ents.length : Int) != (ents'.length : Int)) = false := by simp; omega
      have u1 : ((ents.length : Int) == (ents'.length : Int)) = true := by simp; omega
      have u2 : ((tmbs.length : Int) != (tmbs'.length : Int)) = true := by simp; omega
      have u3 : ((tmbs.length : Int) == (tmbs'.length : Int)) = false := by simp; omega
      have Hn : Hid (¬ (ents = ents' ∧ tmbs = tmbs')) := Lib.hid (fun h => l1 (by rw [h.2]))
      clear l0 l1 H K
      go_enter Try.func5, Try.ntmps5
      go_wp2
      go_ret
      exact ⟨false, by rw [HE.out]; simp [Hn.out], rfl, BW.out _ _⟩
    have u0 : ((ents.length : Int) != (ents'.length : Int)) = false := by simp; omega
    have u1 : ((ents.length : Int) == (ents'.length : Int)) = true := by simp; omega
    have u2 : ((tmbs.length : Int) != (tmbs'.length : Int)) = false := by simp; omega
    have u3 : ((tmbs.length : Int) == (tmbs'.length : Int)) = true := by simp; omega
    have HLE := Lib.hid l0; have HLT := Lib.hid l1
    clear l0 l1
    go_enter Try.func5, Try.ntmps5
    go_wp2_with fail
    obtain ⟨W, hW⟩ : ∃ W, W = (w.alloc (.cells #[.int .i64 sq, .int .i64 fe, .slice A ents.length c, .slice A2 tmbs.length c2, .int .i64 lo.a, .int .i64 lo.b, .int .i64 lo.c, .int .i64 hi.a, .int .i64 hi.b, .int .i64 hi.c] 32)).alloc (.cells #[.int .i64 sq, .int .i64 fe, .slice D ents'.length d, .slice D2 tmbs'.length d2, .int .i64 lo.a, .int .i64 lo.b, .int .i64 lo.c, .int .i64 hi.a, .int .i64 hi.b, .int .i64 hi.c] 32) := ⟨_, rfl⟩
    have ca : Cells W w.heap.size 0 [.int .i64 sq, .int .i64 fe, .slice A ents.length c, .slice A2 tmbs.length c2, .int .i64 lo.a, .int .i64 lo.b, .int .i64 lo.c, .int .i64 hi.a, .int .i64 hi.b, .int .i64 hi.c] := by
      rw [hW]
      exact (Cells.new w _ _).below (bal (Below.refl _ _) _) (by simp)
    have cb : Cells W (w.heap.size + 1) 0 [.int .i64 sq, .int .i64 fe, .slice D ents'.length d, .slice D2 tmbs'.length d2, .int .i64 lo.a, .int .i64 lo.b, .int .i64 lo.c, .int .i64 hi.a, .int .i64 hi.b, .int .i64 hi.c] := by
      rw [hW]
      have := Cells.new (w.alloc (.cells #[.int .i64 sq, .int .i64 fe, .slice A ents.length c, .slice A2 tmbs.length c2, .int .i64 lo.a, .int .i64 lo.b, .int .i64 lo.c, .int .i64 hi.a, .int .i64 hi.b, .int .i64 hi.c] 32)) [.int .i64 sq, .int .i64 fe, .slice D ents'.length d, .slice D2 tmbs'.length d2, .int .i64 lo.a, .int .i64 lo.b, .int .i64 lo.c, .int .i64 hi.a, .int .i64 hi.b, .int .i64 hi.c] 32
      simpa using this
    have hs : w.heap.size + 2 ≤ W.heap.size := by rw [hW]; simp
    have HB : Hid (∀ wr, Below W.heap.size W wr → Below w.heap.size w wr) := Lib.hid (fun wr h => by
      refine Below.trans ?_ (h.mono (by omega))
      rw [hW]
      exact BW.out _ _)
    rw [← hW]
    clear hW BW k2 k3
    have CA := Lib.hid ca; have CB := Lib.hid cb; clear ca cb
    have hB0 : Hid (B ≤ w.heap.size) := Lib.hid hB
    clear hB
    generalize hx0 : w.heap.size = x0 at *
    have Hx0 := Lib.hid hx0; clear hx0
    go_loopw [5] (fun i wr => ∃ k : Nat, k ≤ ents.length ∧ i = .int .i64 k ∧ Hid (ents.take k = ents'.take k) ∧ Below W.heap.size W wr) (fun i _ => ents.length - (intOf i).toNat)
    case atStart => exact ⟨0, by omega, rfl, Lib.hid (by simp), Below.refl _ _⟩
    case round =>
      obtain ⟨k, hk, rfl, HH, hb⟩ := hrel
      have c0 : wr.cell? ⟨x0, 2, none⟩ = some (.slice A ents.length c) := by have := (CA.out.below hb (by omega)) 2 _ rfl; simpa using this
      have c1 : wr.cell? ⟨x0 + 1, 2, none⟩ = some (.slice D ents'.length d) := by have := (CB.out.below hb (by omega)) 2 _ rfl; simpa using this
      by_cases hlt : k < ents.length
      · have hy : k < ents'.length := by have := HLE.out; omega
        obtain ⟨b1, o1, rfl, hb1, p0, p1, p2, p3⟩ := EntsAt.one (Sl.below (H.out.1) (HB.out _ hb) hB0.out) hlt
        obtain ⟨b2, o2, rfl, hb2, q0, q1, q2, q3⟩ := EntsAt.one (Sl.below (K.out.1) (HB.out _ hb) hB0.out) hy
        rcases ent_cases ents[k] ents'[k] with he | ⟨he, f0⟩ | ⟨he, f0, f1⟩ | ⟨he, f0, f1, f2⟩ | ⟨he, f0, f1, f2, f3⟩
        · have hn : ents.take (k + 1) = ents'.take (k + 1) := by
            rw [List.take_succ_eq_append_getElem hlt, List.take_succ_eq_append_getElem hy, HH.out, he]
          have Hn := Lib.hid hn; clear hn
          rw [← he] at q0 q1 q2 q3
          clear he
          go_wp2_with fail
          go_quiet (fail)
          go_wp2
          go_roundw
          case rel => exact ⟨k + 1, by omega, by go_num, Hn, bdrewB hb _⟩
          case measure => simp [intOf]; omega
        · have Hn : Hid (¬ (ents = ents' ∧ tmbs = tmbs')) := Lib.hid (fun h => he (by simp [h.1, h.2]))
          clear he
          go_wp2_with fail
          go_quiet (fail)
          go_wp2
          go_ret
          exact ⟨false, by rw [HE.out]; simp [Hn.out], rfl, by rw [Hx0.out]; exact bdrewB (HB.out _ hb) _⟩
        · have Hn : Hid (¬ (ents = ents' ∧ tmbs = tmbs')) := Lib.hid (fun h => he (by simp [h.1, h.2]))
          clear he
          go_wp2_with fail
          go_quiet (fail)
          go_wp2
          go_ret
          exact ⟨false, by rw [HE.out]; simp [Hn.out], rfl, by rw [Hx0.out]; exact bdrewB (HB.out _ hb) _⟩
        · have Hn : Hid (¬ (ents = ents' ∧ tmbs = tmbs')) := Lib.hid (fun h => he (by simp [h.1, h.2]))
          clear he
          go_wp2_with fail
          go_quiet (fail)
          go_wp2
          go_ret
          exact ⟨false, by rw [HE.out]; simp [Hn.out], rfl, by rw [Hx0.out]; exact bdrewB (HB.out _ hb) _⟩
        · have Hn : Hid (¬ (ents = ents' ∧ tmbs = tmbs')) := Lib.hid (fun h => he (by simp [h.1, h.2]))
          clear he
          go_wp2_with fail
          go_quiet (fail)
          go_wp2
          go_ret
          exact ⟨false, by rw [HE.out]; simp [Hn.out], rfl, by rw [Hx0.out]; exact bdrewB (HB.out _ hb) _⟩
      · have hyes : ents = ents' := by
          have h1 := HH.out
          have h2 := HLE.out
          rw [List.take_of_length_le (by omega), List.take_of_length_le (by omega)] at h1
          exact h1
        have HY2 := Lib.hid hyes; clear hyes
        have hb0 := hb; clear hb
        go_wp2_with fail
        clear c0 c1
        go_loopw [6] (fun i wr => ∃ k : Nat, k ≤ tmbs.length ∧ i = .int .i64 k ∧ Hid (tmbs.take k = tmbs'.take k) ∧ Below W.heap.size W wr) (fun i _ => tmbs.length - (intOf i).toNat)
        case atStart => exact ⟨0, by omega, rfl, Lib.hid (by simp), hb0⟩
        case round =>
          obtain ⟨k, hk, rfl, HH, hb⟩ := hrel
          have c0 : wr.cell? ⟨x0, 3, none⟩ = some (.slice A2 tmbs.length c2) := by have := (CA.out.below hb (by omega)) 3 _ rfl; simpa using this
          have c1 : wr.cell? ⟨x0 + 1, 3, none⟩ = some (.slice D2 tmbs'.length d2) := by have := (CB.out.below hb (by omega)) 3 _ rfl; simpa using this
          by_cases hlt : k < tmbs.length
          · have hy : k < tmbs'.length := by have := HLT.out; omega
            obtain ⟨b1, o1, rfl, hb1, p0, p1⟩ := TmbsAt.one (Sl.below (H.out.2) (HB.out _ hb) hB0.out) hlt
            obtain ⟨b2, o2, rfl, hb2, q0, q1⟩ := TmbsAt.one (Sl.below (K.out.2) (HB.out _ hb) hB0.out) hy
            rcases tmb_cases tmbs[k] tmbs'[k] with he | ⟨he, f0⟩ | ⟨he, f0, f1⟩
            · have hn : tmbs.take (k + 1) = tmbs'.take (k + 1) := by
                rw [List.take_succ_eq_append_getElem hlt, List.take_succ_eq_append_getElem hy, HH.out, he]
              have Hn := Lib.hid hn; clear hn
              rw [← he] at q0 q1
              clear he
              go_wp2_with fail
              go_quiet (fail)
              go_wp2
              go_roundw
              case rel => exact ⟨k + 1, by omega, by go_num, Hn, bdrewB hb _⟩
              case measure => simp [intOf]; omega
            · have Hn : Hid (¬ (ents = ents' ∧ tmbs = tmbs')) := Lib.hid (fun h => he (by simp [h.1, h.2]))
              clear he
              go_wp2_with fail
              go_quiet (fail)
              go_wp2
              go_ret
              exact ⟨false, by rw [HE.out]; simp [Hn.out], rfl, by rw [Hx0.out]; exact bdrewB (HB.out _ hb) _⟩
            · have Hn : Hid (¬ (ents = ents' ∧ tmbs = tmbs')) := Lib.hid (fun h => he (by simp [h.1, h.2]))
              clear he
              go_wp2_with fail
              go_quiet (fail)
              go_wp2
              go_ret
              exact ⟨false, by rw [HE.out]; simp [Hn.out], rfl, by rw [Hx0.out]; exact bdrewB (HB.out _ hb) _⟩
          · have hyes : tmbs = tmbs' := by
              have h1 := HH.out
              have h2 := HLT.out
              rw [List.take_of_length_le (by omega), List.take_of_length_le (by omega)] at h1
              exact h1
            have HY3 := Lib.hid hyes; clear hyes
            go_wp2
            go_ret
            exact ⟨true, by simp [HE.out, HY2.out, HY3.out], rfl, by rw [Hx0.out]; exact HB.out _ hb⟩
  · clear H K
    have n0 : (s.sq != t.sq) = true := by simp [bne, g0]
    have Hn := Lib.hid hn; clear hn
    go_enter Try.func5, Try.ntmps5
    go_wp2
    go_ret
    exact ⟨false, by simp [Hn.out], rfl, BW.out _ _⟩
  · clear H K
    have n0 : (s.sq != t.sq) = false := by simp [bne, g0]
    have n1 : (s.fe != t.fe) = true := by simp [bne, g1]
    have Hn := Lib.hid hn; clear hn
    go_enter Try.func5, Try.ntmps5
    go_wp2
    go_ret
    exact ⟨false, by simp [Hn.out], rfl, BW.out _ _⟩
  · clear H K
    have n0 : (s.sq != t.sq) = false := by simp [bne, g0]
    have n1 : (s.fe != t.fe) = false := by simp [bne, g1]
    have k2 := eq3 s.lo t.lo _ g2
    clear g2
    have Hn := Lib.hid hn; clear hn
    go_enter Try.func5, Try.ntmps5
    go_wp2
    go_ret
    exact ⟨false, by simp [Hn.out], rfl, BW.out _ _⟩
  · clear H K
    have n0 : (s.sq != t.sq) = false := by simp [bne, g0]
    have n1 : (s.fe != t.fe) = false := by simp [bne, g1]
    have k2 := eq3 s.lo t.lo _ g2
    have k3 := eq3 s.hi t.hi _ g3
    clear g2 g3
    have Hn := Lib.hid hn; clear hn
    go_enter Try.func5, Try.ntmps5
    go_wp2
    go_ret
    exact ⟨false, by simp [Hn.out], rfl, BW.out _ _⟩

end Go.Proofs.Ytjmfffmjfbpgjaa
