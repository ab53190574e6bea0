/-
  Contracts of SameStore of both packages, and of slices.Equal over objects: true just where all is alike.
-/
import Derived.Test.YtpgilbmajbpdkabTo
import Derived.Laws.StructEq
namespace Go.Proofs.Ytpgilbmajbpdkab
open Go.ChangeShapes Go.WideShapes Go.ChangeAt Go.RowKit
set_option linter.unusedVariables false

theorem obj_eq {o p : GObj} (h0 : o.key = p.key) (h1 : o.ver = p.ver) (h2 : o.data = p.data) : o = p := by
  cases o; cases p; simp at h0 h1 h2; simp [h0, h1, h2]

/-- which of two objects' fields is the first to differ, in the forms that a walk asks -/
theorem obj_cases (o p : GObj) : (o = p) ∨ (o ≠ p ∧ (o.key.toList == p.key.toList) = false) ∨ (o ≠ p ∧ (o.key.toList == p.key.toList) = true ∧ (o.ver == p.ver) = false) ∨
    (o ≠ p ∧ (o.key.toList == p.key.toList) = true ∧ (o.ver == p.ver) = true ∧ (o.data.toList == p.data.toList) = false) := by
  by_cases h0 : o.key = p.key
  · by_cases h1 : o.ver = p.ver
    · by_cases h2 : o.data = p.data
      · exact .inl (obj_eq h0 h1 h2)
      · exact .inr (.inr (.inr ⟨fun e => h2 (by rw [e]), by rw [h0]; simp, by simpa using h1, ne_list h2⟩))
    · exact .inr (.inr (.inl ⟨fun e => h1 (by rw [e]), by rw [h0]; simp, by simpa using h1⟩))
  · exact .inr (.inl ⟨fun e => h0 (by rw [e]), ne_list h0⟩)

set_option maxRecDepth 100000 in
theorem slicesEqual_any (A1 A2 : Option Addr) (c1 c2 : Nat) (xs ys : List GObj) (B : Nat) (w : World) (h1 : ObjsAt w B A1 xs) (h2 : ObjsAt w B A2 ys) (hB : B ≤ w.heap.size) (hl : xs.length ≤ 4611686018427387904) (hl2 : ys.length ≤ 4611686018427387904) :
    Calls Try.prog 39 #[.slice A1 xs.length c1, .slice A2 ys.length c2] w (IsBB (xs = ys) w) := by
  by_cases hlen : xs.length = ys.length
  · have hd : ((xs.length : Int) != (ys.length : Int)) = false := by simp; omega
    have hd2 : ((xs.length : Int) == (ys.length : Int)) = true := by simp; omega
    have Hlen := Lib.hid hlen; clear hlen
    have H1 := Lib.hid h1; clear h1
    have H2 := Lib.hid h2; clear h2
    go_enter Try.func39, Try.ntmps39
    go_wp2_with fail
    go_loopw [13] (fun i wr => ∃ k : Nat, k ≤ xs.length ∧ i = .int .i64 k ∧ Hid (xs.take k = ys.take k) ∧ Below w.heap.size w wr) (fun i _ => xs.length - (intOf i).toNat)
    case atStart => exact ⟨0, by omega, rfl, Lib.hid (by simp), Below.refl _ _⟩
    case round =>
      obtain ⟨k, hk, rfl, H, hb⟩ := hrel
      by_cases hlt : k < xs.length
      · have hy : k < ys.length := by have := Hlen.out; omega
        obtain ⟨b1, o1, rfl, hb1, p0, p1, p2⟩ := ObjsAt.obj (Sl.below H1.out hb hB) hlt
        obtain ⟨b2, o2, rfl, hb2, q0, q1, q2⟩ := ObjsAt.obj (Sl.below H2.out hb hB) hy
        rcases obj_cases xs[k] ys[k] with he | ⟨he, f0⟩ | ⟨he, f0, f1⟩ | ⟨he, f0, f1, f2⟩
        · have hn : xs.take (k + 1) = ys.take (k + 1) := by
            rw [List.take_succ_eq_append_getElem hlt, List.take_succ_eq_append_getElem hy, H.out, he]
          have Hn := Lib.hid hn; clear hn
          rw [← he] at q0 q1 q2
          clear he
          go_wp2_with fail
          go_quiet (fail)
          go_wp2
          go_roundw
          case rel => exact ⟨k + 1, by omega, by go_num, Hn, bdrewN hb _⟩
          case measure => simp [intOf]; omega
        · have hn : ¬ (xs = ys) := fun h => he (by simp [h])
          have Hn := Lib.hid hn; clear hn he
          go_wp2_with fail
          go_quiet (fail)
          go_wp2
          go_ret
          exact ⟨false, by simp [Hn.out], rfl, bdrewN hb _⟩
        · have hn : ¬ (xs = ys) := fun h => he (by simp [h])
          have Hn := Lib.hid hn; clear hn he
          go_wp2_with fail
          go_quiet (fail)
          go_wp2
          go_ret
          exact ⟨false, by simp [Hn.out], rfl, bdrewN hb _⟩
        · have hn : ¬ (xs = ys) := fun h => he (by simp [h])
          have Hn := Lib.hid hn; clear hn he
          go_wp2_with fail
          go_quiet (fail)
          go_wp2
          go_ret
          exact ⟨false, by simp [Hn.out], rfl, bdrewN hb _⟩
      · have hyes : xs = ys := by
          have h1 := H.out
          have h2 := Hlen.out
          rw [List.take_of_length_le (by omega), List.take_of_length_le (by omega)] at h1
          exact h1
        have Hy := Lib.hid hyes; clear hyes
        go_wp2
        go_ret
        exact ⟨true, by simp [Hy.out], rfl, hb⟩
  · have hd : ((xs.length : Int) != (ys.length : Int)) = true := by simp; omega
    have hd2 : ((xs.length : Int) == (ys.length : Int)) = false := by simp; omega
    have hno : ¬ (xs = ys) := fun h => hlen (by rw [h])
    have Hno := Lib.hid hno; clear hno hlen h1 h2
    go_enter Try.func39, Try.ntmps39
    go_wp2
    go_ret
    exact ⟨false, by simp [Hno.out], rfl, Below.refl _ _⟩


theorem sameStore_any (A1 A2 : Option Addr) (c1 c2 : Nat) (n1 n2 : Int) (xs ys : List GObj) (B : Nat) (w : World) (h1 : ObjsAt w B A1 xs) (h2 : ObjsAt w B A2 ys) (hB : B ≤ w.heap.size) (hl : xs.length ≤ 4611686018427387904) (hl2 : ys.length ≤ 4611686018427387904) :
    Calls Try.prog 19 #[.agg #[.slice A1 xs.length c1, .int .i64 n1], .agg #[.slice A2 ys.length c2, .int .i64 n2]] w (IsBB (xs = ys ∧ n1 = n2) w) := by
  have H1 := Lib.hid h1; clear h1
  have H2 := Lib.hid h2; clear h2
  have b0 : ∀ o1 o2, Below w.heap.size w ((w.alloc o1).alloc o2) := fun o1 o2 => bal (bal (Below.refl _ _) _) _
  have B0 := Lib.hid b0; clear b0
  by_cases he : n1 = n2
  · subst he
    go_enter Try.func19, Try.ntmps19
    go_wp2_with fail
    refine (slicesEqual_any A1 A2 c1 c2 xs ys B _ (Sl.below H1.out (B0.out _ _) hB) (Sl.below H2.out (B0.out _ _) hB) (by simp; omega) hl hl2).mono ?_
    rintro e w2 ⟨b, hb, rfl, hbel⟩
    have hw : Below w.heap.size w w2 := bnext (B0.out _ _) hbel
    have hi : b = true ↔ (xs = ys ∧ n1 = n1) := by simpa using hb
    have Hi := Lib.hid hi; clear hi hb hbel
    go_wp2
    go_ret
    exact ⟨b, Hi.out, rfl, hw⟩
  · have hn : ¬ (xs = ys ∧ n1 = n2) := fun h => he h.2
    have e1 : (n1 == n2) = false := by simpa using he
    have Hn := Lib.hid hn; clear hn he
    go_enter Try.func19, Try.ntmps19
    go_wp2
    go_ret
    exact ⟨false, by simp [Hn.out], rfl, B0.out _ _⟩

set_option maxRecDepth 100000 in
theorem specSameStore_any (A1 A2 : Option Addr) (c1 c2 : Nat) (n1 n2 : Int) (xs ys : List GObj) (B : Nat) (w : World) (h1 : ObjsAt w B A1 xs) (h2 : ObjsAt w B A2 ys) (hB : B ≤ w.heap.size) (hl : xs.length ≤ 4611686018427387904) (hl2 : ys.length ≤ 4611686018427387904) :
    Calls Try.prog 18 #[.agg #[.slice A1 xs.length c1, .int .i64 n1], .agg #[.slice A2 ys.length c2, .int .i64 n2]] w (IsBB (xs = ys ∧ n1 = n2) w) := by
  have H1 := Lib.hid h1; clear h1
  have H2 := Lib.hid h2; clear h2
  by_cases he : n1 = n2
  · subst he
    have e0 : (n1 != n1) = false := by simp
    by_cases hlen : xs.length = ys.length
    · have hd : ((xs.length : Int) != (ys.length : Int)) = false := by simp; omega
      have hd2 : ((xs.length : Int) == (ys.length : Int)) = true := by simp; omega
      have Hlen := Lib.hid hlen; clear hlen
      go_enter Try.func18, Try.ntmps18
      go_wp2_with fail
      obtain ⟨W, hW⟩ : ∃ W, W = (w.alloc (.cells #[.slice A1 xs.length c1, .int .i64 n1] 28)).alloc (.cells #[.slice A2 ys.length c2, .int .i64 n1] 28) := ⟨_, rfl⟩
      have t1 : Two W w.heap.size (.slice A1 xs.length c1) (.int .i64 n1) := by rw [hW]; exact (Two.new _ _ _ _).alloc (by simp) _
      have t2 : Two W (w.heap.size + 1) (.slice A2 ys.length c2) (.int .i64 n1) := by
        rw [hW]; have := Two.new (w.alloc (.cells #[.slice A1 xs.length c1, .int .i64 n1] 28)) (.slice A2 ys.length c2) (.int .i64 n1) 28; simpa using this
      have b0 : Below w.heap.size w W := by rw [hW]; exact bal (bal (Below.refl _ _) _) _
      have s0 : w.heap.size + 1 < W.heap.size := by rw [hW]; simp
      rw [← hW]
      clear hW
      have T1 := Lib.hid t1; clear t1
      have T2 := Lib.hid t2; clear t2
      go_loopw [5] (fun i wr => ∃ k : Nat, k ≤ xs.length ∧ i = .int .i64 k ∧ Hid (xs.take k = ys.take k) ∧ Below W.heap.size W wr) (fun i _ => xs.length - (intOf i).toNat)
      case atStart => exact ⟨0, by omega, rfl, Lib.hid (by simp), Below.refl _ _⟩
      case round =>
        obtain ⟨k, hk, rfl, H, hbr⟩ := hrel
        obtain ⟨t10, t11⟩ := T1.out.below hbr (by omega)
        obtain ⟨t20, t21⟩ := T2.out.below hbr s0
        have hb := bnext b0 hbr
        by_cases hlt : k < xs.length
        · have hy : k < ys.length := by have := Hlen.out; omega
          obtain ⟨b1, o1, rfl, hb1, p0, p1, p2⟩ := ObjsAt.obj (Sl.below H1.out hb hB) hlt
          obtain ⟨b2, o2, rfl, hb2, q0, q1, q2⟩ := ObjsAt.obj (Sl.below H2.out hb hB) hy
          rcases obj_cases xs[k] ys[k] with he | ⟨he, f0⟩ | ⟨he, f0, f1⟩ | ⟨he, f0, f1, f2⟩
          · have hn : xs.take (k + 1) = ys.take (k + 1) := by
              rw [List.take_succ_eq_append_getElem hlt, List.take_succ_eq_append_getElem hy, H.out, he]
            have Hn := Lib.hid hn; clear hn
            rw [← he] at q0 q1 q2
            clear he
            go_wp2_with fail
            go_quiet (fail)
            go_wp2
            go_roundw
            case rel => exact ⟨k + 1, by omega, by go_num, Hn, bdrewN hbr _⟩
            case measure => simp [intOf]; omega
          · have hn : ¬ (xs = ys ∧ n1 = n1) := fun h => he (by simp [h.1])
            have Hn := Lib.hid hn; clear hn he
            go_wp2_with fail
            go_quiet (fail)
            go_wp2
            go_ret
            exact ⟨false, by simpa using Hn.out, rfl, bdrewN hb _⟩
          · have hn : ¬ (xs = ys ∧ n1 = n1) := fun h => he (by simp [h.1])
            have Hn := Lib.hid hn; clear hn he
            go_wp2_with fail
            go_quiet (fail)
            go_wp2
            go_ret
            exact ⟨false, by simpa using Hn.out, rfl, bdrewN hb _⟩
          · have hn : ¬ (xs = ys ∧ n1 = n1) := fun h => he (by simp [h.1])
            have Hn := Lib.hid hn; clear hn he
            go_wp2_with fail
            go_quiet (fail)
            go_wp2
            go_ret
            exact ⟨false, by simpa using Hn.out, rfl, bdrewN hb _⟩
        · have hyes : xs = ys := by
            have h1 := H.out
            have h2 := Hlen.out
            rw [List.take_of_length_le (by omega), List.take_of_length_le (by omega)] at h1
            exact h1
          have Hy := Lib.hid hyes; clear hyes
          go_wp2
          go_ret
          exact ⟨true, by simp [Hy.out], rfl, hb⟩
    · have hd : ((xs.length : Int) != (ys.length : Int)) = true := by simp; omega
      have hd2 : ((xs.length : Int) == (ys.length : Int)) = false := by simp; omega
      have hno : ¬ (xs = ys ∧ n1 = n1) := fun h => hlen (by rw [h.1])
      have Hno := Lib.hid hno; clear hno hlen
      go_enter Try.func18, Try.ntmps18
      go_wp2
      go_ret
      exact ⟨false, by simpa using Hno.out, rfl, bal (bal (Below.refl _ _) _) _⟩
  · have hn : ¬ (xs = ys ∧ n1 = n2) := fun h => he h.2
    have e1 : (n1 == n2) = false := by simpa using he
    have e2 : (n1 != n2) = true := by simpa using he
    have Hn := Lib.hid hn; clear hn he
    go_enter Try.func18, Try.ntmps18
    go_wp2
    go_ret
    exact ⟨false, by simp [Hn.out], rfl, bal (bal (Below.refl _ _) _) _⟩

end Go.Proofs.Ytpgilbmajbpdkab
