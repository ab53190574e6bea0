/-
  Contracts of the program's scanner.tier and of impl.ReadDataKey: just of a data key the tier and the numbers. Conditions: the program's table of paths is as its text lays it; a text's length.
-/
import Derived.Test.YtpackpocnonpiaaDoorKeyedI
import Derived.Test.YtpackpocnonpiaaDoorKeyI
import Derived.Test.YtpackpocnonpiaaDoorToKey
namespace Go.Proofs.YtpackpocnonpiaaDoor
open Go.ChangeShapes Go.WideShapes Go.ChangeAt Go.RowKit
set_option linter.unusedVariables false
set_option linter.unusedSimpArgs false

/-- what tier does -/
def Tiered (R : List UInt8) (a : Nat) (x : Value) (v a' : Nat) (x' : Value) : Prop := (x' = x ∧ ∃ R', v < 3 ∧ a' = a + (pathT v).size ∧ R = (pathT v).data.toList ++ R') ∨ (Bad x' ∧ a' = a ∧ ∀ k R', k < 3 → R ≠ (pathT k).data.toList ++ R')

theorem path_size (k : Nat) : (pathT k).size ≤ 4 := by unfold pathT; split <;> decide

theorem ixP0 (P0 P1 P2 : ByteArray) (w : World) : (Instr.index 112 (.agg #[.string P0, .string P1, .string P2]) (.int .i64 0)).run Tryd.prog w = .ok (.string P0) w := by kernel_rfl

theorem ixP1 (P0 P1 P2 : ByteArray) (w : World) : (Instr.index 112 (.agg #[.string P0, .string P1, .string P2]) (.int .i64 1)).run Tryd.prog w = .ok (.string P1) w := by kernel_rfl

theorem ixP2 (P0 P1 P2 : ByteArray) (w : World) : (Instr.index 112 (.agg #[.string P0, .string P1, .string P2]) (.int .i64 2)).run Tryd.prog w = .ok (.string P2) w := by kernel_rfl

set_option maxRecDepth 100000 in
theorem tier_any (B g a : Nat) (t : ByteArray) (x : Value) (U R : List UInt8) (w : World) (h : Scan w g t a x) (hx : ErrV x) (hB : B ≤ g) (hp : Parted t a U R) (hs : t.size ≤ 1048576) (hpa : Paths w) :
    Calls Tryd.prog 67 #[.pointer (some ⟨g, 0, none⟩)] w fun e w' => ∃ (v a' : Nat) (x' : Value), e = .returned (.int .i64 v) ∧ Scan w' g t a' x' ∧ Tiered R a x v a' x' ∧ Below B w w' := by
  have Hx := Lib.hid hx; clear hx
  have H := Lib.hid h; clear h
  have hle := hp.le
  have hR := hp.rest
  have p0 := hpa 0 (by omega)
  have p1 := hpa 1 (by omega)
  have p2 := hpa 2 (by omega)
  clear hpa hp
  have HC := Lib.hid (show ∀ k, k < 3 → ∀ b, Lib.hasPrefix R (pathT k).data.toList = b → (b = true → Tiered R a x k (a + (pathT k).size) x) ∧ (b = false → ∀ R', R ≠ (pathT k).data.toList ++ R') from fun k hk b hb => ⟨fun h => by
    rw [h] at hb
    obtain ⟨R', e⟩ := pre_iff.1 hb
    exact Or.inl ⟨rfl, R', hk, rfl, e⟩, fun h R' e => by
    rw [h, pre_iff.2 ⟨R', e⟩] at hb
    cases hb⟩)
  have z0 := path_size 0
  have z1 := path_size 1
  have z2 := path_size 2
  rw [← hR] at HC
  have hr := fun w1 (h1 : Scan w1 g t a x) => rest_any g a t x w1 h1 hle hs
  have Hr := Lib.hid hr; clear hr
  have HE := Lib.hid (show ∀ y, Bad y → (∀ k, k < 3 → ∀ R', (t.extract a t.size).data.toList ≠ (pathT k).data.toList ++ R') → Tiered (t.extract a t.size).data.toList a x 0 a y from fun y hy h => Or.inr ⟨hy, rfl, fun k R' hk => h k hk R'⟩)
  rw [← hR]
  clear hR
  generalize t.extract a t.size = X at *
  obtain ⟨P0, hP0⟩ : ∃ P, P = pathT 0 := ⟨_, rfl⟩
  obtain ⟨P1, hP1⟩ : ∃ P, P = pathT 1 := ⟨_, rfl⟩
  obtain ⟨P2, hP2⟩ : ∃ P, P = pathT 2 := ⟨_, rfl⟩
  rw [← hP0] at p0 z0
  rw [← hP1] at p1 z1
  rw [← hP2] at p2 z2
  have HP0 := Lib.hid hP0; have HP1 := Lib.hid hP1; have HP2 := Lib.hid hP2
  clear hP0 hP1 hP2
  go_enter Tryd.func67, Tryd.ntmps67
  go_wp2_with fail
  go_loopw [6] (fun i wr => ∃ j : Nat, j ≤ 3 ∧ i = .int .i64 j ∧ Hid (Scan wr g t a x) ∧ Hid (∀ k, k < j → ∀ R', X.data.toList ≠ (pathT k).data.toList ++ R') ∧ Below B w wr) (fun i _ => 3 - (intOf i).toNat)
  case atStart => exact ⟨0, by omega, rfl, H, Lib.hid (fun k hk => by omega), Below.refl _ _⟩
  case round =>
    obtain ⟨j, hj, rfl, HS, HN, hb⟩ := hrel
    rcases (show j = 0 ∨ j = 1 ∨ j = 2 ∨ j = 3 by omega) with rfl | rfl | rfl | rfl
    · cases hq : Lib.hasPrefix X.data.toList P0.data.toList
      · have HN2 := Lib.hid (show ∀ k, k < 1 → ∀ R', X.data.toList ≠ (pathT k).data.toList ++ R' from fun k hk R' => by
          by_cases e : k = 0
          · subst e
            exact (HC.out 0 (by omega) _ rfl).2 (by rw [← HP0.out, hq]) R'
          · exact HN.out k (by omega) R')
        clear HN
        have ix := ixP0 P0 P1 P2
        go_wp2_with fail
        refine (Hr.out wr HS.out).mono ?_
        rintro e w1 ⟨rfl, hb1⟩
        have HS1 := Lib.hid (HS.out.below hb1)
        have b1 : Below B w w1 := hb.trans (hb1.mono (Nat.le_of_lt (Nat.lt_of_le_of_lt hB HS.out.lt)))
        go_wp2_with fail
        refine (sh_strings_HasPrefix X P0 w1).mono ?_
        rw [hq]
        rintro e w2 ⟨rfl, rfl⟩
        clear HS hb1 hq
        go_wp2
        refine ⟨⟨1, by omega, by go_num, HS1, HN2, b1⟩, by simp [intOf]⟩
      · have HT := Lib.hid (show Tiered X.data.toList a x 0 (a + P0.size) x by
          have := (HC.out 0 (by omega) _ rfl).1 (by rw [← HP0.out, hq])
          rwa [← HP0.out] at this)
        have wa : IntKind.i64.wrap ((a : Int) + (P0.size : Int)) = ((a + P0.size : Nat) : Int) := by rw [IntKind.wrap_i64]; omega
        clear HN
        have ix := ixP0 P0 P1 P2
        go_wp2_with fail
        refine (Hr.out wr HS.out).mono ?_
        rintro e w1 ⟨rfl, hb1⟩
        have s1 := HS.out.below hb1
        have b1 : Below B w w1 := hb.trans (hb1.mono (Nat.le_of_lt (Nat.lt_of_le_of_lt hB HS.out.lt)))
        go_wp2_with fail
        refine (sh_strings_HasPrefix X P0 w1).mono ?_
        rw [hq]
        rintro e w2 ⟨rfl, rfl⟩
        have H3 := Lib.hid (s1.go (a + P0.size))
        obtain ⟨c0, c1, c2, fz, hlt⟩ := s1
        have f1 := fz 1
        have b3 := Lib.hid (bset' b1 (p := ⟨g, 1, none⟩) hB (.int .i64 ((a + P0.size : Nat) : Int)))
        clear hb1 b1 hq fz c2 c0 HS
        go_wp2
        go_ret
        refine ⟨0, a + P0.size, x, rfl, ?_, HT.out, ?_⟩
        · exact H3.out
        · exact b3.out
    · cases hq : Lib.hasPrefix X.data.toList P1.data.toList
      · have HN2 := Lib.hid (show ∀ k, k < 2 → ∀ R', X.data.toList ≠ (pathT k).data.toList ++ R' from fun k hk R' => by
          by_cases e : k = 1
          · subst e
            exact (HC.out 1 (by omega) _ rfl).2 (by rw [← HP1.out, hq]) R'
          · exact HN.out k (by omega) R')
        clear HN
        have ix := ixP1 P0 P1 P2
        go_wp2_with fail
        refine (Hr.out wr HS.out).mono ?_
        rintro e w1 ⟨rfl, hb1⟩
        have HS1 := Lib.hid (HS.out.below hb1)
        have b1 : Below B w w1 := hb.trans (hb1.mono (Nat.le_of_lt (Nat.lt_of_le_of_lt hB HS.out.lt)))
        go_wp2_with fail
        refine (sh_strings_HasPrefix X P1 w1).mono ?_
        rw [hq]
        rintro e w2 ⟨rfl, rfl⟩
        clear HS hb1 hq
        go_wp2
        refine ⟨⟨2, by omega, by go_num, HS1, HN2, b1⟩, by simp [intOf]⟩
      · have HT := Lib.hid (show Tiered X.data.toList a x 1 (a + P1.size) x by
          have := (HC.out 1 (by omega) _ rfl).1 (by rw [← HP1.out, hq])
          rwa [← HP1.out] at this)
        have wa : IntKind.i64.wrap ((a : Int) + (P1.size : Int)) = ((a + P1.size : Nat) : Int) := by rw [IntKind.wrap_i64]; omega
        clear HN
        have ix := ixP1 P0 P1 P2
        go_wp2_with fail
        refine (Hr.out wr HS.out).mono ?_
        rintro e w1 ⟨rfl, hb1⟩
        have s1 := HS.out.below hb1
        have b1 : Below B w w1 := hb.trans (hb1.mono (Nat.le_of_lt (Nat.lt_of_le_of_lt hB HS.out.lt)))
        go_wp2_with fail
        refine (sh_strings_HasPrefix X P1 w1).mono ?_
        rw [hq]
        rintro e w2 ⟨rfl, rfl⟩
        have H3 := Lib.hid (s1.go (a + P1.size))
        obtain ⟨c0, c1, c2, fz, hlt⟩ := s1
        have f1 := fz 1
        have b3 := Lib.hid (bset' b1 (p := ⟨g, 1, none⟩) hB (.int .i64 ((a + P1.size : Nat) : Int)))
        clear hb1 b1 hq fz c2 c0 HS
        go_wp2
        go_ret
        refine ⟨1, a + P1.size, x, rfl, ?_, HT.out, ?_⟩
        · exact H3.out
        · exact b3.out
    · cases hq : Lib.hasPrefix X.data.toList P2.data.toList
      · have HN2 := Lib.hid (show ∀ k, k < 3 → ∀ R', X.data.toList ≠ (pathT k).data.toList ++ R' from fun k hk R' => by
          by_cases e : k = 2
          · subst e
            exact (HC.out 2 (by omega) _ rfl).2 (by rw [← HP2.out, hq]) R'
          · exact HN.out k (by omega) R')
        clear HN
        have ix := ixP2 P0 P1 P2
        go_wp2_with fail
        refine (Hr.out wr HS.out).mono ?_
        rintro e w1 ⟨rfl, hb1⟩
        have HS1 := Lib.hid (HS.out.below hb1)
        have b1 : Below B w w1 := hb.trans (hb1.mono (Nat.le_of_lt (Nat.lt_of_le_of_lt hB HS.out.lt)))
        go_wp2_with fail
        refine (sh_strings_HasPrefix X P2 w1).mono ?_
        rw [hq]
        rintro e w2 ⟨rfl, rfl⟩
        clear HS hb1 hq
        go_wp2
        refine ⟨⟨3, by omega, by go_num, HS1, HN2, b1⟩, by simp [intOf]⟩
      · have HT := Lib.hid (show Tiered X.data.toList a x 2 (a + P2.size) x by
          have := (HC.out 2 (by omega) _ rfl).1 (by rw [← HP2.out, hq])
          rwa [← HP2.out] at this)
        have wa : IntKind.i64.wrap ((a : Int) + (P2.size : Int)) = ((a + P2.size : Nat) : Int) := by rw [IntKind.wrap_i64]; omega
        clear HN
        have ix := ixP2 P0 P1 P2
        go_wp2_with fail
        refine (Hr.out wr HS.out).mono ?_
        rintro e w1 ⟨rfl, hb1⟩
        have s1 := HS.out.below hb1
        have b1 : Below B w w1 := hb.trans (hb1.mono (Nat.le_of_lt (Nat.lt_of_le_of_lt hB HS.out.lt)))
        go_wp2_with fail
        refine (sh_strings_HasPrefix X P2 w1).mono ?_
        rw [hq]
        rintro e w2 ⟨rfl, rfl⟩
        have H3 := Lib.hid (s1.go (a + P2.size))
        obtain ⟨c0, c1, c2, fz, hlt⟩ := s1
        have f1 := fz 1
        have b3 := Lib.hid (bset' b1 (p := ⟨g, 1, none⟩) hB (.int .i64 ((a + P2.size : Nat) : Int)))
        clear hb1 b1 hq fz c2 c0 HS
        go_wp2
        go_ret
        refine ⟨2, a + P2.size, x, rfl, ?_, HT.out, ?_⟩
        · exact H3.out
        · exact b3.out
    · go_wp2_with fail
      refine (fail_any B g a t _ x wr HS.out Hx.out hB).mono ?_
      rintro e w3 ⟨rfl, y, hy, hs3, hb3⟩
      have H3 := Lib.hid hs3; clear hs3
      have HT := Lib.hid (HE.out y hy HN.out); clear hy
      have b3 := hb.trans hb3
      clear hb3 HS HN
      go_wp2
      go_ret
      exact ⟨0, a, y, rfl, H3.out, HT.out, b3⟩

end Go.Proofs.YtpackpocnonpiaaDoor
