/-
  Several texts as one: contracts that the law leans on; each part says what it proves and its conditions.
-/
import Derived.Test.YtpackpocnonpiaaGreatDoorM2
import Derived.Test.YtpackpocnonpiaaGreatDoorRng
import Derived.Laws.EntriesVeiled
import Derived.Test.YtpackpocnonpiaaGreatDoorFoldR
import Derived.Test.YtpackpocnonpiaaGreatDoorSpanI
import Derived.Test.YtpackpocnonpiaaGreatDoorSpecRdS
import Derived.Test.YtpackpocnonpiaaGreatDoorM1
import Derived.Test.YtpackpocnonpiaaGreatDoorAppG
import Derived.Test.YtpackpocnonpiaaGreatDoorDv
import Derived.Test.YtpackpocnonpiaaGreatDoorTxt
import Derived.Outline
import Derived.Test.YtpackpocnonpiaaGreatDoorParts
import Derived.Test.YtpackpocnonpiaaGreatDoorSamTxt
import Derived.Deep.RegionHeld3
import Derived.ScopeJumps
import Derived.WalkMore
import Derived.Test.YtpackpocnonpiaaGreatDoorSamImpl

/- Contracts of the program's scanner.tier and of impl.ReadDataKey: just of a data key the tier and the numbers. Conditions: the program's table of paths is as its text lays it; a text's length. -/
namespace Go.Proofs.YtpackpocnonpiaaGreatDoor
open Go.ChangeShapes Go.WideShapes Go.ChangeAt Go.RowKit
set_option linter.unusedVariables false
set_option linter.unusedSimpArgs false

/-- what tier does -/
def Tiered (R : List UInt8) (a : Nat) (x : Value) (v a' : Nat) (x' : Value) : Prop := (x' = x ∧ ∃ R', v < 3 ∧ a' = a + (pathT v).size ∧ R = (pathT v).data.toList ++ R') ∨ (Bad x' ∧ a' = a ∧ ∀ k R', k < 3 → R ≠ (pathT k).data.toList ++ R')

theorem path_size (k : Nat) : (pathT k).size ≤ 4 := by unfold pathT; split <;> decide

theorem ixP0 (P0 P1 P2 : ByteArray) (w : World) : (Instr.index 246 (.agg #[.string P0, .string P1, .string P2]) (.int .i64 0)).run Tryz.prog w = .ok (.string P0) w := by kernel_rfl

theorem ixP1 (P0 P1 P2 : ByteArray) (w : World) : (Instr.index 246 (.agg #[.string P0, .string P1, .string P2]) (.int .i64 1)).run Tryz.prog w = .ok (.string P1) w := by kernel_rfl

theorem ixP2 (P0 P1 P2 : ByteArray) (w : World) : (Instr.index 246 (.agg #[.string P0, .string P1, .string P2]) (.int .i64 2)).run Tryz.prog w = .ok (.string P2) w := by kernel_rfl

set_option maxRecDepth 100000 in
theorem tier_any (B g a : Nat) (t : ByteArray) (x : Value) (U R : List UInt8) (w : World) (h : Scan w g t a x) (hx : ErrV x) (hB : B ≤ g) (hp : Parted t a U R) (hs : t.size ≤ 1048576) (hpa : Paths w) :
    Calls Tryz.prog 151 #[.pointer (some ⟨g, 0, none⟩)] w fun e w' => ∃ (v a' : Nat) (x' : Value), e = .returned (.int .i64 v) ∧ Scan w' g t a' x' ∧ Tiered R a x v a' x' ∧ Below B w w' := by
  have Hx := Lib.hid hx; clear hx
  have H := Lib.hid h; clear h
  have hle := hp.le
  have hR := hp.rest
  have p0 := hpa 0 (by omega)
  have p1 := hpa 1 (by omega)
  have p2 := hpa 2 (by omega)
  clear hpa hp
  have HC := Lib.hid (show ∀ k, k < 3 → ∀ b, Lib.hasPrefix R (pathT k).data.toList = b → (b = true → Tiered R a x k (a + (pathT k).size) x) ∧ (b = false → ∀ R', R ≠ (pathT k).data.toList ++ R') from fun k hk b hb => ⟨fun h => by
    rw [h] at hb
    obtain ⟨R', e⟩ := pre_iff.1 hb
    exact Or.inl ⟨rfl, R', hk, rfl, e⟩, fun h R' e => by
    rw [h, pre_iff.2 ⟨R', e⟩] at hb
    cases hb⟩)
  have z0 := path_size 0
  have z1 := path_size 1
  have z2 := path_size 2
  rw [← hR] at HC
  have hr := fun w1 (h1 : Scan w1 g t a x) => rest_any g a t x w1 h1 hle hs
  have Hr := Lib.hid hr; clear hr
  have HE := Lib.hid (show ∀ y, Bad y → (∀ k, k < 3 → ∀ R', (t.extract a t.size).data.toList ≠ (pathT k).data.toList ++ R') → Tiered (t.extract a t.size).data.toList a x 0 a y from fun y hy h => Or.inr ⟨hy, rfl, fun k R' hk => h k hk R'⟩)
  rw [← hR]
  clear hR
  generalize t.extract a t.size = X at *
  obtain ⟨P0, hP0⟩ : ∃ P, P = pathT 0 := ⟨_, rfl⟩
  obtain ⟨P1, hP1⟩ : ∃ P, P = pathT 1 := ⟨_, rfl⟩
  obtain ⟨P2, hP2⟩ : ∃ P, P = pathT 2 := ⟨_, rfl⟩
  rw [← hP0] at p0 z0
  rw [← hP1] at p1 z1
  rw [← hP2] at p2 z2
  have HP0 := Lib.hid hP0; have HP1 := Lib.hid hP1; have HP2 := Lib.hid hP2
  clear hP0 hP1 hP2
  go_enter Tryz.func151, Tryz.ntmps151
  go_wp2_with fail
  go_loopw [6] (fun i wr => ∃ j : Nat, j ≤ 3 ∧ i = .int .i64 j ∧ Hid (Scan wr g t a x) ∧ Hid (∀ k, k < j → ∀ R', X.data.toList ≠ (pathT k).data.toList ++ R') ∧ Below B w wr) (fun i _ => 3 - (intOf i).toNat)
  case atStart => exact ⟨0, by omega, rfl, H, Lib.hid (fun k hk => by omega), Below.refl _ _⟩
  case round =>
    obtain ⟨j, hj, rfl, HS, HN, hb⟩ := hrel
    rcases (show j = 0 ∨ j = 1 ∨ j = 2 ∨ j = 3 by omega) with rfl | rfl | rfl | rfl
    · cases hq : Lib.hasPrefix X.data.toList P0.data.toList
      · have HN2 := Lib.hid (show ∀ k, k < 1 → ∀ R', X.data.toList ≠ (pathT k).data.toList ++ R' from fun k hk R' => by
          by_cases e : k = 0
          · subst e
            exact (HC.out 0 (by omega) _ rfl).2 (by rw [← HP0.out, hq]) R'
          · exact HN.out k (by omega) R')
        clear HN
        have ix := ixP0 P0 P1 P2
        go_wp2_with fail
        refine (Hr.out wr HS.out).mono ?_
        rintro e w1 ⟨rfl, hb1⟩
        have HS1 := Lib.hid (HS.out.below hb1)
        have b1 : Below B w w1 := hb.trans (hb1.mono (Nat.le_of_lt (Nat.lt_of_le_of_lt hB HS.out.lt)))
        go_wp2_with fail
        refine (sh_strings_HasPrefix X P0 w1).mono ?_
        rw [hq]
        rintro e w2 ⟨rfl, rfl⟩
        clear HS hb1 hq
        go_wp2
        refine ⟨⟨1, by omega, by go_num, HS1, HN2, b1⟩, by simp [intOf]⟩
      · have HT := Lib.hid (show Tiered X.data.toList a x 0 (a + P0.size) x by
          have := (HC.out 0 (by omega) _ rfl).1 (by rw [← HP0.out, hq])
          rwa [← HP0.out] at this)
        have wa : IntKind.i64.wrap ((a : Int) + (P0.size : Int)) = ((a + P0.size : Nat) : Int) := by rw [IntKind.wrap_i64]; omega
        clear HN
        have ix := ixP0 P0 P1 P2
        go_wp2_with fail
        refine (Hr.out wr HS.out).mono ?_
        rintro e w1 ⟨rfl, hb1⟩
        have s1 := HS.out.below hb1
        have b1 : Below B w w1 := hb.trans (hb1.mono (Nat.le_of_lt (Nat.lt_of_le_of_lt hB HS.out.lt)))
        go_wp2_with fail
        refine (sh_strings_HasPrefix X P0 w1).mono ?_
        rw [hq]
        rintro e w2 ⟨rfl, rfl⟩
        have H3 := Lib.hid (s1.go (a + P0.size))
        obtain ⟨c0, c1, c2, fz, hlt⟩ := s1
        have f1 := fz 1
        have b3 := Lib.hid (bset' b1 (p := ⟨g, 1, none⟩) hB (.int .i64 ((a + P0.size : Nat) : Int)))
        clear hb1 b1 hq fz c2 c0 HS
        go_wp2
        go_ret
        refine ⟨0, a + P0.size, x, rfl, ?_, HT.out, ?_⟩
        · exact H3.out
        · exact b3.out
    · cases hq : Lib.hasPrefix X.data.toList P1.data.toList
      · have HN2 := Lib.hid (show ∀ k, k < 2 → ∀ R', X.data.toList ≠ (pathT k).data.toList ++ R' from fun k hk R' => by
          by_cases e : k = 1
          · subst e
            exact (HC.out 1 (by omega) _ rfl).2 (by rw [← HP1.out, hq]) R'
          · exact HN.out k (by omega) R')
        clear HN
        have ix := ixP1 P0 P1 P2
        go_wp2_with fail
        refine (Hr.out wr HS.out).mono ?_
        rintro e w1 ⟨rfl, hb1⟩
        have HS1 := Lib.hid (HS.out.below hb1)
        have b1 : Below B w w1 := hb.trans (hb1.mono (Nat.le_of_lt (Nat.lt_of_le_of_lt hB HS.out.lt)))
        go_wp2_with fail
        refine (sh_strings_HasPrefix X P1 w1).mono ?_
        rw [hq]
        rintro e w2 ⟨rfl, rfl⟩
        clear HS hb1 hq
        go_wp2
        refine ⟨⟨2, by omega, by go_num, HS1, HN2, b1⟩, by simp [intOf]⟩
      · have HT := Lib.hid (show Tiered X.data.toList a x 1 (a + P1.size) x by
          have := (HC.out 1 (by omega) _ rfl).1 (by rw [← HP1.out, hq])
          rwa [← HP1.out] at this)
        have wa : IntKind.i64.wrap ((a : Int) + (P1.size : Int)) = ((a + P1.size : Nat) : Int) := by rw [IntKind.wrap_i64]; omega
        clear HN
        have ix := ixP1 P0 P1 P2
        go_wp2_with fail
        refine (Hr.out wr HS.out).mono ?_
        rintro e w1 ⟨rfl, hb1⟩
        have s1 := HS.out.below hb1
        have b1 : Below B w w1 := hb.trans (hb1.mono (Nat.le_of_lt (Nat.lt_of_le_of_lt hB HS.out.lt)))
        go_wp2_with fail
        refine (sh_strings_HasPrefix X P1 w1).mono ?_
        rw [hq]
        rintro e w2 ⟨rfl, rfl⟩
        have H3 := Lib.hid (s1.go (a + P1.size))
        obtain ⟨c0, c1, c2, fz, hlt⟩ := s1
        have f1 := fz 1
        have b3 := Lib.hid (bset' b1 (p := ⟨g, 1, none⟩) hB (.int .i64 ((a + P1.size : Nat) : Int)))
        clear hb1 b1 hq fz c2 c0 HS
        go_wp2
        go_ret
        refine ⟨1, a + P1.size, x, rfl, ?_, HT.out, ?_⟩
        · exact H3.out
        · exact b3.out
    · cases hq : Lib.hasPrefix X.data.toList P2.data.toList
      · have HN2 := Lib.hid (show ∀ k, k < 3 → ∀ R', X.data.toList ≠ (pathT k).data.toList ++ R' from fun k hk R' => by
          by_cases e : k = 2
          · subst e
            exact (HC.out 2 (by omega) _ rfl).2 (by rw [← HP2.out, hq]) R'
          · exact HN.out k (by omega) R')
        clear HN
        have ix := ixP2 P0 P1 P2
        go_wp2_with fail
        refine (Hr.out wr HS.out).mono ?_
        rintro e w1 ⟨rfl, hb1⟩
        have HS1 := Lib.hid (HS.out.below hb1)
        have b1 : Below B w w1 := hb.trans (hb1.mono (Nat.le_of_lt (Nat.lt_of_le_of_lt hB HS.out.lt)))
        go_wp2_with fail
        refine (sh_strings_HasPrefix X P2 w1).mono ?_
        rw [hq]
        rintro e w2 ⟨rfl, rfl⟩
        clear HS hb1 hq
        go_wp2
        refine ⟨⟨3, by omega, by go_num, HS1, HN2, b1⟩, by simp [intOf]⟩
      · have HT := Lib.hid (show Tiered X.data.toList a x 2 (a + P2.size) x by
          have := (HC.out 2 (by omega) _ rfl).1 (by rw [← HP2.out, hq])
          rwa [← HP2.out] at this)
        have wa : IntKind.i64.wrap ((a : Int) + (P2.size : Int)) = ((a + P2.size : Nat) : Int) := by rw [IntKind.wrap_i64]; omega
        clear HN
        have ix := ixP2 P0 P1 P2
        go_wp2_with fail
        refine (Hr.out wr HS.out).mono ?_
        rintro e w1 ⟨rfl, hb1⟩
        have s1 := HS.out.below hb1
        have b1 : Below B w w1 := hb.trans (hb1.mono (Nat.le_of_lt (Nat.lt_of_le_of_lt hB HS.out.lt)))
        go_wp2_with fail
        refine (sh_strings_HasPrefix X P2 w1).mono ?_
        rw [hq]
        rintro e w2 ⟨rfl, rfl⟩
        have H3 := Lib.hid (s1.go (a + P2.size))
        obtain ⟨c0, c1, c2, fz, hlt⟩ := s1
        have f1 := fz 1
        have b3 := Lib.hid (bset' b1 (p := ⟨g, 1, none⟩) hB (.int .i64 ((a + P2.size : Nat) : Int)))
        clear hb1 b1 hq fz c2 c0 HS
        go_wp2
        go_ret
        refine ⟨2, a + P2.size, x, rfl, ?_, HT.out, ?_⟩
        · exact H3.out
        · exact b3.out
    · go_wp2_with fail
      refine (fail_any B g a t _ x wr HS.out Hx.out hB).mono ?_
      rintro e w3 ⟨rfl, y, hy, hs3, hb3⟩
      have H3 := Lib.hid hs3; clear hs3
      have HT := Lib.hid (HE.out y hy HN.out); clear hy
      have b3 := hb.trans hb3
      clear hb3 HS HN
      go_wp2
      go_ret
      exact ⟨0, a, y, rfl, H3.out, HT.out, b3⟩

end Go.Proofs.YtpackpocnonpiaaGreatDoor

/- Contracts of impl.ReadDataKey and of the model's: just of a data key the tier and the numbers. Conditions: the program's table of paths is as its text lays it; a text's length. -/
namespace Go.Proofs.YtpackpocnonpiaaGreatDoor
open Go.ChangeShapes Go.WideShapes Go.ChangeAt Go.RowKit
set_option linter.unusedVariables false
set_option linter.unusedSimpArgs false

def NoKey (key : ByteArray) : Prop := ∀ t n m, ¬ IsKey key t n m

/-- what ReadDataKey answers -/
def KeyCode (key : ByteArray) (t n m cd : Int) : Prop := (65536 < key.size ∧ t = 0 ∧ n = 0 ∧ m = 0 ∧ cd = 2) ∨ (key.size ≤ 65536 ∧ IsKey key t n m ∧ cd = 0) ∨ (key.size ≤ 65536 ∧ NoKey key ∧ t = 0 ∧ n = 0 ∧ m = 0 ∧ cd = 19)

def pathL (k : Nat) : List UInt8 := (pathT k).data.toList
def sixL (k : Nat) : List UInt8 := (sixT k).data.toList

theorem key_list {key : ByteArray} {t n m : Int} (h : IsKey key t n m) : key.data.toList = pathL t.toNat ++ (sixL n.toNat ++ ([45] ++ sixL m.toNat)) ∧ t.toNat < 3 := by
  refine ⟨?_, by have := h.1.2.1; omega⟩
  rw [h.2]
  simp [keyT, pathL, sixL, ByteArray.data_append, Array.toList_append]

theorem path_one {k l : Nat} {A B : List UInt8} (hk : k < 3) (hl : l < 3) (h : pathL k ++ A = pathL l ++ B) : k = l ∧ A = B := by
  match k, hk, l, hl with
  | 0, _, 0, _ => exact ⟨rfl, List.append_cancel_left h⟩
  | 1, _, 1, _ => exact ⟨rfl, List.append_cancel_left h⟩
  | 2, _, 2, _ => exact ⟨rfl, List.append_cancel_left h⟩
  | 0, _, 1, _ => simp [pathL, pathT] at h
  | 0, _, 2, _ => simp [pathL, pathT] at h
  | 1, _, 0, _ => simp [pathL, pathT] at h
  | 1, _, 2, _ => simp [pathL, pathT] at h
  | 2, _, 0, _ => simp [pathL, pathT] at h
  | 2, _, 1, _ => simp [pathL, pathT] at h

theorem sixL_len (k : Nat) : (sixL k).length = 6 := rfl

theorem six_one {k l : Nat} {A B : List UInt8} (hk : k ≤ 999999) (hl : l ≤ 999999) (h : sixL k ++ A = sixL l ++ B) : k = l ∧ A = B := by
  have h1 := congrArg (List.take 6) h
  rw [List.take_left' (sixL_len k), List.take_left' (sixL_len l)] at h1
  have h2 := congrArg dvalK h1
  unfold sixL at h2
  rw [dvalK_six hk, dvalK_six hl] at h2
  subst h2
  exact ⟨rfl, List.append_cancel_left h⟩

theorem parted_of {t : ByteArray} {a : Nat} (h : a ≤ t.size) : ∃ U R, Parted t a U R := by
  have e : t.size = t.data.toList.length := by rw [Array.length_toList]; rfl
  exact ⟨t.data.toList.take a, t.data.toList.drop a, (List.take_append_drop _ _).symm, by rw [List.length_take]; omega⟩

/-- how far a key was read: what was read so far stands in U -/
def StK (key : ByteArray) (a : Nat) (x : Value) (G : List UInt8 → Prop) (U R : List UInt8) : Prop := Parted key a U R ∧ ((x = .nilIface ∧ G U) ∨ (Bad x ∧ NoKey key))

theorem StK.errV {key : ByteArray} {a : Nat} {x : Value} {G : List UInt8 → Prop} {U R : List UInt8} (h : StK key a x G U R) : ErrV x := by
  rcases h.2 with h | h
  · exact Or.inl h.1
  · exact Or.inr h.1

theorem st1 {key : ByteArray} {v a : Nat} {x : Value} (h : Tiered key.data.toList 0 .nilIface v a x) : ∃ U R, StK key a x (fun U => v < 3 ∧ U = pathL v) U R := by
  rcases h with ⟨rfl, R, hv, rfl, e⟩ | ⟨hb, rfl, hn⟩
  · exact ⟨pathL v, R, ⟨e, by rw [Nat.zero_add]; rfl⟩, Or.inl ⟨rfl, hv, rfl⟩⟩
  · exact ⟨[], key.data.toList, ⟨rfl, rfl⟩, Or.inr ⟨hb, fun t n m hk => hn _ _ (key_list hk).2 (key_list hk).1⟩⟩

theorem st2 {key : ByteArray} {v n a a' : Nat} {x x' : Value} {U R : List UInt8} (h : StK key a x (fun U => v < 3 ∧ U = pathL v) U R) (hk : Keyed key R a x n a' x') : ∃ U R, StK key a' x' (fun U => v < 3 ∧ n ≤ 999999 ∧ U = pathL v ++ sixL n) U R := by
  obtain ⟨hp, hx⟩ := h
  rcases hk with ⟨rfl, rfl, hn, R', rfl⟩ | ⟨hb, hle, hn⟩
  · refine ⟨_, _, hp.on, ?_⟩
    rcases hx with ⟨rfl, hv, rfl⟩ | hx
    · exact Or.inl ⟨rfl, hv, hn, rfl⟩
    · exact Or.inr hx
  · obtain ⟨U', R', hp'⟩ := parted_of hle
    refine ⟨U', R', hp', Or.inr ⟨hb, ?_⟩⟩
    rcases hx with ⟨rfl, hv, rfl⟩ | ⟨_, hx⟩
    · intro t i m hk
      obtain ⟨e, h3⟩ := key_list hk
      rw [hp.1] at e
      exact hn _ _ (path_one hv h3 e).2
    · exact hx

theorem st3 {key : ByteArray} {v n a a' : Nat} {x x' : Value} {U R : List UInt8} (h : StK key a x (fun U => v < 3 ∧ n ≤ 999999 ∧ U = pathL v ++ sixL n) U R) (hk : Marked key ⟨#[45]⟩ a x R a' x') : ∃ U R, StK key a' x' (fun U => v < 3 ∧ n ≤ 999999 ∧ U = pathL v ++ sixL n ++ [45]) U R := by
  obtain ⟨hp, hx⟩ := h
  rcases hk with ⟨rfl, rfl, R', rfl⟩ | ⟨hb, rfl, hn⟩
  · refine ⟨_, _, hp.on, ?_⟩
    rcases hx with ⟨rfl, hv, hn, rfl⟩ | hx
    · exact Or.inl ⟨rfl, hv, hn, rfl⟩
    · exact Or.inr hx
  · refine ⟨U, R, hp, Or.inr ⟨hb, ?_⟩⟩
    rcases hx with ⟨rfl, hv, h6, rfl⟩ | ⟨_, hx⟩
    · intro t i m hk
      obtain ⟨e, h3⟩ := key_list hk
      rw [hp.1, List.append_assoc] at e
      exact hn _ (six_one h6 (by have := hk.1.2.2.2.1; omega) (path_one hv h3 e).2).2
    · exact hx

theorem st4 {key : ByteArray} {v n m a a' : Nat} {x x' : Value} {U R : List UInt8} (h : StK key a x (fun U => v < 3 ∧ n ≤ 999999 ∧ U = pathL v ++ sixL n ++ [45]) U R) (hk : Keyed key R a x m a' x') : ∃ U R, StK key a' x' (fun U => v < 3 ∧ n ≤ 999999 ∧ m ≤ 999999 ∧ U = pathL v ++ sixL n ++ [45] ++ sixL m) U R := by
  obtain ⟨hp, hx⟩ := h
  rcases hk with ⟨rfl, rfl, hm, R', rfl⟩ | ⟨hb, hle, hn⟩
  · refine ⟨_, _, hp.on, ?_⟩
    rcases hx with ⟨rfl, hv, hn, rfl⟩ | hx
    · exact Or.inl ⟨rfl, hv, hn, hm, rfl⟩
    · exact Or.inr hx
  · obtain ⟨U', R', hp'⟩ := parted_of hle
    refine ⟨U', R', hp', Or.inr ⟨hb, ?_⟩⟩
    rcases hx with ⟨rfl, hv, h6, rfl⟩ | ⟨_, hx⟩
    · intro t i m hk
      obtain ⟨e, h3⟩ := key_list hk
      rw [hp.1, List.append_assoc, List.append_assoc] at e
      exact hn _ _ (List.append_cancel_left (six_one h6 (by have := hk.1.2.2.2.1; omega) (path_one hv h3 e).2).2)
    · exact hx

theorem st_end {key : ByteArray} {v n m a : Nat} {U R : List UInt8} (h : StK key a .nilIface (fun U => v < 3 ∧ n ≤ 999999 ∧ m ≤ 999999 ∧ U = pathL v ++ sixL n ++ [45] ++ sixL m) U R) : (a = key.size → IsKey key v n m) ∧ (a ≠ key.size → NoKey key) := by
  obtain ⟨hp, hx⟩ := h
  have hx' : v < 3 ∧ n ≤ 999999 ∧ m ≤ 999999 ∧ U = pathL v ++ sixL n ++ [45] ++ sixL m := by
    rcases hx with hx | ⟨⟨s, i, e⟩, _⟩
    · exact hx.2
    · cases e
  clear hx
  have hz := hp.size
  obtain ⟨hv, hn, hm, rfl⟩ := hx'
  refine ⟨fun e => ?_, fun e t i j hk => ?_⟩
  · obtain rfl : R = [] := List.length_eq_zero_iff.1 (by omega)
    refine ⟨⟨by omega, by omega, by omega, by omega, by omega, by omega⟩, ?_⟩
    apply ByteArray.ext
    apply Array.toList_inj.1
    rw [hp.1]
    simp [keyT, pathL, sixL, ByteArray.data_append, Array.toList_append]
  · obtain ⟨e1, h3⟩ := key_list hk
    rw [hp.1, List.append_assoc, List.append_assoc, List.append_assoc] at e1
    have e2 := congrArg List.length (path_one hv h3 e1).2
    simp [sixL_len] at e2
    omega

theorem nil_bad {x : Value} (h : x = .nilIface) (hb : Bad x) : False := by
  obtain ⟨s, n, e⟩ := hb
  rw [h] at e
  cases e

set_option maxRecDepth 100000 in
theorem readKey_any (key : ByteArray) (w : World) (hk : key.size ≤ 2 ^ 63 - 1) (hp : Paths w) (hz : 1 < w.heap.size) : Calls Tryz.prog 86 #[.string key] w fun e w' => ∃ t n m cd, e = .returned (.tuple #[.int .i64 t, .int .i64 n, .int .i64 m, .int .i64 cd]) ∧ KeyCode key t n m cd ∧ Below w.heap.size w w' := by
  have Hp := Lib.hid hp; clear hp
  have cW : (w.alloc (.cells #[.string key] 9)).cell? ⟨w.heap.size, 0, none⟩ = some (.string key) := by simp
  have CW := Lib.hid cW; clear cW
  have bW : Below w.heap.size w (w.alloc (.cells #[.string key] 9)) := bal (Below.refl _ _) _
  go_enter Tryz.func86, Tryz.ntmps86
  go_wp2_with fail
  refine (tooLong_any w.heap.size key _ CW.out hk).mono ?_
  rintro e w0 ⟨rfl, rfl⟩
  have sW : w.heap.size < (w.alloc (.cells #[.string key] 9)).heap.size := by simp
  generalize w.alloc (.cells #[.string key] 9) = w0 at *
  clear CW
  cases hl : decide (65536 < (key.size : Int))
  · have hs : key.size ≤ 65536 := by simp at hl; omega
    clear hl hk
    go_wp2_with fail
    have hSc := Scan.new w0 key 209
    have hb1 : Below w.heap.size w (w0.alloc (.cells #[.string key, .int .i64 0, .nilIface] 209)) := bal bW _
    generalize w0.alloc (.cells #[.string key, .int .i64 0, .nilIface] 209) = w1 at *
    have hB : w.heap.size ≤ w0.heap.size := Nat.le_of_lt sW
    generalize w0.heap.size = g at *
    have HSc := Lib.hid hSc; clear hSc bW
    have hs' : key.size ≤ 1048576 := by omega
    refine (tier_any w.heap.size g 0 key .nilIface [] key.data.toList w1 HSc.out ErrV.nil hB ⟨rfl, rfl⟩ hs' (Hp.out.below hb1 hz)).mono ?_
    rintro e w2 ⟨v, a2, x2, rfl, hS2, hT, hb2⟩
    have HS2 := Lib.hid hS2; clear hS2
    obtain ⟨U2, R2, hst⟩ := st1 hT
    have ST := Lib.hid hst; clear hst hT HSc
    have c2 := hb1.trans hb2
    clear hb1 hb2
    go_wp2_with fail
    refine (keyed_any w.heap.size g a2 key x2 U2 R2 w2 HS2.out ST.out.errV hB ST.out.1 hs').mono ?_
    rintro e w3 ⟨n, a3, x3, rfl, hS3, hK, hb3⟩
    have HS3 := Lib.hid hS3; clear hS3
    obtain ⟨U3, R3, hst⟩ := st2 ST.out hK
    have ST3 := Lib.hid hst; clear hst hK HS2 ST
    have c3 := c2.trans hb3
    clear hb3 c2
    go_wp2_with fail
    refine (mark_any w.heap.size g a3 key ⟨#[45]⟩ x3 U3 R3 w3 HS3.out ST3.out.errV hB ST3.out.1 hs' (by decide)).mono ?_
    rintro e w4 ⟨rfl, a4, x4, hS4, hM, hb4⟩
    have HS4 := Lib.hid hS4; clear hS4
    obtain ⟨U4, R4, hst⟩ := st3 ST3.out hM
    have ST4 := Lib.hid hst; clear hst hM HS3 ST3
    have c4 := c3.trans hb4
    clear hb4 c3
    go_wp2_with fail
    refine (keyed_any w.heap.size g a4 key x4 U4 R4 w4 HS4.out ST4.out.errV hB ST4.out.1 hs').mono ?_
    rintro e w5 ⟨m, a5, x5, rfl, hS5, hK, hb5⟩
    have HS5 := Lib.hid hS5; clear hS5
    obtain ⟨U5, R5, hst⟩ := st4 ST4.out hK
    have ST5 := Lib.hid hst; clear hst hK HS4 ST4
    have c5 := c4.trans hb5
    clear hb5 c4
    cases he : ((a5 : Int) == (key.size : Int))
    · go_wp2_with fail
      refine (atEnd_b g a5 key x5 false w5 HS5.out hs' he).mono ?_
      rintro e w6 ⟨rfl, hb6⟩
      have HS6 := Lib.hid (HS5.out.below hb6)
      have c6 : Below w.heap.size w w6 := c5.trans (hb6.mono (Nat.le_of_lt (Nat.lt_of_le_of_lt hB HS5.out.lt)))
      have hno : NoKey key := by
        rcases ST5.out.2 with ⟨e, _⟩ | ⟨_, h⟩
        · have h5 := ST5.out
          rw [e] at h5
          exact (st_end h5).2 (by intro e; simp at he; omega)
        · exact h
      have HN := Lib.hid hno; clear hno hb6 c5 he
      go_wp2_with fail
      refine (fail_any w.heap.size g a5 key _ x5 w6 HS6.out ST5.out.errV hB).mono ?_
      rintro e w7 ⟨rfl, y, ⟨s, i, rfl⟩, hS7, hb7⟩
      have c7 := c6.trans hb7
      have d2 := hS7.c2
      clear hS7 hb7 c6 ST5 HS5 HS6
      go_wp2
      exact bodyPost_ret (v := .tuple #[.int .i64 0, .int .i64 0, .int .i64 0, .int .i64 19]) (by simp [results, Tryz.results86, go_sem]) rfl ⟨0, 0, 0, 19, rfl, Or.inr (Or.inr ⟨hs, HN.out, rfl, rfl, rfl, rfl⟩), c7⟩
    · go_wp2_with fail
      refine (atEnd_b g a5 key x5 true w5 HS5.out hs' he).mono ?_
      rintro e w6 ⟨rfl, hb6⟩
      have HS6 := HS5.out.below hb6
      have c6 : Below w.heap.size w w6 := c5.trans (hb6.mono (Nat.le_of_lt (Nat.lt_of_le_of_lt hB HS5.out.lt)))
      rcases ST5.out.2 with ⟨rfl, _⟩ | ⟨⟨s, i, rfl⟩, hno⟩
      · have HK := Lib.hid ((st_end ST5.out).1 (by simp at he; omega))
        have d2 := HS6.c2
        clear HS6 HS5 ST5 hb6 c5 he
        go_wp2
        exact bodyPost_ret (v := .tuple #[.int .i64 v, .int .i64 n, .int .i64 m, .int .i64 0]) (by simp [results, Tryz.results86, go_sem]) rfl ⟨v, n, m, 0, rfl, Or.inr (Or.inl ⟨hs, HK.out, rfl⟩), c6⟩
      · have HN := Lib.hid hno; clear hno
        have d2 := HS6.c2
        clear HS6 HS5 ST5 hb6 c5 he
        go_wp2
        exact bodyPost_ret (v := .tuple #[.int .i64 0, .int .i64 0, .int .i64 0, .int .i64 19]) (by simp [results, Tryz.results86, go_sem]) rfl ⟨0, 0, 0, 19, rfl, Or.inr (Or.inr ⟨hs, HN.out, rfl, rfl, rfl, rfl⟩), c6⟩
  · have HL := Lib.hid (show 65536 < key.size by simp at hl; omega)
    clear hl
    go_wp2
    exact bodyPost_ret (v := .tuple #[.int .i64 0, .int .i64 0, .int .i64 0, .int .i64 2]) (by simp [results, Tryz.results86, go_sem]) rfl ⟨0, 0, 0, 2, rfl, Or.inl ⟨HL.out, rfl, rfl, rfl, rfl⟩, bW⟩

theorem isKey_one {key : ByteArray} {t n m t' n' m' : Int} (h : IsKey key t n m) (h' : IsKey key t' n' m') : t = t' ∧ n = n' ∧ m = m' := by
  obtain ⟨e, h3⟩ := key_list h
  obtain ⟨e', h3'⟩ := key_list h'
  rw [e] at e'
  obtain ⟨a1, a2, a3, a4, a5, a6⟩ := h.1
  obtain ⟨b1, b2, b3, b4, b5, b6⟩ := h'.1
  obtain ⟨q1, e'⟩ := path_one h3 h3' e'
  obtain ⟨q2, e'⟩ := six_one (by omega) (by omega) e'
  have e' := List.append_cancel_left e'
  rw [← List.append_nil (sixL m.toNat), ← List.append_nil (sixL m'.toNat)] at e'
  obtain ⟨q3, _⟩ := six_one (by omega) (by omega) e'
  omega

theorem keyCode_one {key : ByteArray} {t n m cd t' n' m' cd' : Int} (h : KeyCode key t n m cd) (h' : KeyCode key t' n' m' cd') : t = t' ∧ n = n' ∧ m = m' ∧ cd = cd' := by
  rcases h with ⟨h, rfl, rfl, rfl, rfl⟩ | ⟨h, hK, rfl⟩ | ⟨h, hN, rfl, rfl, rfl, rfl⟩ <;> rcases h' with ⟨k, rfl, rfl, rfl, rfl⟩ | ⟨k, kK, rfl⟩ | ⟨k, kN, rfl, rfl, rfl, rfl⟩
  · exact ⟨rfl, rfl, rfl, rfl⟩
  · omega
  · omega
  · omega
  · obtain ⟨rfl, rfl, rfl⟩ := isKey_one hK kK
    exact ⟨rfl, rfl, rfl, rfl⟩
  · exact absurd hK (kN _ _ _)
  · omega
  · exact absurd kK (hN _ _ _)
  · exact ⟨rfl, rfl, rfl, rfl⟩

end Go.Proofs.YtpackpocnonpiaaGreatDoor

/- What a right entry and a right record are; contracts of what asks whether one is right, in both packages. Conditions: the program's table of paths is as its text lays it; a text's length. -/
namespace Go.Proofs.YtpackpocnonpiaaGreatDoor
open Go.ChangeShapes Go.WideShapes Go.ChangeAt Go.RowKit Go.Deep Go.Joins
set_option linter.unusedVariables false
set_option linter.unusedSimpArgs false

def AnyKey (key : ByteArray) : Prop := ∃ t n m, IsKey key t n m

/-- an entry is right: its range is not empty, its key a data key of its tier -/
def EntP (e : GEnt) : Prop := (∃ n m, IsKey e.key e.tier n m) ∧ e.beg < e.fin ∧ rngB e.beg e.fin = true

/-- a record is right -/
def RecP (r : GRec) : Prop :=
  (r.kind = 1 ∧ r.tok = 0 ∧ r.tier = 0 ∧ EntP r.ent) ∨ (r.kind = 2 ∧ inB r.tok 1 999999 = true ∧ r.tier = 0 ∧ r.beg = 0 ∧ r.fin = 0 ∧ r.key = ⟨#[]⟩) ∨
  (r.kind = 3 ∧ inB r.tok 1 999999 = true ∧ r.tier ≠ 0 ∧ EntP r.ent) ∨ (r.kind = 4 ∧ inB r.tok 1 999999 = true ∧ EntP r.ent) ∨ (r.kind = 5 ∧ r.tok = 0 ∧ r.tier = 0 ∧ r.beg = 0 ∧ r.fin = 0 ∧ AnyKey r.key)

theorem isKey_size {key : ByteArray} {t n m : Int} (h : IsKey key t n m) : key.size ≤ 17 := by
  rw [h.2]
  unfold keyT
  rw [ByteArray.size_append, ByteArray.size_append, ByteArray.size_append, sixT_size, sixT_size]
  have : (pathT t.toNat).size ≤ 4 := by unfold pathT; split <;> decide
  have : (⟨#[45]⟩ : ByteArray).size = 1 := rfl
  omega

theorem isDataKey_any (key : ByteArray) (w : World) (hk : key.size ≤ 2 ^ 63 - 1) (hp : Paths w) (hz : 1 < w.heap.size) : Calls Tryz.prog 168 #[.string key] w (IsBB (AnyKey key) w) := by
  have Hp := Lib.hid hp; clear hp
  go_enter Tryz.func168, Tryz.ntmps168
  go_wp2_with fail
  refine (readKey_any key w hk Hp.out hz).mono ?_
  rintro e w1 ⟨t, n, m, cd, rfl, hK, hb⟩
  rcases hK with ⟨hl, rfl, rfl, rfl, rfl⟩ | ⟨hl, hK, rfl⟩ | ⟨hl, hN, rfl, rfl, rfl, rfl⟩
  · have HN : Hid (¬ AnyKey key) := Lib.hid (fun ⟨t, n, m, h⟩ => by have := isKey_size h; omega)
    clear hl
    go_wp2
    go_ret
    exact IsBB.no HN.out hb
  · have HY : Hid (AnyKey key) := Lib.hid ⟨t, n, m, hK⟩
    clear hl hK
    go_wp2
    go_ret
    exact IsBB.yes HY.out hb
  · have HN : Hid (¬ AnyKey key) := Lib.hid (fun ⟨t, n, m, h⟩ => hN t n m h)
    clear hl hN
    go_wp2
    go_ret
    exact IsBB.no HN.out hb

theorem EntP.key {e : GEnt} (h : EntP e) : AnyKey e.key := by
  obtain ⟨⟨n, m, h⟩, _⟩ := h
  exact ⟨_, n, m, h⟩

theorem EntP.tier {e : GEnt} (h : EntP e) : 0 ≤ e.tier ∧ e.tier ≤ 2 := by
  obtain ⟨⟨n, m, h⟩, _⟩ := h
  exact ⟨h.1.1, h.1.2.1⟩

theorem entP_iff {e : GEnt} {t n m : Int} (h : IsKey e.key t n m) : EntP e ↔ (t == e.tier) = true ∧ decide (e.beg < e.fin) = true ∧ rngB e.beg e.fin = true := by
  simp only [EntP, beq_iff_eq, decide_eq_true_eq]
  constructor
  · rintro ⟨⟨n', m', h'⟩, h2, h3⟩
    exact ⟨(isKey_one h h').1, h2, h3⟩
  · rintro ⟨rfl, h2, h3⟩
    exact ⟨⟨n, m, h⟩, h2, h3⟩

theorem entRight_any (e : GEnt) (w : World) (hk : e.key.size ≤ 2 ^ 63 - 1) (hp : Paths w) (hz : 1 < w.heap.size) : Calls Tryz.prog 37 #[.agg #[.int .i64 e.tier, .int .i64 e.beg, .int .i64 e.fin, .string e.key]] w (IsBB (EntP e) w) := by
  have Hp := Lib.hid hp; clear hp
  go_enter Tryz.func37, Tryz.ntmps37
  go_wp2_with fail
  refine (readKey_any e.key _ hk (Hp.out.below (bal (Below.refl _ _) _) hz) (by simp <;> omega)).mono ?_
  rintro e' w1 ⟨t, n, m, cd, rfl, hK, hb⟩
  have c0 : w1.cell? ⟨w.heap.size, 0, none⟩ = some (.int .i64 e.tier) := by rw [hb.cell (by simp)]; simp [go_sem]
  have c1 : w1.cell? ⟨w.heap.size, 1, none⟩ = some (.int .i64 e.beg) := by rw [hb.cell (by simp)]; simp [go_sem]
  have c2 : w1.cell? ⟨w.heap.size, 2, none⟩ = some (.int .i64 e.fin) := by rw [hb.cell (by simp)]; simp [go_sem]
  have hbw : Below w.heap.size w w1 := (bal (Below.refl _ _) _).trans (hb.mono (by simp))
  clear hb
  rcases hK with ⟨hl, rfl, rfl, rfl, rfl⟩ | ⟨hl, hK, rfl⟩ | ⟨hl, hN, rfl, rfl, rfl, rfl⟩
  · have HN : Hid (¬ EntP e) := Lib.hid (fun h => by obtain ⟨t, n, m, h⟩ := h.key; have := isKey_size h; omega)
    clear hl
    go_wp2
    go_ret
    exact IsBB.no HN.out hbw
  · have HI := Lib.hid (entP_iff hK)
    clear hl hK
    go_wp2_with (go_at_call 38; refine (isRange_any _ _ _).mono ?_; rintro e w' ⟨rfl, rfl⟩)
    all_goals go_ret
    all_goals refine ⟨_, Iff.trans ?_ HI.out.symm, rfl, hbw⟩
    all_goals first | (simp_all; done) | (simp_all <;> intros <;> omega)
  · have HN : Hid (¬ EntP e) := Lib.hid (fun h => by obtain ⟨t, n, m, h⟩ := h.key; exact hN t n m h)
    clear hl hN
    go_wp2
    go_ret
    exact IsBB.no HN.out hbw

theorem entry_any (r : GRec) (w : World) : Calls Tryz.prog 180 #[.agg #[.int .i64 r.kind, .int .i64 r.tok, .int .i64 r.tier, .int .i64 r.beg, .int .i64 r.fin, .string r.key]] w fun e w' => e = .returned (.agg #[.int .i64 r.tier, .int .i64 r.beg, .int .i64 r.fin, .string r.key]) ∧ Below w.heap.size w w' := by
  go_enter Tryz.func180, Tryz.ntmps180
  go_wp2
  refine bodyPost_ret (v := .agg #[.int .i64 r.tier, .int .i64 r.beg, .int .i64 r.fin, .string r.key]) (by simp [results, Tryz.results180, go_sem]) rfl ⟨rfl, ?_⟩
  repeat' first | exact Below.refl _ _ | refine bal ?_ _ | refine bset ?_ (by simp) _

theorem isToken_any (n : Int) (w : World) : Calls Tryz.prog 181 #[.int .i64 n] w fun e w' => e = .returned (.bool (inB n 1 999999)) ∧ w = w' := by
  go_enter Tryz.func181, Tryz.ntmps181
  go_wp2_with (go_at_call 87; refine (within_any _ _ _ _).mono ?_; rintro e w' ⟨rfl, rfl⟩)
  go_ret
  exact ⟨rfl, rfl⟩

theorem nil_list {k : ByteArray} : (k.toList == (⟨#[]⟩ : ByteArray).toList) = true ↔ k = ⟨#[]⟩ := by
  constructor
  · intro h
    rw [beq_iff_eq, ByteArray.toList_eq, ByteArray.toList_eq] at h
    exact bytes_inj h
  · rintro rfl
    simp

theorem l06Tiered_any (r : GRec) (least : Int) (w : World) (hk : r.key.size ≤ 1048576) : Calls Tryz.prog 33 #[.agg #[.int .i64 r.kind, .int .i64 r.tok, .int .i64 r.tier, .int .i64 r.beg, .int .i64 r.fin, .string r.key], .int .i64 least] w (IsBB (EntP r.ent ∧ least ≤ r.tier) w) := by
  go_enter Tryz.func33, Tryz.ntmps33
  go_wp2_with fail
  refine (toKey_any r.key _ hk).mono ?_
  rintro e w1 ⟨t, n, m, b, rfl, hK, hB⟩
  obtain ⟨c0, c1, c2, c3, c4, c5⟩ : w1.cell? ⟨w.heap.size, 0, none⟩ = some (.int .i64 r.kind) ∧ w1.cell? ⟨w.heap.size, 1, none⟩ = some (.int .i64 r.tok) ∧ w1.cell? ⟨w.heap.size, 2, none⟩ = some (.int .i64 r.tier) ∧ w1.cell? ⟨w.heap.size, 3, none⟩ = some (.int .i64 r.beg) ∧ w1.cell? ⟨w.heap.size, 4, none⟩ = some (.int .i64 r.fin) ∧ w1.cell? ⟨w.heap.size, 5, none⟩ = some (.string r.key) := (RecAt.below (RecAt.new w r 49) hB (by simp)).cells
  have hbw : Below w.heap.size w w1 := (bal (Below.refl _ _) _).trans (hB.mono (by simp))
  clear hB c0 c1 c5
  rcases hK with ⟨rfl, hK⟩ | ⟨rfl, rfl, rfl, rfl, hN⟩
  · have HI : Hid ((EntP r.ent ∧ least ≤ r.tier) ↔ ((t == r.tier) = true ∧ inB r.tier least 2 = true ∧ rngB r.beg r.fin = true ∧ decide (r.beg < r.fin) = true)) := Lib.hid (by
      rw [entP_iff (e := r.ent) hK]
      simp only [GRec.ent, inB_iff, beq_iff_eq, decide_eq_true_eq]
      have := hK.1.2.1
      constructor
      · rintro ⟨⟨a, b, c⟩, d⟩
        exact ⟨a, ⟨d, by omega⟩, c, of_decide_eq_true b⟩
      · rintro ⟨a, ⟨d, _⟩, c, b⟩
        exact ⟨⟨a, decide_eq_true b, c⟩, d⟩)
    clear hK
    go_wp2_with (first | (go_at_call 34; refine (l04Range_any _ _ _).mono ?_; rintro e w' ⟨rfl, rfl⟩) | (go_at_call 80; refine (inL_any _ _ _ _).mono ?_; rintro e w' ⟨rfl, rfl⟩))
    all_goals go_ret
    all_goals refine ⟨_, Iff.trans ?_ HI.out.symm, rfl, hbw⟩
    all_goals simp_all
  · have HN : Hid (¬ EntP r.ent) := Lib.hid (fun h => by obtain ⟨t, n, m, h⟩ := h.key; exact hN t n m h)
    clear hN
    go_wp2
    go_ret
    exact IsBB.no (fun h => HN.out h.1) hbw

end Go.Proofs.YtpackpocnonpiaaGreatDoor

/- Spans and folds of lists that may be nil; what an entry's data have of a window, and what is answered for it. Conditions: none beside lengths. -/
namespace Go.Proofs.YtpackpocnonpiaaGreatDoor
open Go.ChangeShapes Go.WideShapes Go.ChangeAt Go.RowKit
set_option linter.unusedVariables false
set_option linter.unusedSimpArgs false

/-- a slice that is nil is empty; every other one has a block -/
def AddrA {α : Type} (A : Option Addr) (c : Nat) (xs : List α) : Prop := (A = none ∧ c = 0 ∧ xs = []) ∨ ∃ b off, A = some ⟨b, off, none⟩

theorem OwnSl.addr {α : Type} {f : α → List Value} {m : Nat} {e : TypeId} {base : Nat} {w : World} {A : Option Addr} {c : Nat} {xs : List α} (h : OwnSl f m e base w (.slice A xs.length c) xs) : AddrA A c xs := by
  rcases h.2 with ⟨he, hn⟩ | ⟨g, cap, cur, he, _⟩
  · injection he with e1 e2 e3
    exact .inl ⟨e1, e3, List.length_eq_zero_iff.1 e2⟩
  · injection he with e1 e2 e3
    exact .inr ⟨g, 0, e1⟩

set_option maxRecDepth 100000 in
theorem spanSampleA_any (A : Option Addr) (c : Nat) (xs : List GSam) (f t : Int) (hft : f ≤ t) (B : Nat) (w : World) (h : SamsAt w B A xs) (hB : B ≤ w.heap.size) (hl : xs.length ≤ 1048576) (hc : xs.length ≤ c) (hA : AddrA A c xs) :
    Calls Tryz.prog 90 #[.slice A xs.length c, .func (.func 91) #[] #[], .int .i64 f, .int .i64 t] w fun e w' => ∃ (A' : Option Addr) (c' k l : Nat), e = .returned (.slice A' ((xs.take l).drop k).length c') ∧ CntP GSam.t xs f k ∧ CntP GSam.t xs t l ∧ SamsAt w' B A' ((xs.take l).drop k) ∧ Below w.heap.size w w' := by
  rcases hA with ⟨rfl, rfl, rfl⟩ | ⟨b, off, rfl⟩
  rotate_left
  · exact spanSample_any b off c xs f t hft B w h hB hl hc
  go_enter Tryz.func90, Tryz.ntmps90
  go_wp2_with fail
  refine (countSample_any none 0 [] f B w Sl.nil hB (by simp)).mono ?_
  rintro e w1 ⟨k, rfl, hk, hb1⟩
  obtain rfl : k = 0 := by have := hk.1; simpa using this
  have HK := Lib.hid hk; clear hk
  go_wp2_with fail
  refine (countSample_any none 0 [] t B w1 Sl.nil (Nat.le_trans hB hb1.size) (by simp)).mono ?_
  rintro e w2 ⟨l, rfl, hl2, hb2⟩
  obtain rfl : l = 0 := by have := hl2.1; simpa using this
  have HL := Lib.hid hl2; clear hl2
  have b2 := bnext hb1 hb2
  clear hb1 hb2
  go_wp2
  go_ret
  exact ⟨none, 0, 0, 0, rfl, HK.out, HL.out, Sl.nil, b2⟩

set_option maxRecDepth 100000 in
theorem spanBucketA_any (A : Option Addr) (c : Nat) (xs : List GBkt) (f t : Int) (hft : f ≤ t) (B : Nat) (w : World) (h : BktsAt w B A xs) (hB : B ≤ w.heap.size) (hl : xs.length ≤ 1048576) (hc : xs.length ≤ c) (hA : AddrA A c xs) :
    Calls Tryz.prog 165 #[.slice A xs.length c, .func (.func 166) #[] #[], .int .i64 f, .int .i64 t] w fun e w' => ∃ (A' : Option Addr) (c' k l : Nat), e = .returned (.slice A' ((xs.take l).drop k).length c') ∧ CntP GBkt.beg xs f k ∧ CntP GBkt.beg xs t l ∧ BktsAt w' B A' ((xs.take l).drop k) ∧ Below w.heap.size w w' := by
  rcases hA with ⟨rfl, rfl, rfl⟩ | ⟨b, off, rfl⟩
  rotate_left
  · exact spanBucket_any b off c xs f t hft B w h hB hl hc
  go_enter Tryz.func165, Tryz.ntmps165
  go_wp2_with fail
  refine (countBucket_any none 0 [] f B w Sl.nil hB (by simp)).mono ?_
  rintro e w1 ⟨k, rfl, hk, hb1⟩
  obtain rfl : k = 0 := by have := hk.1; simpa using this
  have HK := Lib.hid hk; clear hk
  go_wp2_with fail
  refine (countBucket_any none 0 [] t B w1 Sl.nil (Nat.le_trans hB hb1.size) (by simp)).mono ?_
  rintro e w2 ⟨l, rfl, hl2, hb2⟩
  obtain rfl : l = 0 := by have := hl2.1; simpa using this
  have HL := Lib.hid hl2; clear hl2
  have b2 := bnext hb1 hb2
  clear hb1 hb2
  go_wp2
  go_ret
  exact ⟨none, 0, 0, 0, rfl, HK.out, HL.out, Sl.nil, b2⟩

set_option maxRecDepth 100000 in
set_option maxHeartbeats 1000000 in
theorem foldRangeA_any (A : Option Addr) (c : Nat) (xs : List GBkt) (f t : Int) (B : Nat) (w : World) (h : BktsAt w B A xs) (hB : B ≤ w.heap.size) (hl : xs.length ≤ 1048576) (hc : xs.length ≤ c) (hA : AddrA A c xs) :
    Calls Tryz.prog 93 #[.slice A xs.length c, .int .i64 f, .int .i64 t] w fun e w' => ∃ r cd, e = .returned (.tuple #[.agg #[.int .i64 r.cnt, .int .i64 r.sum, .int .i64 r.mn, .int .i64 r.mx, .int .i64 r.fst, .int .i64 r.lst], .int .i64 cd]) ∧ FoldR xs f t r cd ∧ Below w.heap.size w w' := by
  have H := Lib.hid h; clear h
  have HA := Lib.hid hA; clear hA
  by_cases hlen : 4096 < xs.length
  · have d0 : decide (4096 < (xs.length : Int)) = true := by simp; omega
    have HR := Lib.hid (show FoldR xs f t zAgg 2 from Or.inl ⟨hlen, rfl, rfl⟩)
    clear H
    go_enter Tryz.func93, Tryz.ntmps93
    go_wp2
    refine bodyPost_ret (v := .tuple #[.agg #[.int .i64 0, .int .i64 0, .int .i64 0, .int .i64 0, .int .i64 0, .int .i64 0], .int .i64 2]) (by simp [results, Tryz.results93, go_sem]) rfl ⟨zAgg, 2, rfl, HR.out, bal (Below.refl _ _) _⟩
  have d0 : decide (4096 < (xs.length : Int)) = false := by simp; omega
  go_enter Tryz.func93, Tryz.ntmps93
  go_wp2_with fail
  obtain ⟨W, hW⟩ : ∃ W, W = w.alloc (.cells #[.int .i64 0, .int .i64 0, .int .i64 0, .int .i64 0, .int .i64 0, .int .i64 0] 26) := ⟨_, rfl⟩
  have t0 : Six W w.heap.size zAgg ∧ Free W (some ⟨w.heap.size, 0, none⟩) := by rw [hW]; exact ⟨Six.new w zAgg _, free_alloc w _ _ 0⟩
  have b0 : Below w.heap.size w W := by rw [hW]; exact bal (Below.refl _ _) _
  have s0 : w.heap.size < W.heap.size := by rw [hW]; simp
  rw [← hW]
  clear hW
  have T0 := Lib.hid t0; clear t0
  generalize hx0 : w.heap.size = x0 at *
  have Hx0 := Lib.hid hx0; clear hx0
  refine (bucketsOK_any A c xs B W (Sl.below H.out b0 hB) (by omega) hl).mono ?_
  rintro e w1 ⟨bb, hb, rfl, hb1⟩
  have b1 : Below x0 w w1 := b0.trans (hb1.mono (by omega))
  have s1 : x0 < w1.heap.size := by have := hb1.size; omega
  have T1 := Lib.hid (And.intro (T0.out.1.below hb1 s0) (T0.out.2.below hb1 (fun b e => by simp [blk] at e; omega)))
  clear T0 hb1 b0 s0
  cases bb
  · have HR := Lib.hid (show FoldR xs f t zAgg 1 from Or.inr (Or.inl ⟨by omega, (fun h => Bool.noConfusion (hb.2 h)), rfl, rfl⟩))
    clear hb
    obtain ⟨z0, z1, z2, z3, z4, z5⟩ : (w1.cell? ⟨x0, 0, none⟩ = some (.int .i64 0) ∧ w1.cell? ⟨x0, 1, none⟩ = some (.int .i64 0) ∧ w1.cell? ⟨x0, 2, none⟩ = some (.int .i64 0) ∧ w1.cell? ⟨x0, 3, none⟩ = some (.int .i64 0) ∧ w1.cell? ⟨x0, 4, none⟩ = some (.int .i64 0) ∧ w1.cell? ⟨x0, 5, none⟩ = some (.int .i64 0)) := T1.out.1
    have fz := T1.out.2
    have y0 := fz _ rfl 0
    have y1 := fz _ rfl 1
    have y2 := fz _ rfl 2
    have y3 := fz _ rfl 3
    have y4 := fz _ rfl 4
    have y5 := fz _ rfl 5
    clear fz
    go_wp2
    refine bodyPost_ret (v := .tuple #[.agg #[.int .i64 0, .int .i64 0, .int .i64 0, .int .i64 0, .int .i64 0, .int .i64 0], .int .i64 1]) (by simp [results, Tryz.results93, go_sem, *]) rfl ⟨zAgg, 1, rfl, HR.out, ?_⟩
    rw [Hx0.out]
    exact setAgg_below b1 (Nat.le_refl _) zAgg
  have hp : BktP xs := hb.1 rfl
  have HP := Lib.hid hp; clear hp hb
  go_wp2_with fail
  refine (isRange_any f t _).mono ?_
  rintro e w' ⟨rfl, rfl⟩
  cases hr : rngB f t
  · have HR := Lib.hid (show FoldR xs f t zAgg 4 from Or.inr (Or.inr (Or.inl ⟨HP.out, hr, rfl, rfl⟩)))
    clear hr
    obtain ⟨z0, z1, z2, z3, z4, z5⟩ : (w1.cell? ⟨x0, 0, none⟩ = some (.int .i64 0) ∧ w1.cell? ⟨x0, 1, none⟩ = some (.int .i64 0) ∧ w1.cell? ⟨x0, 2, none⟩ = some (.int .i64 0) ∧ w1.cell? ⟨x0, 3, none⟩ = some (.int .i64 0) ∧ w1.cell? ⟨x0, 4, none⟩ = some (.int .i64 0) ∧ w1.cell? ⟨x0, 5, none⟩ = some (.int .i64 0)) := T1.out.1
    have fz := T1.out.2
    have y0 := fz _ rfl 0
    have y1 := fz _ rfl 1
    have y2 := fz _ rfl 2
    have y3 := fz _ rfl 3
    have y4 := fz _ rfl 4
    have y5 := fz _ rfl 5
    clear fz
    go_wp2
    refine bodyPost_ret (v := .tuple #[.agg #[.int .i64 0, .int .i64 0, .int .i64 0, .int .i64 0, .int .i64 0, .int .i64 0], .int .i64 4]) (by simp [results, Tryz.results93, go_sem, *]) rfl ⟨zAgg, 4, rfl, HR.out, ?_⟩
    rw [Hx0.out]
    exact setAgg_below b1 (Nat.le_refl _) zAgg
  have Hr := Lib.hid hr; clear hr
  go_wp2_with fail
  refine (aggsOf_any A c xs B w1 (Sl.below H.out b1 hB) (by omega) hl).mono ?_
  rintro e w2 ⟨g, rfl, ha, hb2⟩
  have b2 : Below x0 w w2 := b1.trans (hb2.mono (by omega))
  have s2 : x0 < w2.heap.size := by have := hb2.size; omega
  have T2 := Lib.hid (And.intro (T1.out.1.below hb2 s1) (T1.out.2.below hb2 (fun b e => by simp [blk] at e; omega)))
  have hml : (xs.map (·.agg)).length = xs.length := List.length_map _
  have hm := merge_any (some ⟨g, 0, none⟩) xs.length (xs.map (·.agg)) w2.heap.size w2 ha (Nat.le_refl _) (fun x hx => by
    obtain ⟨y, hy, rfl⟩ := List.mem_map.1 hx
    exact HP.out.aggs y hy) (by rw [hml]; omega)
  rw [hml] at hm
  have hM := mergeAll_bkts HP.out.aggs
  clear T1 hb2 b1 s1 ha hml
  by_cases hmany : 100000 < tot (xs.map (·.agg))
  · rw [hM.2 hmany] at hm
    have HR := Lib.hid (show FoldR xs f t zAgg 6 from Or.inr (Or.inr (Or.inr (Or.inl ⟨HP.out, Hr.out, hmany, rfl, rfl⟩))))
    have HM := Lib.hid hm; clear hm hM hmany
    go_wp2_with fail
    refine HM.out.mono ?_
    rintro e w3 ⟨rfl, hb3⟩
    have b3 : Below x0 w w3 := b2.trans (hb3.mono (by omega))
    have s3 : x0 < w3.heap.size := by have := hb3.size; omega
    have T3 := Lib.hid (And.intro (T2.out.1.below hb3 s2) (T2.out.2.below hb3 (fun b e => by simp [blk] at e; omega)))
    clear HM T2 hb3 b2 s2
    unfold GAgg.val zAgg
    dsimp only
    obtain ⟨z0, z1, z2, z3, z4, z5⟩ : (w3.cell? ⟨x0, 0, none⟩ = some (.int .i64 0) ∧ w3.cell? ⟨x0, 1, none⟩ = some (.int .i64 0) ∧ w3.cell? ⟨x0, 2, none⟩ = some (.int .i64 0) ∧ w3.cell? ⟨x0, 3, none⟩ = some (.int .i64 0) ∧ w3.cell? ⟨x0, 4, none⟩ = some (.int .i64 0) ∧ w3.cell? ⟨x0, 5, none⟩ = some (.int .i64 0)) := T3.out.1
    have fz := T3.out.2
    have y0 := fz _ rfl 0
    have y1 := fz _ rfl 1
    have y2 := fz _ rfl 2
    have y3 := fz _ rfl 3
    have y4 := fz _ rfl 4
    have y5 := fz _ rfl 5
    clear fz
    go_wp2
    refine bodyPost_ret (v := .tuple #[.agg #[.int .i64 0, .int .i64 0, .int .i64 0, .int .i64 0, .int .i64 0, .int .i64 0], .int .i64 6]) (by simp [results, Tryz.results93, go_sem, *]) rfl ⟨zAgg, 6, rfl, HR.out, ?_⟩
    rw [Hx0.out]
    exact (setAgg_below b3 (Nat.le_refl _) zAgg).alloc (by rw [setAgg_size]; omega) _
  · rw [hM.1 (by omega)] at hm
    have HM := Lib.hid hm
    have Hmany := Lib.hid (show tot (xs.map (·.agg)) ≤ 100000 by omega)
    clear hm hM hmany
    generalize (xs.map (·.agg)).foldl gMerge zAgg = Q at *
    go_wp2_with fail
    refine HM.out.mono ?_
    rintro e w3 ⟨rfl, hb3⟩
    have b3 : Below x0 w w3 := b2.trans (hb3.mono (by omega))
    have s3 : x0 < w3.heap.size := by have := hb3.size; omega
    have T3 := Lib.hid (And.intro (T2.out.1.below hb3 s2) (T2.out.2.below hb3 (fun b e => by simp [blk] at e; omega)))
    clear HM T2 hb3 b2 s2
    unfold GAgg.val
    go_wp2_with fail
    have b3' : Below x0 w (w3.alloc (.cells #[.int .i64 Q.cnt, .int .i64 Q.sum, .int .i64 Q.mn, .int .i64 Q.mx, .int .i64 Q.fst, .int .i64 Q.lst] 26)) := b3.alloc (by omega) _
    have s3' : x0 < (w3.alloc (.cells #[.int .i64 Q.cnt, .int .i64 Q.sum, .int .i64 Q.mn, .int .i64 Q.mx, .int .i64 Q.fst, .int .i64 Q.lst] 26)).heap.size := by simp; omega
    have T3' := Lib.hid (And.intro (T3.out.1.below (bal (Below.refl _ w3) (.cells #[.int .i64 Q.cnt, .int .i64 Q.sum, .int .i64 Q.mn, .int .i64 Q.mx, .int .i64 Q.fst, .int .i64 Q.lst] 26)) s3) (T3.out.2.below (bal (Below.refl _ w3) (.cells #[.int .i64 Q.cnt, .int .i64 Q.sum, .int .i64 Q.mn, .int .i64 Q.mx, .int .i64 Q.fst, .int .i64 Q.lst] 26)) (fun b e => by simp [blk] at e; omega)))
    clear b3 s3 T3
    generalize w3.alloc (.cells #[.int .i64 Q.cnt, .int .i64 Q.sum, .int .i64 Q.mn, .int .i64 Q.mx, .int .i64 Q.fst, .int .i64 Q.lst] 26) = w4 at *
    have hft := (rngB_iff.1 Hr.out).2.1
    refine (spanBucketA_any A c xs f t hft B w4 (Sl.below H.out b3' hB) (by omega) hl hc HA.out).mono ?_
    rintro e w5 ⟨A5, c5, k, l, rfl, hk, hl5, hs5, hb5⟩
    have hY := span_filter HP.out.ris hk hl5 hft
    have hlY : ((xs.take l).drop k).length ≤ 1048576 := by simp only [List.length_drop, List.length_take]; omega
    generalize (xs.take l).drop k = Y at *
    have b5 : Below x0 w w5 := b3'.trans (hb5.mono (by omega))
    have s5 : x0 < w5.heap.size := by have := hb5.size; omega
    have T5 := Lib.hid (And.intro (T3'.out.1.below hb5 s3') (T3'.out.2.below hb5 (fun b e => by simp [blk] at e; omega)))
    have HS5 := Lib.hid hs5
    clear hk hl5 hs5 hb5 T3' b3' s3'
    have HY := Lib.hid hY; clear hY
    go_wp2_with fail
    refine (aggsOf_any A5 c5 Y B w5 HS5.out (by omega) hlY).mono ?_
    rintro e w6 ⟨g6, rfl, ha6, hb6⟩
    have b6 : Below x0 w w6 := b5.trans (hb6.mono (by omega))
    have s6 : x0 < w6.heap.size := by have := hb6.size; omega
    have T6 := Lib.hid (And.intro (T5.out.1.below hb6 s5) (T5.out.2.below hb6 (fun b e => by simp [blk] at e; omega)))
    have hpY : ∀ x ∈ Y, AggP x.agg := fun x hx => HP.out.aggs x (by rw [HY.out] at hx; exact (List.mem_filter.1 hx).1)
    have hml : (Y.map (·.agg)).length = Y.length := List.length_map _
    have hm := merge_any (some ⟨g6, 0, none⟩) Y.length (Y.map (·.agg)) w6.heap.size w6 ha6 (Nat.le_refl _) (fun x hx => by
      obtain ⟨y, hy, rfl⟩ := List.mem_map.1 hx
      exact hpY y hy) (by rw [hml]; omega)
    have htY : tot (Y.map (·.agg)) ≤ 100000 := by
      have h1 := tot_filter (fun x : GBkt => x.agg) (inR GBkt.beg f t) xs (fun x hx => (HP.out.aggs x hx).nonneg)
      rw [← HY.out] at h1
      have h2 := Hmany.out
      omega
    rw [hml, (mergeAll_bkts hpY).1 htY] at hm
    have hR : FoldR xs f t ((Y.map (·.agg)).foldl gMerge zAgg) 0 := Or.inr (Or.inr (Or.inr (Or.inr ⟨HP.out, Hr.out, Hmany.out, by rw [HY.out]; rfl, rfl⟩)))
    generalize (Y.map (·.agg)).foldl gMerge zAgg = R at *
    have HR := Lib.hid hR
    have HM := Lib.hid hm
    clear hR hm hml hpY htY ha6 hb6 T5 b5 s5 HS5
    go_wp2_with fail
    refine HM.out.mono ?_
    rintro e w7 ⟨rfl, hb7⟩
    have b7 : Below x0 w w7 := b6.trans (hb7.mono (by omega))
    have s7 : x0 < w7.heap.size := by have := hb7.size; omega
    have T7 := Lib.hid (And.intro (T6.out.1.below hb7 s6) (T6.out.2.below hb7 (fun b e => by simp [blk] at e; omega)))
    clear HM T6 hb7 b6 s6
    unfold GAgg.val
    obtain ⟨z0, z1, z2, z3, z4, z5⟩ : (w7.cell? ⟨x0, 0, none⟩ = some (.int .i64 0) ∧ w7.cell? ⟨x0, 1, none⟩ = some (.int .i64 0) ∧ w7.cell? ⟨x0, 2, none⟩ = some (.int .i64 0) ∧ w7.cell? ⟨x0, 3, none⟩ = some (.int .i64 0) ∧ w7.cell? ⟨x0, 4, none⟩ = some (.int .i64 0) ∧ w7.cell? ⟨x0, 5, none⟩ = some (.int .i64 0)) := T7.out.1
    have fz := T7.out.2
    have y0 := fz _ rfl 0
    have y1 := fz _ rfl 1
    have y2 := fz _ rfl 2
    have y3 := fz _ rfl 3
    have y4 := fz _ rfl 4
    have y5 := fz _ rfl 5
    clear fz
    go_wp2
    refine bodyPost_ret (v := .tuple #[.agg #[.int .i64 R.cnt, .int .i64 R.sum, .int .i64 R.mn, .int .i64 R.mx, .int .i64 R.fst, .int .i64 R.lst], .int .i64 0]) (by simp [results, Tryz.results93, go_sem, *]) rfl ⟨R, 0, rfl, HR.out, ?_⟩
    rw [Hx0.out]
    exact setAgg_below b7 (Nat.le_refl _) R

/-- what the data have of a range -/
def WinV (tier : Int) (t : ByteArray) (f u : Int) (r : GAgg) : Prop :=
  (tier = 0 ∧ ∃ xs, SamRead t xs ∧ r = gOf (xs.filter (inR GSam.t f u))) ∨ (tier ≠ 0 ∧ ∃ xs, BktRead t xs ∧ tot (xs.map (·.agg)) ≤ 100000 ∧ r = foldB xs f u)

/-- the data cannot be read, or count too much -/
def WinNo (tier : Int) (t : ByteArray) : Prop := (tier = 0 ∧ NoSam t) ∨ (tier ≠ 0 ∧ (NoBkt t ∨ ∃ xs, BktRead t xs ∧ 100000 < tot (xs.map (·.agg))))

theorem WinV.one {tier : Int} {t : ByteArray} {f u : Int} {r r' : GAgg} (h : WinV tier t f u r) (h' : WinV tier t f u r') : r = r' := by
  rcases h with ⟨h0, xs, h1, rfl⟩ | ⟨h0, xs, h1, h2, rfl⟩ <;> rcases h' with ⟨k0, ys, k1, rfl⟩ | ⟨k0, ys, k1, k2, rfl⟩
  · rw [samRead_one h1 k1]
  · exact absurd h0 k0
  · exact absurd k0 h0
  · rw [bktRead_one h1 k1]

theorem WinV.not {tier : Int} {t : ByteArray} {f u : Int} {r : GAgg} (h : WinV tier t f u r) (h' : WinNo tier t) : False := by
  rcases h with ⟨h0, xs, h1, rfl⟩ | ⟨h0, xs, h1, h2, rfl⟩ <;> rcases h' with ⟨k0, k1⟩ | ⟨k0, k1⟩
  · exact k1 _ h1
  · exact k0 h0
  · exact h0 k0
  · rcases k1 with k1 | ⟨ys, k1, k2⟩
    · exact k1 _ h1
    · rw [bktRead_one h1 k1] at h2; omega

/-- what is answered: the aggregate and the code -/
def WinR (e : GEnt) (t : ByteArray) (f u : Int) (r : GAgg) (cd : Int) : Prop :=
  (65536 < t.size ∧ r = zAgg ∧ cd = 2) ∨ (t.size ≤ 65536 ∧ ¬ EntP e ∧ r = zAgg ∧ cd = 1) ∨ (t.size ≤ 65536 ∧ EntP e ∧ rngB f u = false ∧ r = zAgg ∧ cd = 4) ∨
  (t.size ≤ 65536 ∧ EntP e ∧ rngB f u = true ∧ WinNo e.tier t ∧ r = zAgg ∧ cd = 17) ∨ (t.size ≤ 65536 ∧ EntP e ∧ rngB f u = true ∧ WinV e.tier t f u r ∧ cd = 0)

theorem WinR.one {e : GEnt} {t : ByteArray} {f u : Int} {r r' : GAgg} {cd cd' : Int} (h : WinR e t f u r cd) (h' : WinR e t f u r' cd') : r = r' ∧ cd = cd' := by
  rcases h with ⟨h0, rfl, rfl⟩ | ⟨h0, h1, rfl, rfl⟩ | ⟨h0, h1, h2, rfl, rfl⟩ | ⟨h0, h1, h2, h3, rfl, rfl⟩ | ⟨h0, h1, h2, h3, rfl⟩ <;> rcases h' with ⟨k0, rfl, rfl⟩ | ⟨k0, k1, rfl, rfl⟩ | ⟨k0, k1, k2, rfl, rfl⟩ | ⟨k0, k1, k2, k3, rfl, rfl⟩ | ⟨k0, k1, k2, k3, rfl⟩
  all_goals first
    | exact ⟨rfl, rfl⟩
    | (exfalso; omega)
    | exact absurd k1 h1
    | exact absurd h1 k1
    | (rw [h2] at k2; exact absurd k2 (by decide))
    | exact (h3.not k3).elim
    | exact (k3.not h3).elim
    | exact ⟨h3.one k3, rfl⟩

end Go.Proofs.YtpackpocnonpiaaGreatDoor

/- Contracts of RollUp of both packages and of the program's Downsample. Conditions: none beside lengths. -/
namespace Go.Proofs.YtpackpocnonpiaaGreatDoor
open Go.ChangeShapes Go.WideShapes Go.ChangeAt Go.RowKit
set_option linter.unusedVariables false
set_option linter.unusedSimpArgs false

/-- buckets and a code are answered, the buckets in new memory of their own -/
def BkAns (R : List GBkt → Int → Prop) (w : World) (e : Ending) (w' : World) : Prop :=
  ∃ (L : List GBkt) (cd : Int) (A : Option Addr) (c : Nat), e = .returned (.tuple #[.slice A L.length c, .int .i64 cd]) ∧ R L cd ∧ BktsAt w' w'.heap.size A L ∧ Free w' A ∧ (∀ b, blk A = some b → w.heap.size ≤ b ∧ b < w'.heap.size) ∧ L.length ≤ c ∧ Below w.heap.size w w'

theorem own_bkts (w : World) (e : TypeId) : BktsAt (w.alloc (.cells #[] e)) (w.alloc (.cells #[] e)).heap.size (some ⟨w.heap.size, 0, none⟩) [] ∧ Free (w.alloc (.cells #[] e)) (some ⟨w.heap.size, 0, none⟩) := ⟨Sl.nil, free_alloc w _ _ 0⟩

end Go.Proofs.YtpackpocnonpiaaGreatDoor

/- Contracts of the model's l04Down and Downsample. Conditions: none beside lengths. -/
namespace Go.Proofs.YtpackpocnonpiaaGreatDoor
open Go.ChangeShapes Go.WideShapes Go.ChangeAt Go.RowKit
set_option linter.unusedVariables false
set_option linter.unusedSimpArgs false

theorem samv_one (s : GSam) : ∀ u ∈ GSam.vals s, u.oneCell' = true := by
  intro u hu
  simp [GSam.vals] at hu
  rcases hu with rfl | rfl <;> rfl

theorem new_samv (w : World) (s : GSam) (e : TypeId) : Sl GSam.vals 2 (w.alloc (.cells #[.int .i64 s.t, .int .i64 s.v] e)) (w.heap.size + 1) (some ⟨w.heap.size, 0, none⟩) [s] := by
  intro _
  refine ⟨w.heap.size, 0, rfl, by omega, fun k hk j v hv => ?_⟩
  obtain rfl : k = 0 := by simpa using hk
  rw [World.cell?_alloc_new]
  match j, hv with
  | 0, hv => simpa [GSam.vals] using hv
  | 1, hv => simpa [GSam.vals] using hv
  | j + 2, hv => simp [GSam.vals] at hv

/-- of the first so many, those in the range -/
def pickK (xs : List GSam) (f t : Int) (k : Nat) : List GSam := (xs.take k).filter (inR GSam.t f t)

theorem pickK_in {xs : List GSam} {f t : Int} {k : Nat} (h : k < xs.length) (hi : inR GSam.t f t xs[k] = true) : pickK xs f t (k + 1) = pickK xs f t k ++ [xs[k]] := by
  unfold pickK
  rw [List.take_succ_eq_append_getElem h, List.filter_append, List.filter_cons_of_pos hi, List.filter_nil]

theorem pickK_out {xs : List GSam} {f t : Int} {k : Nat} (h : k < xs.length) (hi : inR GSam.t f t xs[k] = false) : pickK xs f t (k + 1) = pickK xs f t k := by
  unfold pickK
  rw [List.take_succ_eq_append_getElem h, List.filter_append, List.filter_cons_of_neg (by simp [hi]), List.filter_nil, List.append_nil]

theorem pickK_all (xs : List GSam) (f t : Int) : pickK xs f t xs.length = xs.filter (inR GSam.t f t) := by unfold pickK; rw [List.take_length]

end Go.Proofs.YtpackpocnonpiaaGreatDoor

/- Contracts of the model's l08Window and WindowOf. Conditions: sizes. -/
namespace Go.Proofs.YtpackpocnonpiaaGreatDoor
open Go.ChangeShapes Go.WideShapes Go.ChangeAt Go.RowKit
set_option linter.unusedVariables false
set_option linter.unusedSimpArgs false

/-- the box of an answer: six noughts that may be written -/
def ZBox (w : World) (x : Nat) : Prop := (w.cell? ⟨x, 0, none⟩ = some (.int .i64 0) ∧ w.cell? ⟨x, 1, none⟩ = some (.int .i64 0) ∧ w.cell? ⟨x, 2, none⟩ = some (.int .i64 0) ∧ w.cell? ⟨x, 3, none⟩ = some (.int .i64 0) ∧ w.cell? ⟨x, 4, none⟩ = some (.int .i64 0) ∧ w.cell? ⟨x, 5, none⟩ = some (.int .i64 0)) ∧ ∀ i, w.frozen? ⟨x, i, none⟩ = false

theorem ZBox.below {w w' : World} {x B : Nat} (h : ZBox w x) (hb : Below B w w') (hB : x < B) : ZBox w' x :=
  ⟨⟨(hb.cell (p := ⟨x, 0, none⟩) hB).trans h.1.1, (hb.cell (p := ⟨x, 1, none⟩) hB).trans h.1.2.1, (hb.cell (p := ⟨x, 2, none⟩) hB).trans h.1.2.2.1, (hb.cell (p := ⟨x, 3, none⟩) hB).trans h.1.2.2.2.1, (hb.cell (p := ⟨x, 4, none⟩) hB).trans h.1.2.2.2.2.1, (hb.cell (p := ⟨x, 5, none⟩) hB).trans h.1.2.2.2.2.2⟩, fun i => (hb.frozen (p := ⟨x, i, none⟩) hB).trans (h.2 i)⟩

theorem ZBox.new (w : World) (t : TypeId) : ZBox (w.alloc (.cells #[.int .i64 0, .int .i64 0, .int .i64 0, .int .i64 0, .int .i64 0, .int .i64 0] t)) w.heap.size :=
  ⟨⟨by simp, by simp, by simp, by simp, by simp, by simp⟩, fun i => by simp [go_sem]⟩

set_option maxRecDepth 100000 in
set_option maxHeartbeats 2000000 in
theorem l08Window_any (e : GEnt) (t : ByteArray) (f u : Int) (hr : rngB f u = true) (ht : t.size ≤ 65536) (w : World) :
    Calls Tryz.prog 35 #[.agg #[.int .i64 e.tier, .int .i64 e.beg, .int .i64 e.fin, .string e.key], .string t, .int .i64 f, .int .i64 u] w fun x w' => ∃ r b, x = .returned (.tuple #[.agg #[.int .i64 r.cnt, .int .i64 r.sum, .int .i64 r.mn, .int .i64 r.mx, .int .i64 r.fst, .int .i64 r.lst], .bool b]) ∧ ((b = true ∧ WinV e.tier t f u r) ∨ (b = false ∧ WinNo e.tier t)) ∧ Below w.heap.size w w' := by
  obtain ⟨r1, r2, r3⟩ := rngB_iff.1 hr
  by_cases h0 : e.tier = 0
  · have d0 : (e.tier == 0) = true := by simpa using h0
    have H0 := Lib.hid h0; clear h0 hr
    go_enter Tryz.func35, Tryz.ntmps35
    go_wp2_with fail
    obtain ⟨W, hW⟩ : ∃ W, W = (w.alloc (.cells #[.int .i64 e.tier, .int .i64 e.beg, .int .i64 e.fin, .string e.key] 29)).alloc (.cells #[.int .i64 0, .int .i64 0, .int .i64 0, .int .i64 0, .int .i64 0, .int .i64 0] 26) := ⟨_, rfl⟩
    have q0 : ZBox W (w.heap.size + 1) := by rw [hW]; simpa using ZBox.new (w.alloc (.cells #[.int .i64 e.tier, .int .i64 e.beg, .int .i64 e.fin, .string e.key] 29)) 26
    have b0 : Below w.heap.size w W := by rw [hW]; exact bal (bal (Below.refl _ _) _) _
    have s0 : w.heap.size + 1 < W.heap.size := by rw [hW]; simp
    rw [← hW]
    clear hW
    have Q0 := Lib.hid q0; clear q0
    generalize hx0 : w.heap.size = x0 at *
    have Hx0 := Lib.hid hx0; clear hx0
    refine (toSamples_any t W (by omega)).mono ?_
    rintro x w1 ⟨A, c, xs, b, rfl, hs, ho, hb1⟩
    obtain ⟨hsl, _, hbl, _⟩ := OwnSl.sl ho (fun x => rfl)
    have HSL := Lib.hid hsl
    have hlen : xs.length ≤ 8 := by rcases hs with ⟨_, h⟩ | ⟨_, rfl, _⟩; (· exact h.2.1); (· simp)
    have HV : Hid (∀ s ∈ xs, -1000000 ≤ s.v ∧ s.v ≤ 1000000) := Lib.hid (by rcases hs with ⟨_, h⟩ | ⟨_, rfl, _⟩; (· exact h.1.vals); (· simp))
    have HS := Lib.hid hs
    have b1 : Below x0 w w1 := b0.trans (hb1.mono (by omega))
    have Q1 := Lib.hid (Q0.out.below hb1 s0)
    have s1 : x0 + 1 < w1.heap.size := by have := hb1.size; omega
    clear hs ho hsl hbl Q0 hb1 b0 s0
    go_wp2_with fail
    have o0 : OwnSl GSam.vals 2 142 w1.heap.size (w1.alloc (.cells #[] 142)) (.slice (some ⟨w1.heap.size, 0, none⟩) 0 0) [] := own_empty _ _ _ w1
    have hbw : Below w1.heap.size w1 (w1.alloc (.cells #[] 142)) := bal (Below.refl _ _) _
    generalize w1.alloc (.cells #[] 142) = w0 at o0 hbw ⊢
    have O0 := Lib.hid o0; clear o0
    go_loopw [12, 13] (fun s i wr => ∃ (k : Nat) (ys : List GSam) (A : Option Addr) (c : Nat), k ≤ xs.length ∧ i = .int .i64 k ∧ s = .slice A ys.length c ∧ ys.length ≤ k ∧ Hid (OwnSl GSam.vals 2 142 w1.heap.size wr (.slice A ys.length c) ys) ∧ Hid (ys = pickK xs f u k) ∧ Below w1.heap.size w1 wr) (fun _ i _ => xs.length - (intOf i).toNat)
    case atStart => exact ⟨0, [], _, _, by omega, rfl, rfl, by simp, O0, Lib.hid (by simp [pickK]), hbw⟩
    case round =>
      clear O0 hbw
      obtain ⟨k, ys, A1, c1, hk, rfl, rfl, hyk, HO, HY, hb⟩ := hrel
      by_cases hlt : k < xs.length
      · obtain ⟨b1', o1, rfl, hb1', p0, p1⟩ := SamsAt.sam (Sl.below HSL.out hb (Nat.le_refl _)) hlt
        have hi : inB xs[k].t f (u - 1) = inR GSam.t f u xs[k] := by
          rw [Bool.eq_iff_iff]; simp only [inB_iff, inR, decide_eq_true_eq]; omega
        have Hi := Lib.hid hi; clear hi
        have wt : wrap64 (u - 1) = u - 1 := by unfold wrap64; omega
        cases hin : inR GSam.t f u xs[k]
        · have HF := Lib.hid (HY.out.trans (pickK_out hlt hin).symm)
          rw [hin] at Hi
          clear hin HY
          go_wp2_with fail
          refine (inL_any _ _ _ _).mono ?_
          rw [Hi.out]
          rintro e w' ⟨rfl, rfl⟩
          go_wp2
          go_roundw
          case rel => exact ⟨k + 1, ys, A1, c1, by omega, by go_num, rfl, by omega, HO, HF, hb⟩
          case measure => simp [intOf]; omega
        · have HF := Lib.hid (show ys ++ [xs[k]] = pickK xs f u (k + 1) by rw [pickK_in hlt hin, ← HY.out])
          rw [hin] at Hi
          clear hin HY
          go_wp2_with fail
          refine (inL_any _ _ _ _).mono ?_
          rw [Hi.out]
          rintro e w' ⟨rfl, rfl⟩
          have hO4 := HO.out.below (bal (Below.refl _ wr) (.cells #[.int .i64 xs[k].t, .int .i64 xs[k].v] 142))
          have HO4 := Lib.hid hO4; clear hO4
          have HN := Lib.hid (new_samv wr xs[k] 142)
          have sz : w1.heap.size ≤ wr.heap.size := hb.size
          have Hb4 := Lib.hid (show Below w1.heap.size w1 (wr.alloc (.cells #[.int .i64 xs[k].t, .int .i64 xs[k].v] 142)) from bal hb _)
          clear HO
          go_wp2_with (at_builtin; refine wpList_append_sl GSam.vals 2 16 (fun _ => rfl) samv_one 138 142 _ infoSam rfl (by omega) Tryz.underlying138 rfl _ _ rfl w1.heap.size ys [xs[k]] (.slice A1 ys.length c1) rfl HO4.out (some ⟨wr.heap.size, 0, none⟩) 1 (wr.heap.size + 1) rfl HN.out (by simp [maxLen]; omega) (by simp; omega) (by simp; omega) ?_; intro v' w5 hO5 hg5 _; obtain ⟨zs, hzs⟩ : ∃ zs, zs = ys ++ [xs[k]] := ⟨_, rfl⟩; rw [← hzs] at hO5; have HZS := Lib.hid hzs; clear hzs; obtain ⟨A5, c5, rfl⟩ := hO5.form; have HO5 := Lib.hid hO5; clear hO5; have Hg5 := Lib.hid hg5; clear hg5)
          have hb5 : Below w1.heap.size w1 w5 := Hb4.out.trans (below_of_grown Hg5.out (by simp; omega) (fun g e => (World.ownsRow.lt HO4.out g e).1))
          have hzl : zs.length ≤ k + 1 := by rw [HZS.out]; simp; omega
          go_roundw
          case rel => exact ⟨k + 1, zs, A5, c5, by omega, by go_num, rfl, hzl, HO5, Lib.hid (by rw [HZS.out]; exact HF.out), hb5⟩
          case measure => simp [intOf]; omega
      · obtain rfl : k = xs.length := by omega
        have hy : ys = xs.filter (inR GSam.t f u) := HY.out.trans (pickK_all xs f u)
        have hvy : ∀ s ∈ ys, -1000000 ≤ s.v ∧ s.v ≤ 1000000 := fun s hs => HV.out s (by rw [hy] at hs; exact (List.mem_filter.1 hs).1)
        have HVY := Lib.hid hvy
        have HYF := Lib.hid hy
        clear hy HY hvy
        obtain ⟨hsl, _, _, _⟩ := OwnSl.sl HO.out (fun x => rfl)
        have HSL2 := Lib.hid hsl; clear hsl HO
        go_wp2_with fail
        refine (l02Of_m A1 c1 ys wr.heap.size wr HSL2.out (Nat.le_refl _) (by omega) HVY.out).mono ?_
        rintro x w2 ⟨r, rfl, hr, hb2⟩
        have HR : Hid ((b = true ∧ WinV e.tier t f u r) ∨ (b = false ∧ WinNo e.tier t)) := Lib.hid (by
          rcases HS.out with ⟨h1, h2⟩ | ⟨h1, _, h2⟩
          · exact .inl ⟨h1, .inl ⟨H0.out, xs, h2, by rw [hr, HYF.out]⟩⟩
          · exact .inr ⟨h1, .inl ⟨H0.out, h2⟩⟩)
        have hb12 : Below w1.heap.size w1 w2 := hb.trans (hb2.mono hb.size)
        have b2 : Below x0 w w2 := b1.trans (hb12.mono (by omega))
        have Q2 := Lib.hid (Q1.out.below hb12 s1)
        clear hr hb2 hb12 HSL2 HVY HYF hb
        obtain ⟨z0, z1, z2, z3, z4, z5⟩ := Q2.out.1
        have y0 := Q2.out.2 0
        have y1 := Q2.out.2 1
        have y2 := Q2.out.2 2
        have y3 := Q2.out.2 3
        have y4 := Q2.out.2 4
        have y5 := Q2.out.2 5
        go_wp2
        refine bodyPost_ret (v := .tuple #[.agg #[.int .i64 r.cnt, .int .i64 r.sum, .int .i64 r.mn, .int .i64 r.mx, .int .i64 r.fst, .int .i64 r.lst], .bool b]) (by simp [results, Tryz.results35, go_sem, *]) rfl ⟨r, b, rfl, HR.out, ?_⟩
        rw [Hx0.out]
        repeat' first | refine Below.setCell ?_ (by show x0 ≤ x0 + 1; omega) _ | exact b2
  · have d0 : (e.tier == 0) = false := by simpa using h0
    have H0 := Lib.hid h0; clear h0
    have Hr := Lib.hid hr; clear hr
    go_enter Tryz.func35, Tryz.ntmps35
    go_wp2_with fail
    obtain ⟨W, hW⟩ : ∃ W, W = (w.alloc (.cells #[.int .i64 e.tier, .int .i64 e.beg, .int .i64 e.fin, .string e.key] 29)).alloc (.cells #[.int .i64 0, .int .i64 0, .int .i64 0, .int .i64 0, .int .i64 0, .int .i64 0] 26) := ⟨_, rfl⟩
    have q0 : ZBox W (w.heap.size + 1) := by rw [hW]; simpa using ZBox.new (w.alloc (.cells #[.int .i64 e.tier, .int .i64 e.beg, .int .i64 e.fin, .string e.key] 29)) 26
    have b0 : Below w.heap.size w W := by rw [hW]; exact bal (bal (Below.refl _ _) _) _
    have s0 : w.heap.size + 1 < W.heap.size := by rw [hW]; simp
    rw [← hW]
    clear hW
    have Q0 := Lib.hid q0; clear q0
    generalize hx0 : w.heap.size = x0 at *
    have Hx0 := Lib.hid hx0; clear hx0
    refine (toBuckets_any t W (by omega)).mono ?_
    rintro x w1 ⟨A, c, xs, b, rfl, hs, ho, hb1⟩
    obtain ⟨hsl, _, hbl, _⟩ := OwnSl.sl ho (fun x => rfl)
    have HSL := Lib.hid hsl
    have hlen : xs.length ≤ 8 := by rcases hs with ⟨_, h⟩ | ⟨_, rfl, _⟩; (· exact h.1.1); (· simp)
    have HV : Hid (∀ s ∈ xs, AggP s.agg) := Lib.hid (by rcases hs with ⟨_, h⟩ | ⟨_, rfl, _⟩; (· exact h.1.aggs); (· simp))
    have HS := Lib.hid hs
    have b1 : Below x0 w w1 := b0.trans (hb1.mono (by omega))
    have Q1 := Lib.hid (Q0.out.below hb1 s0)
    have s1 : x0 + 1 < w1.heap.size := by have := hb1.size; omega
    clear hs ho hsl hbl Q0 hb1 b0 s0
    go_wp2_with fail
    refine (l04Fold_any A c xs f u Hr.out w1.heap.size w1 HSL.out (Nat.le_refl _) hlen HV.out).mono ?_
    rintro x w2 ⟨r, rfl, hrr, hb2⟩
    have b2 : Below x0 w w2 := b1.trans (hb2.mono (by omega))
    have Q2 := Lib.hid (Q1.out.below hb2 s1)
    have HSL2 := Lib.hid (Sl.below HSL.out hb2 (Nat.le_refl _))
    have s2 : w1.heap.size ≤ w2.heap.size := hb2.size
    clear Q1 HSL hb2 b1
    cases b
    · have HR : Hid (WinNo e.tier t) := Lib.hid (by
        rcases HS.out with ⟨h1, _⟩ | ⟨_, _, h2⟩
        · cases h1
        · exact .inr ⟨H0.out, .inl h2⟩)
      clear hrr HS HSL2 HV
      obtain ⟨z0, z1, z2, z3, z4, z5⟩ := Q2.out.1
      have y0 := Q2.out.2 0
      have y1 := Q2.out.2 1
      have y2 := Q2.out.2 2
      have y3 := Q2.out.2 3
      have y4 := Q2.out.2 4
      have y5 := Q2.out.2 5
      go_wp2
      refine bodyPost_ret (v := .tuple #[.agg #[.int .i64 r.cnt, .int .i64 r.sum, .int .i64 r.mn, .int .i64 r.mx, .int .i64 r.fst, .int .i64 r.lst], .bool false]) (by simp [results, Tryz.results35, go_sem, *]) rfl ⟨r, false, rfl, .inr ⟨rfl, HR.out⟩, ?_⟩
      rw [Hx0.out]
      repeat' first | refine Below.setCell ?_ (by show x0 ≤ x0 + 1; omega) _ | exact b2
    · have hbr : BktRead t xs := by
        rcases HS.out with ⟨_, h2⟩ | ⟨h1, _⟩
        · exact h2
        · cases h1
      have HR : Hid ((decide (tot (xs.map (·.agg)) ≤ 100000) = true ∧ WinV e.tier t f u r) ∨ (decide (tot (xs.map (·.agg)) ≤ 100000) = false ∧ WinNo e.tier t)) := Lib.hid (by
        by_cases hq : tot (xs.map (·.agg)) ≤ 100000
        · exact .inl ⟨decide_eq_true hq, .inr ⟨H0.out, xs, hbr, hq, hrr⟩⟩
        · exact .inr ⟨decide_eq_false hq, .inr ⟨H0.out, .inr ⟨xs, hbr, by omega⟩⟩⟩)
      clear hrr HS hbr
      go_wp2_with fail
      refine (l04Count_any A c xs w1.heap.size w2 HSL2.out hlen HV.out).mono ?_
      rintro x w9 ⟨rfl, rfl⟩
      clear HV HSL2
      generalize tot (xs.map (·.agg)) = n at *
      obtain ⟨z0, z1, z2, z3, z4, z5⟩ := Q2.out.1
      have y0 := Q2.out.2 0
      have y1 := Q2.out.2 1
      have y2 := Q2.out.2 2
      have y3 := Q2.out.2 3
      have y4 := Q2.out.2 4
      have y5 := Q2.out.2 5
      go_wp2
      refine bodyPost_ret (v := .tuple #[.agg #[.int .i64 r.cnt, .int .i64 r.sum, .int .i64 r.mn, .int .i64 r.mx, .int .i64 r.fst, .int .i64 r.lst], .bool (decide (n ≤ 100000))]) (by simp [results, Tryz.results35, go_sem, *]) rfl ⟨r, decide (n ≤ 100000), rfl, HR.out, ?_⟩
      rw [Hx0.out]
      repeat' first | refine Below.setCell ?_ (by show x0 ≤ x0 + 1; omega) _ | exact b2

end Go.Proofs.YtpackpocnonpiaaGreatDoor

/- Contracts of what reads a number: the program's readNumber (over the library's Atoi, Itoa, TrimPrefix) and the model's l00Number, l02Number: just a number's text is read, at least those of 18 digits. Conditions: the library's table of powers of ten is as its text lays it, its two errors' variables hold errors; a text's length. -/
namespace Go.Proofs.YtpackpocnonpiaaGreatDoor
open Go.ChangeShapes Go.WideShapes Go.ChangeAt Go.RowKit
set_option linter.unusedVariables false
set_option linter.unusedSimpArgs false

/-- the library's errors stand in their variables -/
def Errs (w : World) : Prop := (∃ ev, w.cell? ⟨4, 0, none⟩ = some ev ∧ (ev = .nilIface ∨ ∃ te pe, ev = .iface te pe)) ∧ (∃ ev, w.cell? ⟨5, 0, none⟩ = some ev ∧ (ev = .nilIface ∨ ∃ te pe, ev = .iface te pe))

theorem Errs.below {w w' : World} {B : Nat} (h : Errs w) (hb : Below B w w') (hB : w.heap.size ≤ B) : Errs w' := by
  obtain ⟨⟨e1, h1, k1⟩, ⟨e2, h2, k2⟩⟩ := h
  have l1 := World.block_lt_of_cell? w _ h1
  have l2 := World.block_lt_of_cell? w _ h2
  exact ⟨⟨e1, (hb.cell (Nat.lt_of_lt_of_le l1 hB)).trans h1, k1⟩, ⟨e2, (hb.cell (Nat.lt_of_lt_of_le l2 hB)).trans h2, k2⟩⟩

theorem bytes_below (w : World) (e : TypeId) (s : ByteArray) : Below w.heap.size w (Lib.bytesWorld w e s) :=
  ⟨rfl, rfl, rfl, by simp [Lib.bytesWorld, World.freeze], fun i hi => Lib.bytesWorld_at_old w e s i hi⟩

/-- how Atoi ends -/
def AtoiEnd (t : ByteArray) (w : World) (e : Ending) (w' : World) : Prop := Below w.heap.size w w' ∧ ((∃ v, Lib.atoiAll t.data.toList = .ok v ∧ e = .returned (.tuple #[.int .i64 v, .nilIface])) ∨ (∃ v N, (∀ u, Lib.atoiAll t.data.toList ≠ .ok u) ∧ e = .returned (.tuple #[.int .i64 v, .iface 286 (.pointer (some ⟨N, 0, none⟩))])))

theorem atoi_any (t : ByteArray) (w : World) (ht : t.size ≤ 1048576) (hE : Errs w) : Calls Tryz.prog 190 #[.string t] w (AtoiEnd t w) := by
  cases h : Lib.atoiAll t.data.toList with
  | ok v =>
    refine (sh_strconv_Atoi_ok t (by omega) v h w).mono ?_
    rintro e w' ⟨rfl, hw⟩
    refine ⟨?_, Or.inl ⟨v, h, rfl⟩⟩
    rcases hw with rfl | ⟨s, rfl⟩
    · exact Below.refl _ _
    · exact bytes_below _ _ _
  | «syntax» =>
    obtain ⟨ev, h1, h2⟩ := hE.1
    refine (sh_strconv_Atoi_syntax t (by omega) h ev w h1 h2).mono ?_
    rintro e w' ⟨N, rfl, _, _, hb⟩
    exact ⟨hb, Or.inr ⟨_, N, fun u hu => (by rw [h] at hu; cases hu), rfl⟩⟩
  | range =>
    obtain ⟨ev, h1, h2⟩ := hE.2
    refine (sh_strconv_Atoi_range t (by omega) h ev w h1 h2).mono ?_
    rintro e w' ⟨N, rfl, _, _, hb⟩
    exact ⟨hb, Or.inr ⟨_, N, fun u hu => (by rw [h] at hu; cases hu), rfl⟩⟩

theorem small_fit {m : Int} (h : Small m) : -9223372036854775808 ≤ m ∧ m ≤ 9223372036854775807 := by unfold Small at h; omega

/-- what readNumber answers -/
def RdEnd (t : ByteArray) (w : World) (e : Ending) (w' : World) : Prop := ∃ n b, e = .returned (.tuple #[.int .i64 n, .bool b]) ∧ NumRd t n b ∧ (b = false → n = 0) ∧ Below w.heap.size w w'

set_option maxRecDepth 100000 in
theorem readNumber_any (t : ByteArray) (w : World) (ht : t.size ≤ 1048576) (hE : Errs w) (hP : Pow w) : Calls Tryz.prog 140 #[.string t] w (RdEnd t w) := by
  have HE := Lib.hid hE; clear hE
  have HP := Lib.hid hP; clear hP
  go_enter Tryz.func140, Tryz.ntmps140
  go_wp2_with fail
  refine (atoi_any t w ht HE.out).mono ?_
  rintro e w1 ⟨hb1, ⟨v, hv, rfl⟩ | ⟨v, N, hno, rfl⟩⟩
  · have hf := atoi_fit hv
    have HV := Lib.hid hv; clear hv
    go_wp2_with fail
    refine (itoa_any v w1 hf.1 hf.2 (HP.out.below hb1 (Nat.le_refl _))).mono ?_
    rintro e w2 ⟨rfl, hb2⟩
    have b2 := bnext hb1 hb2
    by_cases he : numT v = t
    · have dn : ((numT v).toList != t.toList) = false := by rw [he]; simp
      have de : ((numT v).toList == t.toList) = true := by rw [he]; simp
      have HT := Lib.hid (show t = numT v from he.symm)
      have Hf := Lib.hid hf
      have HS := Lib.hid (show ∀ m, Small m → t = numT m → (Lib.trimPrefix t.data.toList [45]).length ≤ 18 from fun m hm e => by rw [e]; exact trim_len hm)
      clear hb1 hb2 he hf HV
      obtain ⟨X, hX⟩ : ∃ X, X = numT v := ⟨_, rfl⟩
      rw [← hX] at dn de ⊢
      clear hX
      go_wp2_with fail
      refine (sh_strings_TrimPrefix t ⟨#[45]⟩ w2).mono ?_
      rintro e w3 ⟨rfl, rfl⟩
      obtain ⟨Z, hZ⟩ : ∃ Z : ByteArray, Z = ⟨(Lib.trimPrefix t.data.toList [45]).toArray⟩ := ⟨_, rfl⟩
      rw [show (⟨(Lib.trimPrefix t.data.toList (⟨#[45]⟩ : ByteArray).data.toList).toArray⟩ : ByteArray) = Z from hZ.symm]
      have hzs : Z.size = (Lib.trimPrefix t.data.toList [45]).length := by rw [hZ]; simp [ByteArray.size]
      have hzl : Z.size ≤ 1048576 := by
        rw [hzs]
        have e1 : t.data.toList.length = t.size := by rw [Array.length_toList]; rfl
        unfold Lib.trimPrefix
        split
        · rw [List.length_drop]; omega
        · omega
      clear hZ
      cases hl : decide (18 < (Z.size : Int))
      · clear HS hzs
        go_wp2
        exact bodyPost_ret (v := .tuple #[.int .i64 v, .bool true]) (by simp [results, Tryz.results140, go_sem]) rfl ⟨v, true, rfl, Or.inl ⟨rfl, HT.out, Hf.out.1, Hf.out.2⟩, fun h => (by cases h), b2⟩
      · have HN := Lib.hid (show ∀ m, Small m → t ≠ numT m from fun m hm e => by
          have := HS.out m hm e
          simp at hl
          omega)
        clear HS hzs
        go_wp2
        exact bodyPost_ret (v := .tuple #[.int .i64 0, .bool false]) (by simp [results, Tryz.results140, go_sem]) rfl ⟨0, false, rfl, Or.inr ⟨rfl, HN.out⟩, fun _ => rfl, b2⟩
    · have hne : (numT v).toList ≠ t.toList := fun h => he (by
        rw [ByteArray.toList_eq, ByteArray.toList_eq] at h
        exact ByteArray.ext (Array.toList_inj.1 h))
      have dn : ((numT v).toList != t.toList) = true := by simpa using hne
      have de : ((numT v).toList == t.toList) = false := by simpa using hne
      have HN := Lib.hid (show ∀ m, Small m → t ≠ numT m from fun m hm e => by
        have := HV.out
        rw [e, atoi_num (small_fit hm).1 (small_fit hm).2] at this
        injection this with this
        exact he (by rw [e, this]))
      clear hb1 hb2 he hf HV hne
      generalize numT v = X at *
      go_wp2
      exact bodyPost_ret (v := .tuple #[.int .i64 0, .bool false]) (by simp [results, Tryz.results140, go_sem]) rfl ⟨0, false, rfl, Or.inr ⟨rfl, HN.out⟩, fun _ => rfl, b2⟩
  · have HN := Lib.hid (show ∀ m, Small m → t ≠ numT m from fun m hm e => hno m (by rw [e]; exact atoi_num (small_fit hm).1 (small_fit hm).2))
    clear hno
    go_wp2
    exact bodyPost_ret (v := .tuple #[.int .i64 0, .bool false]) (by simp [results, Tryz.results140, go_sem]) rfl ⟨0, false, rfl, Or.inr ⟨rfl, HN.out⟩, fun _ => rfl, hb1⟩

end Go.Proofs.YtpackpocnonpiaaGreatDoor

/- Contracts of the program's scanner.number and scanner.sample. Conditions: the library's table of powers of ten is as its text lays it, its two errors' variables hold errors; a text's length. -/
namespace Go.Proofs.YtpackpocnonpiaaGreatDoor
open Go.ChangeShapes Go.WideShapes Go.ChangeAt Go.RowKit
set_option linter.unusedVariables false
set_option linter.unusedSimpArgs false

/-- a byte that a number's text may have -/
def numC (b : UInt8) : Prop := isDig b ∨ b = 45

theorem num_bytes (m : Int) : ∀ b ∈ (numT m).data.toList, numC b := by
  rw [num_list]
  intro b hb
  by_cases h0 : 0 ≤ m
  · rw [itoa_pos h0] at hb
    exact Or.inl ((dec_facts m.toNat).1 b hb)
  · rw [itoa_neg (by omega)] at hb
    simp at hb
    rcases hb with rfl | hb
    · exact Or.inr rfl
    · exact Or.inl ((dec_facts m.natAbs).1 b hb)

/-- what number does: it takes all the bytes that a number may have -/
def Numbered (R : List UInt8) (a : Nat) (x : Value) (n : Int) (D R' : List UInt8) (x' : Value) : Prop := R = D ++ R' ∧ (∀ b ∈ D, numC b) ∧ (∀ b r, R' = b :: r → ¬ numC b) ∧ ((x' = x ∧ D = (numT n).data.toList ∧ FitI n) ∨ (Bad x' ∧ ∀ m, Small m → D ≠ (numT m).data.toList))

theorem ext_piece {t : ByteArray} {a d : Nat} {U R : List UInt8} (h : Parted t a U R) (hd : d ≤ R.length) : (t.extract a (a + d)).data.toList = R.take d := by
  rw [ext_list, h.1, h.2, List.take_append, List.drop_append]
  simp

theorem isDigit_c (n : Int) (b : Bool) (h : digB n = b) (w : World) : Calls Tryz.prog 197 #[.int .u8 n] w fun e w' => e = .returned (.bool b) ∧ w = w' := by
  subst h
  exact isDigit_any n w

set_option maxRecDepth 100000 in
set_option maxHeartbeats 1000000 in
theorem number_g (g a : Nat) (t : ByteArray) (x : Value) (U R : List UInt8) (w : World) (h : Scan w g t a x) (hx : ErrV x) (hp : Parted t a U R) (hs : t.size ≤ 1000000) (hEP : ∀ w', w.grownBy w' (some g) → Errs w' ∧ Pow w') :
    Calls Tryz.prog 199 #[.pointer (some ⟨g, 0, none⟩)] w fun e w' => ∃ (n : Int) (D R' : List UInt8) (x' : Value), e = .returned (.int .i64 n) ∧ Scan w' g t (a + D.length) x' ∧ Numbered R a x n D R' x' ∧ w.grownBy w' (some g) := by
  have Hx := Lib.hid hx; clear hx
  have H := Lib.hid h
  have HP := Lib.hid hp
  have HEP := Lib.hid hEP; clear hEP
  have Hsz := Lib.hid hp.size
  have hat := hp.le
  obtain ⟨c0, c1, c2, fz, hlt⟩ := h
  clear hp fz c2
  go_enter Tryz.func199, Tryz.ntmps199
  go_wp2_with fail
  go_loopw [3] (fun e wr => ∃ (d p : Nat), Hid (p = a + d) ∧ e = .int .i64 p ∧ d ≤ R.length ∧ p ≤ t.size ∧ a ≤ p ∧ Hid (∀ b ∈ R.take d, numC b) ∧ wr = w) (fun e _ => t.size - (intOf e).toNat)
  case atStart => exact ⟨0, a, Lib.hid rfl, rfl, by omega, by omega, Nat.le_refl _, Lib.hid (by simp), rfl⟩
  case round =>
    obtain ⟨d, p, HPd, rfl, hd, hpt, hap, HD, rfl⟩ := hrel
    have i0 : (0 : Int) ≤ (p : Int) := by omega
    by_cases hlt2 : p < t.size
    · have hdl : d < R.length := by have := HPd.out; have := Hsz.out; omega
      have hbyte : t[p] = R[d] := by
        obtain ⟨hs', e⟩ := HP.out.at_ d hdl
        have := HPd.out
        subst this
        exact e
      have i1 : (p : Int) < (t.size : Int) := by omega
      have HB1 := Lib.hid (show ∀ (hc : numC R[d]), ∀ b ∈ R.take (d + 1), numC b from fun hc b hb => by
        rw [List.take_succ_eq_append_getElem hdl] at hb
        rcases List.mem_append.1 hb with hb | hb
        · exact HD.out b hb
        · simp at hb; subst hb; exact hc)
      cases hdg : digB (t[p].toNat : Int)
      · cases h45 : ((t[p].toNat : Int) == 45)
        · have HST := Lib.hid (show ∀ b r, R.drop d = b :: r → ¬ numC b from fun b r e hc => by
            rw [List.drop_eq_getElem_cons hdl] at e
            injection e with e _
            rw [← e, ← hbyte] at hc
            rcases hc with hc | hc
            · unfold isDig at hc
              simp [digB] at hdg
              omega
            · rw [hc] at h45; cases h45)
          clear HB1 hbyte
          go_wp2_with (go_at_call 197; refine (isDigit_c _ false hdg _).mono ?_; rintro e w' ⟨rfl, rfl⟩)
          have hXs : (t.extract a p).size ≤ 1000000 := by rw [ByteArray.size_extract]; omega
          have hXD : (t.extract a p).data.toList = R.take d := by rw [HPd.out]; exact ext_piece HP.out hd
          obtain ⟨X, hX⟩ : ∃ X, X = t.extract a p := ⟨_, rfl⟩
          rw [← hX] at hXs hXD
          have HRD := Lib.hid (fun w' (h : wr.grownBy w' (some g)) => readNumber_any X w' (by omega) (HEP.out w' h).1 (HEP.out w' h).2)
          have HXN := Lib.hid (show ∀ n b x', NumRd X n b → (b = true → x' = x) → (b = false → Bad x') → Numbered R a x n (R.take d) (R.drop d) x' from fun n b x' h h1 h2 => by
            refine ⟨(List.take_append_drop _ _).symm, HD.out, HST.out, ?_⟩
            rcases h with ⟨rfl, rfl, f1, f2⟩ | ⟨rfl, hno⟩
            · exact Or.inl ⟨h1 rfl, hXD.symm, f1, f2⟩
            · exact Or.inr ⟨h2 rfl, fun m hm e => hno m hm (ba_eq (by rw [hXD, e]))⟩)
          have HDL := Lib.hid (show a + (R.take d).length = p by rw [List.length_take, HPd.out]; omega)
          have SC := Lib.hid (H.out.below (Below.refl _ wr).drew)
          have j0 : (0 : Int) ≤ (a : Int) := by omega
          have j1 : (a : Int) ≤ (p : Int) := by omega
          have j2 : (p : Int) ≤ (t.size : Int) := by omega
          have eX := hX.symm
          clear hX hXD HD HST
          go_wp2_with fail
          refine wp_region_noPanic ?_
          refine wp_region_held_drew (S := (fun w' => w'.cell? ⟨g, 0, none⟩ = some (.string t) ∧ w'.cell? ⟨g, 1, none⟩ = some (.int .i64 (a : Int)))) (by kernel_rfl) (⟨SC.out.c0, SC.out.c1⟩) (fun hHeld => ?_)
          refine wpAnyH_take (i := 0) (oi := { dst := some 38, op := Op.move (Operand.tmp 0), type := 205, pos := "l03_codec.go:207", after := #[], guard := none }) (v := ?vc0) rfl (by kernel_rfl) (by kernel_rfl) (by kernel_rfl) (fun _ _ _ h => h) (Or.inl ⟨by rfl, ?hyc0⟩) (by assumption) ?restc0
          case hyc0 => intro w hSw; (try dsimp only at hSw); (obtain ⟨s0, s1⟩ := hSw); (first | (go_simp; done) | (go_simp; with_reducible rfl) | (with_reducible rfl))
          try simp only [Act.put, List.setIfInBounds_toArray, List.set_cons_zero, List.set_cons_succ]
          refine wpAnyH_take (i := 1) (oi := { dst := some 39, op := Op.nilCheck (Operand.tmp 38), type := 0, pos := "l03_codec.go:207", after := #[{ on := 0, ground := Ground.data }], guard := none }) (v := ?vc1) rfl (by kernel_rfl) (by kernel_rfl) (by kernel_rfl) (fun _ _ _ h => h) (Or.inl ⟨by rfl, ?hyc1⟩) (by assumption) ?restc1
          case hyc1 => intro w hSw; (try dsimp only at hSw); (obtain ⟨s0, s1⟩ := hSw); (first | (go_simp; done) | (go_simp; with_reducible rfl) | (with_reducible rfl))
          try simp only [Act.put, List.setIfInBounds_toArray, List.set_cons_zero, List.set_cons_succ]
          refine wpAnyH_take (i := 2) (oi := { dst := some 40, op := Op.fieldAddr 209 (Operand.tmp 39) 0, type := 0, pos := "l03_codec.go:207", after := #[{ on := 1, ground := Ground.data }], guard := none }) (v := ?vc2) rfl (by kernel_rfl) (by kernel_rfl) (by kernel_rfl) (fun _ _ _ h => h) (Or.inl ⟨by rfl, ?hyc2⟩) (by assumption) ?restc2
          case hyc2 => intro w hSw; (try dsimp only at hSw); (obtain ⟨s0, s1⟩ := hSw); (first | (go_simp; done) | (go_simp; with_reducible rfl) | (with_reducible rfl))
          try simp only [Act.put, List.setIfInBounds_toArray, List.set_cons_zero, List.set_cons_succ]
          refine wpAnyH_take (i := 3) (oi := { dst := some 41, op := Op.load 9 (Operand.tmp 40), type := 9, pos := "l03_codec.go:207", after := #[{ on := 2, ground := Ground.data }], guard := none }) (v := ?vc3) rfl (by kernel_rfl) (by kernel_rfl) (by kernel_rfl) (fun _ _ _ h => h) (Or.inl ⟨by rfl, ?hyc3⟩) (by assumption) ?restc3
          case hyc3 => intro w hSw; (try dsimp only at hSw); (obtain ⟨s0, s1⟩ := hSw); (first | (go_simp; done) | (go_simp; with_reducible rfl) | (with_reducible rfl))
          try simp only [Act.put, List.setIfInBounds_toArray, List.set_cons_zero, List.set_cons_succ]
          refine wpAnyH_take (i := 4) (oi := { dst := some 42, op := Op.move (Operand.tmp 0), type := 205, pos := "l03_codec.go:207", after := #[], guard := none }) (v := ?vc4) rfl (by kernel_rfl) (by kernel_rfl) (by kernel_rfl) (fun _ _ _ h => h) (Or.inl ⟨by rfl, ?hyc4⟩) (by assumption) ?restc4
          case hyc4 => intro w hSw; (try dsimp only at hSw); (obtain ⟨s0, s1⟩ := hSw); (first | (go_simp; done) | (go_simp; with_reducible rfl) | (with_reducible rfl))
          try simp only [Act.put, List.setIfInBounds_toArray, List.set_cons_zero, List.set_cons_succ]
          refine wpAnyH_take (i := 5) (oi := { dst := some 43, op := Op.nilCheck (Operand.tmp 42), type := 0, pos := "l03_codec.go:207", after := #[{ on := 4, ground := Ground.data }], guard := none }) (v := ?vc5) rfl (by kernel_rfl) (by kernel_rfl) (by kernel_rfl) (fun _ _ _ h => h) (Or.inl ⟨by rfl, ?hyc5⟩) (by assumption) ?restc5
          case hyc5 => intro w hSw; (try dsimp only at hSw); (obtain ⟨s0, s1⟩ := hSw); (first | (go_simp; done) | (go_simp; with_reducible rfl) | (with_reducible rfl))
          try simp only [Act.put, List.setIfInBounds_toArray, List.set_cons_zero, List.set_cons_succ]
          refine wpAnyH_take (i := 6) (oi := { dst := some 44, op := Op.fieldAddr 209 (Operand.tmp 43) 1, type := 0, pos := "l03_codec.go:207", after := #[{ on := 5, ground := Ground.data }], guard := none }) (v := ?vc6) rfl (by kernel_rfl) (by kernel_rfl) (by kernel_rfl) (fun _ _ _ h => h) (Or.inl ⟨by rfl, ?hyc6⟩) (by assumption) ?restc6
          case hyc6 => intro w hSw; (try dsimp only at hSw); (obtain ⟨s0, s1⟩ := hSw); (first | (go_simp; done) | (go_simp; with_reducible rfl) | (with_reducible rfl))
          try simp only [Act.put, List.setIfInBounds_toArray, List.set_cons_zero, List.set_cons_succ]
          refine wpAnyH_take (i := 7) (oi := { dst := some 45, op := Op.load 3 (Operand.tmp 44), type := 3, pos := "l03_codec.go:207", after := #[{ on := 6, ground := Ground.data }], guard := none }) (v := ?vc7) rfl (by kernel_rfl) (by kernel_rfl) (by kernel_rfl) (fun _ _ _ h => h) (Or.inl ⟨by rfl, ?hyc7⟩) (by assumption) ?restc7
          case hyc7 => intro w hSw; (try dsimp only at hSw); (obtain ⟨s0, s1⟩ := hSw); (first | (go_simp; done) | (go_simp; with_reducible rfl) | (with_reducible rfl))
          try simp only [Act.put, List.setIfInBounds_toArray, List.set_cons_zero, List.set_cons_succ]
          refine wpAnyH_take (i := 8) (oi := { dst := some 46, op := Op.move (Operand.tmp 3), type := 3, pos := "l03_codec.go:207", after := #[], guard := none }) (v := ?vc8) rfl (by kernel_rfl) (by kernel_rfl) (by kernel_rfl) (fun _ _ _ h => h) (Or.inl ⟨by rfl, ?hyc8⟩) (by assumption) ?restc8
          case hyc8 => intro w hSw; (try dsimp only at hSw); (obtain ⟨s0, s1⟩ := hSw); (first | (go_simp; done) | (go_simp; with_reducible rfl) | (with_reducible rfl))
          try simp only [Act.put, List.setIfInBounds_toArray, List.set_cons_zero, List.set_cons_succ]
          refine wpAnyH_take (i := 9) (oi := { dst := some 47, op := Op.slice 9 (Operand.tmp 41) (some (Operand.tmp 45)) (some (Operand.tmp 46)) none, type := 9, pos := "l03_codec.go:207", after := #[{ on := 3, ground := Ground.data }, { on := 7, ground := Ground.data }, { on := 8, ground := Ground.data }], guard := none }) (v := ?vc9) rfl (by kernel_rfl) (by kernel_rfl) (by kernel_rfl) (fun _ _ _ h => h) (Or.inl ⟨by rfl, ?hyc9⟩) (by assumption) ?restc9
          case hyc9 => intro w hSw; (try dsimp only at hSw); (obtain ⟨s0, s1⟩ := hSw); (first | (go_simp; done) | (go_simp; with_reducible rfl) | (with_reducible rfl))
          try simp only [Act.put, List.setIfInBounds_toArray, List.set_cons_zero, List.set_cons_succ]
          refine wpAnyH_ready (rs := [10]) (by kernel_rfl) (by simp) ?_
          refine AllReadyH.cons (o := { dst := some 48, op := Op.call { callee := Callee.value (Operand.func 140), args := #[Operand.tmp 47], argTypes := #[9] }, type := 193, pos := "l03_codec.go:207", after := #[{ on := 9, ground := Ground.data }], guard := none }) rfl (fun K hK => ?_) AllReadyH.nil
          go_simp
          refine (HRD.out wr.drew (grown_of_below (Below.refl _ wr).drew _)).mono ?_
          rintro e w1 ⟨n, b, rfl, hn, hn0, hb1⟩
          have SC1 := Lib.hid (SC.out.below hb1)
          go_wp2_with fail
          refine hK.out _ _ (⟨SC1.out.c0, SC1.out.c1⟩) (fun hHeld => ?_)
          clear hK K
          try simp only [Act.put, List.setIfInBounds_toArray, List.set_cons_zero, List.set_cons_succ]
          refine wpAnyH_take (i := 11) (oi := { dst := some 37, op := Op.move (Operand.tmp 48), type := 193, pos := "l03_codec.go:207", after := #[{ on := 10, ground := Ground.data }], guard := none }) (v := ?vc11) rfl (by kernel_rfl) (by kernel_rfl) (by kernel_rfl) (fun _ _ _ h => h) (Or.inl ⟨by rfl, ?hyc11⟩) (by assumption) ?restc11
          case hyc11 => intro w hSw; (try dsimp only at hSw); (obtain ⟨s0, s1⟩ := hSw); (first | (go_simp; done) | (go_simp; with_reducible rfl) | (with_reducible rfl))
          try simp only [Act.put, List.setIfInBounds_toArray, List.set_cons_zero, List.set_cons_succ]
          refine wpAnyH_take (i := 12) (oi := { dst := some 49, op := Op.extract (Operand.tmp 37) 0, type := 3, pos := "l03_codec.go:207", after := #[{ on := 11, ground := Ground.data }], guard := none }) (v := ?vc12) rfl (by kernel_rfl) (by kernel_rfl) (by kernel_rfl) (fun _ _ _ h => h) (Or.inl ⟨by rfl, ?hyc12⟩) (by assumption) ?restc12
          case hyc12 => intro w hSw; (try dsimp only at hSw); (obtain ⟨s0, s1⟩ := hSw); (first | (go_simp; done) | (go_simp; with_reducible rfl) | (with_reducible rfl))
          try simp only [Act.put, List.setIfInBounds_toArray, List.set_cons_zero, List.set_cons_succ]
          refine wpAnyH_take (i := 13) (oi := { dst := some 50, op := Op.extract (Operand.tmp 37) 1, type := 4, pos := "l03_codec.go:207", after := #[{ on := 11, ground := Ground.data }, { on := 14, ground := Ground.gcOnly Departure.lateStores }], guard := none }) (v := ?vc13) rfl (by kernel_rfl) (by kernel_rfl) (by kernel_rfl) (fun _ _ _ h => h) (Or.inl ⟨by rfl, ?hyc13⟩) (by assumption) ?restc13
          case hyc13 => intro w hSw; (try dsimp only at hSw); (obtain ⟨s0, s1⟩ := hSw); (first | (go_simp; done) | (go_simp; with_reducible rfl) | (with_reducible rfl))
          try simp only [Act.put, List.setIfInBounds_toArray, List.set_cons_zero, List.set_cons_succ]
          refine wpAnyH_take (i := 14) (oi := { dst := some 4, op := Op.assign (Operand.tmp 49), type := 3, pos := "l03_codec.go:207", after := #[{ on := 12, ground := Ground.data }, { on := 10, ground := Ground.chain }, { on := 0, ground := Ground.phase }, { on := 1, ground := Ground.phase }, { on := 2, ground := Ground.phase }, { on := 3, ground := Ground.phase }, { on := 4, ground := Ground.phase }, { on := 5, ground := Ground.phase }, { on := 6, ground := Ground.phase }, { on := 7, ground := Ground.phase }, { on := 8, ground := Ground.phase }, { on := 9, ground := Ground.phase }, { on := 10, ground := Ground.phase }, { on := 11, ground := Ground.phase }, { on := 12, ground := Ground.phase }, { on := 13, ground := Ground.textOnly Departure.lateStores }], guard := none }) (v := ?vc14) rfl (by kernel_rfl) (by kernel_rfl) (by kernel_rfl) (fun _ _ _ h => h) (Or.inl ⟨by rfl, ?hyc14⟩) (by assumption) ?restc14
          case hyc14 => intro w hSw; (try dsimp only at hSw); (obtain ⟨s0, s1⟩ := hSw); (first | (go_simp; done) | (go_simp; with_reducible rfl) | (with_reducible rfl))
          try simp only [Act.put, List.setIfInBounds_toArray, List.set_cons_zero, List.set_cons_succ]
          refine wpAnyH_take (i := 15) (oi := { dst := some 5, op := Op.assign (Operand.tmp 50), type := 4, pos := "l03_codec.go:207", after := #[{ on := 13, ground := Ground.data }, { on := 14, ground := Ground.chain }, { on := 0, ground := Ground.phase }, { on := 1, ground := Ground.phase }, { on := 2, ground := Ground.phase }, { on := 3, ground := Ground.phase }, { on := 4, ground := Ground.phase }, { on := 5, ground := Ground.phase }, { on := 6, ground := Ground.phase }, { on := 7, ground := Ground.phase }, { on := 8, ground := Ground.phase }, { on := 9, ground := Ground.phase }, { on := 10, ground := Ground.phase }, { on := 11, ground := Ground.phase }, { on := 12, ground := Ground.phase }, { on := 13, ground := Ground.phase }, { on := 14, ground := Ground.phase }], guard := none }) (v := ?vc15) rfl (by kernel_rfl) (by kernel_rfl) (by kernel_rfl) (fun _ _ _ h => h) (Or.inl ⟨by rfl, ?hyc15⟩) (by assumption) ?restc15
          case hyc15 => intro w hSw; (try dsimp only at hSw); (obtain ⟨s0, s1⟩ := hSw); (first | (go_simp; done) | (go_simp; with_reducible rfl) | (with_reducible rfl))
          try simp only [Act.put, List.setIfInBounds_toArray, List.set_cons_zero, List.set_cons_succ]
          refine wpAnyH_done (by kernel_rfl) ?_ _
          refine NoPanic.normal ?_
          have b1 : wr.grownBy w1 (some g) := grown_trans (grown_of_below (Below.refl _ wr).drew _) (grown_of_below hb1 _)
          cases b
          · obtain rfl : n = 0 := hn0 rfl
            have HN := Lib.hid hn; clear hn hn0
            have c2' := hHeld
            clear hHeld c2' hb1 SC HRD
            go_wp2_with fail
            refine (fail_g g a t _ x w1 SC1.out Hx.out).mono ?_
            rintro e w3 ⟨rfl, y, hy, hs3, hb3⟩
            have HNN := Lib.hid (HXN.out 0 false y HN.out (fun h => by cases h) (fun _ => hy))
            have H4 := Lib.hid (hs3.go p)
            have b3 := Lib.hid (grown_setCell (grown_trans b1 hb3) ⟨g, 1, none⟩ (Or.inl rfl) (.int .i64 (p : Int)))
            obtain ⟨d0, d1, d2, dz, dlt⟩ := hs3
            have f1 := dz 1
            clear dz d2 d0 hb3 b1 SC1 HXN HN hy c0 c1
            go_wp2
            go_ret
            refine ⟨0, R.take d, R.drop d, y, rfl, ?_, HNN.out, ?_⟩
            · rw [HDL.out]; exact H4.out
            · exact b3.out
          · have HNN := Lib.hid (HXN.out n true x hn (fun _ => rfl) (fun h => by cases h))
            have hs3 := SC1.out
            have H4 := Lib.hid (hs3.go p)
            have b3 := Lib.hid (grown_setCell b1 ⟨g, 1, none⟩ (Or.inl rfl) (.int .i64 (p : Int)))
            obtain ⟨d0, d1, d2, dz, dlt⟩ := hs3
            have f1 := dz 1
            clear dz d2 d0 b1 SC1 HXN hn hn0 hHeld hb1 SC HRD c0 c1
            go_wp2
            go_ret
            refine ⟨n, R.take d, R.drop d, x, rfl, ?_, HNN.out, ?_⟩
            · rw [HDL.out]; exact H4.out
            · exact b3.out
        · have HC := Lib.hid (HB1.out (Or.inr (by rw [← hbyte]; exact UInt8.toNat_inj.1 (by have e : (45 : UInt8).toNat = 45 := rfl; simp at h45; omega))))
          clear HB1 hbyte
          go_wp2_with (go_at_call 197; refine (isDigit_c _ false hdg _).mono ?_; rintro e w' ⟨rfl, rfl⟩)
          exact ⟨⟨d + 1, p + 1, Lib.hid (by have := HPd.out; omega), by go_num, by omega, by omega, by omega, HC, trivial⟩, by simp [intOf]; omega⟩
      · have HC := Lib.hid (HB1.out (Or.inl (by rw [← hbyte]; unfold isDig; simp [digB] at hdg; omega)))
        clear HB1 hbyte
        go_wp2_with (go_at_call 197; refine (isDigit_c _ true hdg _).mono ?_; rintro e w' ⟨rfl, rfl⟩)
        exact ⟨⟨d + 1, p + 1, Lib.hid (by have := HPd.out; omega), by go_num, by omega, by omega, by omega, HC, trivial⟩, by simp [intOf]; omega⟩
    · have hdl : d = R.length := by have := HPd.out; have := Hsz.out; omega
      have HST := Lib.hid (show ∀ b r, R.drop d = b :: r → ¬ numC b from fun b r e => by
        rw [List.drop_of_length_le (by omega)] at e
        cases e)
      have i1 : ¬ (p : Int) < (t.size : Int) := by omega
      clear hdl
      have hXs : (t.extract a p).size ≤ 1000000 := by rw [ByteArray.size_extract]; omega
      have hXD : (t.extract a p).data.toList = R.take d := by rw [HPd.out]; exact ext_piece HP.out hd
      obtain ⟨X, hX⟩ : ∃ X, X = t.extract a p := ⟨_, rfl⟩
      rw [← hX] at hXs hXD
      have HRD := Lib.hid (fun w' (h : wr.grownBy w' (some g)) => readNumber_any X w' (by omega) (HEP.out w' h).1 (HEP.out w' h).2)
      have HXN := Lib.hid (show ∀ n b x', NumRd X n b → (b = true → x' = x) → (b = false → Bad x') → Numbered R a x n (R.take d) (R.drop d) x' from fun n b x' h h1 h2 => by
        refine ⟨(List.take_append_drop _ _).symm, HD.out, HST.out, ?_⟩
        rcases h with ⟨rfl, rfl, f1, f2⟩ | ⟨rfl, hno⟩
        · exact Or.inl ⟨h1 rfl, hXD.symm, f1, f2⟩
        · exact Or.inr ⟨h2 rfl, fun m hm e => hno m hm (ba_eq (by rw [hXD, e]))⟩)
      have HDL := Lib.hid (show a + (R.take d).length = p by rw [List.length_take, HPd.out]; omega)
      have SC := Lib.hid (H.out.below (Below.refl _ wr).drew)
      have j0 : (0 : Int) ≤ (a : Int) := by omega
      have j1 : (a : Int) ≤ (p : Int) := by omega
      have j2 : (p : Int) ≤ (t.size : Int) := by omega
      have eX := hX.symm
      clear hX hXD HD HST
      go_wp2_with fail
      refine wp_region_noPanic ?_
      refine wp_region_held_drew (S := (fun w' => w'.cell? ⟨g, 0, none⟩ = some (.string t) ∧ w'.cell? ⟨g, 1, none⟩ = some (.int .i64 (a : Int)))) (by kernel_rfl) (⟨SC.out.c0, SC.out.c1⟩) (fun hHeld => ?_)
      refine wpAnyH_take (i := 0) (oi := { dst := some 38, op := Op.move (Operand.tmp 0), type := 205, pos := "l03_codec.go:207", after := #[], guard := none }) (v := ?vd0) rfl (by kernel_rfl) (by kernel_rfl) (by kernel_rfl) (fun _ _ _ h => h) (Or.inl ⟨by rfl, ?hyd0⟩) (by assumption) ?restd0
      case hyd0 => intro w hSw; (try dsimp only at hSw); (obtain ⟨s0, s1⟩ := hSw); (first | (go_simp; done) | (go_simp; with_reducible rfl) | (with_reducible rfl))
      try simp only [Act.put, List.setIfInBounds_toArray, List.set_cons_zero, List.set_cons_succ]
      refine wpAnyH_take (i := 1) (oi := { dst := some 39, op := Op.nilCheck (Operand.tmp 38), type := 0, pos := "l03_codec.go:207", after := #[{ on := 0, ground := Ground.data }], guard := none }) (v := ?vd1) rfl (by kernel_rfl) (by kernel_rfl) (by kernel_rfl) (fun _ _ _ h => h) (Or.inl ⟨by rfl, ?hyd1⟩) (by assumption) ?restd1
      case hyd1 => intro w hSw; (try dsimp only at hSw); (obtain ⟨s0, s1⟩ := hSw); (first | (go_simp; done) | (go_simp; with_reducible rfl) | (with_reducible rfl))
      try simp only [Act.put, List.setIfInBounds_toArray, List.set_cons_zero, List.set_cons_succ]
      refine wpAnyH_take (i := 2) (oi := { dst := some 40, op := Op.fieldAddr 209 (Operand.tmp 39) 0, type := 0, pos := "l03_codec.go:207", after := #[{ on := 1, ground := Ground.data }], guard := none }) (v := ?vd2) rfl (by kernel_rfl) (by kernel_rfl) (by kernel_rfl) (fun _ _ _ h => h) (Or.inl ⟨by rfl, ?hyd2⟩) (by assumption) ?restd2
      case hyd2 => intro w hSw; (try dsimp only at hSw); (obtain ⟨s0, s1⟩ := hSw); (first | (go_simp; done) | (go_simp; with_reducible rfl) | (with_reducible rfl))
      try simp only [Act.put, List.setIfInBounds_toArray, List.set_cons_zero, List.set_cons_succ]
      refine wpAnyH_take (i := 3) (oi := { dst := some 41, op := Op.load 9 (Operand.tmp 40), type := 9, pos := "l03_codec.go:207", after := #[{ on := 2, ground := Ground.data }], guard := none }) (v := ?vd3) rfl (by kernel_rfl) (by kernel_rfl) (by kernel_rfl) (fun _ _ _ h => h) (Or.inl ⟨by rfl, ?hyd3⟩) (by assumption) ?restd3
      case hyd3 => intro w hSw; (try dsimp only at hSw); (obtain ⟨s0, s1⟩ := hSw); (first | (go_simp; done) | (go_simp; with_reducible rfl) | (with_reducible rfl))
      try simp only [Act.put, List.setIfInBounds_toArray, List.set_cons_zero, List.set_cons_succ]
      refine wpAnyH_take (i := 4) (oi := { dst := some 42, op := Op.move (Operand.tmp 0), type := 205, pos := "l03_codec.go:207", after := #[], guard := none }) (v := ?vd4) rfl (by kernel_rfl) (by kernel_rfl) (by kernel_rfl) (fun _ _ _ h => h) (Or.inl ⟨by rfl, ?hyd4⟩) (by assumption) ?restd4
      case hyd4 => intro w hSw; (try dsimp only at hSw); (obtain ⟨s0, s1⟩ := hSw); (first | (go_simp; done) | (go_simp; with_reducible rfl) | (with_reducible rfl))
      try simp only [Act.put, List.setIfInBounds_toArray, List.set_cons_zero, List.set_cons_succ]
      refine wpAnyH_take (i := 5) (oi := { dst := some 43, op := Op.nilCheck (Operand.tmp 42), type := 0, pos := "l03_codec.go:207", after := #[{ on := 4, ground := Ground.data }], guard := none }) (v := ?vd5) rfl (by kernel_rfl) (by kernel_rfl) (by kernel_rfl) (fun _ _ _ h => h) (Or.inl ⟨by rfl, ?hyd5⟩) (by assumption) ?restd5
      case hyd5 => intro w hSw; (try dsimp only at hSw); (obtain ⟨s0, s1⟩ := hSw); (first | (go_simp; done) | (go_simp; with_reducible rfl) | (with_reducible rfl))
      try simp only [Act.put, List.setIfInBounds_toArray, List.set_cons_zero, List.set_cons_succ]
      refine wpAnyH_take (i := 6) (oi := { dst := some 44, op := Op.fieldAddr 209 (Operand.tmp 43) 1, type := 0, pos := "l03_codec.go:207", after := #[{ on := 5, ground := Ground.data }], guard := none }) (v := ?vd6) rfl (by kernel_rfl) (by kernel_rfl) (by kernel_rfl) (fun _ _ _ h => h) (Or.inl ⟨by rfl, ?hyd6⟩) (by assumption) ?restd6
      case hyd6 => intro w hSw; (try dsimp only at hSw); (obtain ⟨s0, s1⟩ := hSw); (first | (go_simp; done) | (go_simp; with_reducible rfl) | (with_reducible rfl))
      try simp only [Act.put, List.setIfInBounds_toArray, List.set_cons_zero, List.set_cons_succ]
      refine wpAnyH_take (i := 7) (oi := { dst := some 45, op := Op.load 3 (Operand.tmp 44), type := 3, pos := "l03_codec.go:207", after := #[{ on := 6, ground := Ground.data }], guard := none }) (v := ?vd7) rfl (by kernel_rfl) (by kernel_rfl) (by kernel_rfl) (fun _ _ _ h => h) (Or.inl ⟨by rfl, ?hyd7⟩) (by assumption) ?restd7
      case hyd7 => intro w hSw; (try dsimp only at hSw); (obtain ⟨s0, s1⟩ := hSw); (first | (go_simp; done) | (go_simp; with_reducible rfl) | (with_reducible rfl))
      try simp only [Act.put, List.setIfInBounds_toArray, List.set_cons_zero, List.set_cons_succ]
      refine wpAnyH_take (i := 8) (oi := { dst := some 46, op := Op.move (Operand.tmp 3), type := 3, pos := "l03_codec.go:207", after := #[], guard := none }) (v := ?vd8) rfl (by kernel_rfl) (by kernel_rfl) (by kernel_rfl) (fun _ _ _ h => h) (Or.inl ⟨by rfl, ?hyd8⟩) (by assumption) ?restd8
      case hyd8 => intro w hSw; (try dsimp only at hSw); (obtain ⟨s0, s1⟩ := hSw); (first | (go_simp; done) | (go_simp; with_reducible rfl) | (with_reducible rfl))
      try simp only [Act.put, List.setIfInBounds_toArray, List.set_cons_zero, List.set_cons_succ]
      refine wpAnyH_take (i := 9) (oi := { dst := some 47, op := Op.slice 9 (Operand.tmp 41) (some (Operand.tmp 45)) (some (Operand.tmp 46)) none, type := 9, pos := "l03_codec.go:207", after := #[{ on := 3, ground := Ground.data }, { on := 7, ground := Ground.data }, { on := 8, ground := Ground.data }], guard := none }) (v := ?vd9) rfl (by kernel_rfl) (by kernel_rfl) (by kernel_rfl) (fun _ _ _ h => h) (Or.inl ⟨by rfl, ?hyd9⟩) (by assumption) ?restd9
      case hyd9 => intro w hSw; (try dsimp only at hSw); (obtain ⟨s0, s1⟩ := hSw); (first | (go_simp; done) | (go_simp; with_reducible rfl) | (with_reducible rfl))
      try simp only [Act.put, List.setIfInBounds_toArray, List.set_cons_zero, List.set_cons_succ]
      refine wpAnyH_ready (rs := [10]) (by kernel_rfl) (by simp) ?_
      refine AllReadyH.cons (o := { dst := some 48, op := Op.call { callee := Callee.value (Operand.func 140), args := #[Operand.tmp 47], argTypes := #[9] }, type := 193, pos := "l03_codec.go:207", after := #[{ on := 9, ground := Ground.data }], guard := none }) rfl (fun K hK => ?_) AllReadyH.nil
      go_simp
      refine (HRD.out wr.drew (grown_of_below (Below.refl _ wr).drew _)).mono ?_
      rintro e w1 ⟨n, b, rfl, hn, hn0, hb1⟩
      have SC1 := Lib.hid (SC.out.below hb1)
      go_wp2_with fail
      refine hK.out _ _ (⟨SC1.out.c0, SC1.out.c1⟩) (fun hHeld => ?_)
      clear hK K
      try simp only [Act.put, List.setIfInBounds_toArray, List.set_cons_zero, List.set_cons_succ]
      refine wpAnyH_take (i := 11) (oi := { dst := some 37, op := Op.move (Operand.tmp 48), type := 193, pos := "l03_codec.go:207", after := #[{ on := 10, ground := Ground.data }], guard := none }) (v := ?vd11) rfl (by kernel_rfl) (by kernel_rfl) (by kernel_rfl) (fun _ _ _ h => h) (Or.inl ⟨by rfl, ?hyd11⟩) (by assumption) ?restd11
      case hyd11 => intro w hSw; (try dsimp only at hSw); (obtain ⟨s0, s1⟩ := hSw); (first | (go_simp; done) | (go_simp; with_reducible rfl) | (with_reducible rfl))
      try simp only [Act.put, List.setIfInBounds_toArray, List.set_cons_zero, List.set_cons_succ]
      refine wpAnyH_take (i := 12) (oi := { dst := some 49, op := Op.extract (Operand.tmp 37) 0, type := 3, pos := "l03_codec.go:207", after := #[{ on := 11, ground := Ground.data }], guard := none }) (v := ?vd12) rfl (by kernel_rfl) (by kernel_rfl) (by kernel_rfl) (fun _ _ _ h => h) (Or.inl ⟨by rfl, ?hyd12⟩) (by assumption) ?restd12
      case hyd12 => intro w hSw; (try dsimp only at hSw); (obtain ⟨s0, s1⟩ := hSw); (first | (go_simp; done) | (go_simp; with_reducible rfl) | (with_reducible rfl))
      try simp only [Act.put, List.setIfInBounds_toArray, List.set_cons_zero, List.set_cons_succ]
      refine wpAnyH_take (i := 13) (oi := { dst := some 50, op := Op.extract (Operand.tmp 37) 1, type := 4, pos := "l03_codec.go:207", after := #[{ on := 11, ground := Ground.data }, { on := 14, ground := Ground.gcOnly Departure.lateStores }], guard := none }) (v := ?vd13) rfl (by kernel_rfl) (by kernel_rfl) (by kernel_rfl) (fun _ _ _ h => h) (Or.inl ⟨by rfl, ?hyd13⟩) (by assumption) ?restd13
      case hyd13 => intro w hSw; (try dsimp only at hSw); (obtain ⟨s0, s1⟩ := hSw); (first | (go_simp; done) | (go_simp; with_reducible rfl) | (with_reducible rfl))
      try simp only [Act.put, List.setIfInBounds_toArray, List.set_cons_zero, List.set_cons_succ]
      refine wpAnyH_take (i := 14) (oi := { dst := some 4, op := Op.assign (Operand.tmp 49), type := 3, pos := "l03_codec.go:207", after := #[{ on := 12, ground := Ground.data }, { on := 10, ground := Ground.chain }, { on := 0, ground := Ground.phase }, { on := 1, ground := Ground.phase }, { on := 2, ground := Ground.phase }, { on := 3, ground := Ground.phase }, { on := 4, ground := Ground.phase }, { on := 5, ground := Ground.phase }, { on := 6, ground := Ground.phase }, { on := 7, ground := Ground.phase }, { on := 8, ground := Ground.phase }, { on := 9, ground := Ground.phase }, { on := 10, ground := Ground.phase }, { on := 11, ground := Ground.phase }, { on := 12, ground := Ground.phase }, { on := 13, ground := Ground.textOnly Departure.lateStores }], guard := none }) (v := ?vd14) rfl (by kernel_rfl) (by kernel_rfl) (by kernel_rfl) (fun _ _ _ h => h) (Or.inl ⟨by rfl, ?hyd14⟩) (by assumption) ?restd14
      case hyd14 => intro w hSw; (try dsimp only at hSw); (obtain ⟨s0, s1⟩ := hSw); (first | (go_simp; done) | (go_simp; with_reducible rfl) | (with_reducible rfl))
      try simp only [Act.put, List.setIfInBounds_toArray, List.set_cons_zero, List.set_cons_succ]
      refine wpAnyH_take (i := 15) (oi := { dst := some 5, op := Op.assign (Operand.tmp 50), type := 4, pos := "l03_codec.go:207", after := #[{ on := 13, ground := Ground.data }, { on := 14, ground := Ground.chain }, { on := 0, ground := Ground.phase }, { on := 1, ground := Ground.phase }, { on := 2, ground := Ground.phase }, { on := 3, ground := Ground.phase }, { on := 4, ground := Ground.phase }, { on := 5, ground := Ground.phase }, { on := 6, ground := Ground.phase }, { on := 7, ground := Ground.phase }, { on := 8, ground := Ground.phase }, { on := 9, ground := Ground.phase }, { on := 10, ground := Ground.phase }, { on := 11, ground := Ground.phase }, { on := 12, ground := Ground.phase }, { on := 13, ground := Ground.phase }, { on := 14, ground := Ground.phase }], guard := none }) (v := ?vd15) rfl (by kernel_rfl) (by kernel_rfl) (by kernel_rfl) (fun _ _ _ h => h) (Or.inl ⟨by rfl, ?hyd15⟩) (by assumption) ?restd15
      case hyd15 => intro w hSw; (try dsimp only at hSw); (obtain ⟨s0, s1⟩ := hSw); (first | (go_simp; done) | (go_simp; with_reducible rfl) | (with_reducible rfl))
      try simp only [Act.put, List.setIfInBounds_toArray, List.set_cons_zero, List.set_cons_succ]
      refine wpAnyH_done (by kernel_rfl) ?_ _
      refine NoPanic.normal ?_
      have b1 : wr.grownBy w1 (some g) := grown_trans (grown_of_below (Below.refl _ wr).drew _) (grown_of_below hb1 _)
      cases b
      · obtain rfl : n = 0 := hn0 rfl
        have HN := Lib.hid hn; clear hn hn0
        have c2' := hHeld
        clear hHeld c2' hb1 SC HRD
        go_wp2_with fail
        refine (fail_g g a t _ x w1 SC1.out Hx.out).mono ?_
        rintro e w3 ⟨rfl, y, hy, hs3, hb3⟩
        have HNN := Lib.hid (HXN.out 0 false y HN.out (fun h => by cases h) (fun _ => hy))
        have H4 := Lib.hid (hs3.go p)
        have b3 := Lib.hid (grown_setCell (grown_trans b1 hb3) ⟨g, 1, none⟩ (Or.inl rfl) (.int .i64 (p : Int)))
        obtain ⟨d0, d1, d2, dz, dlt⟩ := hs3
        have f1 := dz 1
        clear dz d2 d0 hb3 b1 SC1 HXN HN hy c0 c1
        go_wp2
        go_ret
        refine ⟨0, R.take d, R.drop d, y, rfl, ?_, HNN.out, ?_⟩
        · rw [HDL.out]; exact H4.out
        · exact b3.out
      · have HNN := Lib.hid (HXN.out n true x hn (fun _ => rfl) (fun h => by cases h))
        have hs3 := SC1.out
        have H4 := Lib.hid (hs3.go p)
        have b3 := Lib.hid (grown_setCell b1 ⟨g, 1, none⟩ (Or.inl rfl) (.int .i64 (p : Int)))
        obtain ⟨d0, d1, d2, dz, dlt⟩ := hs3
        have f1 := dz 1
        clear dz d2 d0 b1 SC1 HXN hn hn0 hHeld hb1 SC HRD c0 c1
        go_wp2
        go_ret
        refine ⟨n, R.take d, R.drop d, x, rfl, ?_, HNN.out, ?_⟩
        · rw [HDL.out]; exact H4.out
        · exact b3.out

end Go.Proofs.YtpackpocnonpiaaGreatDoor

/- Contract of the program's scanner.sample. Conditions: the library's table of powers of ten is as its text lays it, its two errors' variables hold errors; a text's length. -/
namespace Go.Proofs.YtpackpocnonpiaaGreatDoor
open Go.ChangeShapes Go.WideShapes Go.ChangeAt Go.RowKit
set_option linter.unusedVariables false
set_option linter.unusedSimpArgs false

theorem run_max : ∀ {D N R1 R2 : List UInt8}, D ++ R1 = N ++ R2 → (∀ b ∈ D, numC b) → (∀ b ∈ N, numC b) → (∀ b r, R1 = b :: r → ¬ numC b) → (∀ b r, R2 = b :: r → ¬ numC b) → D = N ∧ R1 = R2
  | [], [], _, _, e, _, _, _, _ => ⟨rfl, e⟩
  | [], n :: N, R1, R2, e, _, hN, h1, _ => absurd (hN n (by simp)) (h1 n (N ++ R2) (by simpa using e))
  | d :: D, [], R1, R2, e, hD, _, _, h2 => absurd (hD d (by simp)) (h2 d (D ++ R1) (by simpa using e.symm))
  | d :: D, n :: N, R1, R2, e, hD, hN, h1, h2 => by
    simp at e
    obtain ⟨rfl, e⟩ := e
    obtain ⟨e1, e2⟩ := run_max e (fun b hb => hD b (by simp [hb])) (fun b hb => hN b (by simp [hb])) h1 h2
    exact ⟨by rw [e1], e2⟩

def samL (s : GSam) : List UInt8 := (samT s).data.toList

theorem samL_eq (s : GSam) : samL s = (numT s.t).data.toList ++ (61 :: (numT s.v).data.toList) := by simp [samL, samT, ByteArray.data_append]

/-- what sample does, none having been wrong ahead -/
def Sampled (t : ByteArray) (R : List UInt8) (a : Nat) (s : GSam) (a' : Nat) (x' : Value) : Prop := (x' = .nilIface ∧ s.fit ∧ ∃ R', R = samL s ++ R' ∧ a' = a + (samL s).length ∧ ∀ b r, R' = b :: r → ¬ numC b) ∨ (Bad x' ∧ ∀ s R', Small s.t → Small s.v → (∀ b r, R' = b :: r → ¬ numC b) → R ≠ samL s ++ R')

theorem not_eq : ∀ b r, (61 : UInt8) :: r = b :: r → ¬ numC b := by
  intro b r e h
  injection e with e _
  subst e
  rcases h with h | h
  · unfold isDig at h; exact absurd h.2 (by decide)
  · exact absurd h (by decide)

theorem bad_nil : ¬ Bad .nilIface := fun ⟨s, n, e⟩ => by cases e

theorem sampled_of {t : ByteArray} {R D R1 R2 D2 R3 : List UInt8} {a a2 : Nat} {n m : Int} {x1 x2 x3 : Value} (h1 : Numbered R a .nilIface n D R1 x1) (hm : (x2 = x1 ∧ R1 = 61 :: R2 ∧ a2 = a + D.length + 1) ∨ (Bad x2 ∧ ∀ R', R1 ≠ 61 :: R')) (h2 : Numbered R2 a2 x2 m D2 R3 x3) : Sampled t R a ⟨n, m⟩ (a2 + D2.length) x3 := by
  obtain ⟨e1, c1, s1, k1⟩ := h1
  obtain ⟨e2, c2, s2, k2⟩ := h2
  by_cases hx3 : x3 = .nilIface
  · subst hx3
    rcases k2 with ⟨rfl, d2, f2⟩ | ⟨b, _⟩
    · rcases hm with ⟨rfl, rfl, rfl⟩ | ⟨b, _⟩
      · rcases k1 with ⟨_, d1, f1⟩ | ⟨b, _⟩
        · refine Or.inl ⟨rfl, ⟨f1, f2⟩, R3, ?_, ?_, s2⟩
          · rw [e1, e2, samL_eq, d1, d2]
            simp
          · rw [samL_eq, ← d1, ← d2]
            simp
            omega
        · exact absurd b bad_nil
      · exact absurd b bad_nil
    · exact absurd b bad_nil
  · have hb3 : Bad x3 := by
      rcases k2 with ⟨e, _⟩ | ⟨b, _⟩
      · rcases hm with ⟨e', _⟩ | ⟨b, _⟩
        · rcases k1 with ⟨e'', _⟩ | ⟨b, _⟩
          · exact absurd (by rw [e, e', e'']) hx3
          · rw [e, e']; exact b
        · rw [e]; exact b
      · exact b
    refine Or.inr ⟨hb3, fun s R' ht hv hr e => ?_⟩
    rw [samL_eq, e1] at e
    obtain ⟨g1, g2⟩ := run_max (R2 := 61 :: ((numT s.v).data.toList ++ R')) (by simpa using e) c1 (num_bytes s.t) s1 (fun b r e => by injection e with e _; subst e; exact not_eq 61 [] rfl)
    rcases k1 with ⟨q1, _⟩ | ⟨_, b⟩
    · rcases hm with ⟨q2, r1, _⟩ | ⟨_, b⟩
      · rw [r1] at g2
        injection g2 with _ g2
        rw [e2] at g2
        obtain ⟨g3, _⟩ := run_max g2 c2 (num_bytes s.v) s2 hr
        rcases k2 with ⟨q3, _⟩ | ⟨_, b⟩
        · exact hx3 (by rw [q3, q2, q1])
        · exact b s.v hv g3
      · exact b _ g2
    · exact b s.t ht g1

/-- a sample's variable, of zeros, in block r -/
def ZeroS (w : World) (r : Nat) : Prop := Two w r (.int .i64 0) (.int .i64 0) ∧ Free w (some ⟨r, 0, none⟩) ∧ r < w.heap.size

theorem ZeroS.grown {w w' : World} {r g : Nat} (h : ZeroS w r) (hg : w.grownBy w' (some g)) (hne : r ≠ g) : ZeroS w' r := by
  have hblk := hg.block r h.2.2 (fun e => hne (by injection e))
  refine ⟨h.1.grown hg h.2.2 (fun g' e => by injection e with e; omega), fun b e i => ?_, Nat.lt_of_lt_of_le h.2.2 hg.size⟩
  simp [blk] at e
  subst e
  have := h.2.1 r rfl i
  unfold World.frozen? at this ⊢
  rw [hblk]
  exact this

theorem Scan.grown0 {w w' : World} {g a : Nat} {t : ByteArray} {x : Value} (h : Scan w g t a x) (hb : Below w.heap.size w w') : Scan w' g t a x := h.below hb

set_option maxRecDepth 100000 in
theorem sample_g (g a : Nat) (t : ByteArray) (x : Value) (U R : List UInt8) (w : World) (h : Scan w g t a x) (hx : ErrV x) (hp : Parted t a U R) (hs : t.size ≤ 1000000) (hEP : ∀ w', w.grownBy w' (some g) → Errs w' ∧ Pow w') :
    Calls Tryz.prog 157 #[.pointer (some ⟨g, 0, none⟩)] w fun e w' => ∃ (s : GSam) (a' : Nat) (x' : Value), e = .returned (.agg #[.int .i64 s.t, .int .i64 s.v]) ∧ Scan w' g t a' x' ∧ (x = .nilIface → Sampled t R a s a' x') ∧ (Bad x → Bad x') ∧ a' ≤ t.size ∧ w.grownBy w' (some g) := by
  have H := Lib.hid h
  have HX0 := Lib.hid hx; clear hx
  have HP := Lib.hid hp
  have HEP := Lib.hid hEP; clear hEP hp
  have hlt := h.lt
  clear h
  go_enter Tryz.func157, Tryz.ntmps157
  go_wp2_with fail
  have hZ : ZeroS (w.alloc (.cells #[.int .i64 0, .int .i64 0] 142)) w.heap.size := ⟨Two.new w _ _ _, free_alloc w _ _ 0, by simp⟩
  have hb0 : Below w.heap.size w (w.alloc (.cells #[.int .i64 0, .int .i64 0] 142)) := bal (Below.refl _ _) _
  generalize w.alloc (.cells #[.int .i64 0, .int .i64 0] 142) = w0 at *
  have g0 : w.grownBy w0 (some g) := grown_of_below hb0 _
  have hS0 := H.out.below hb0
  have hrg : w.heap.size ≠ g := by omega
  have HZ := Lib.hid hZ
  have HG0 := Lib.hid g0
  clear hZ
  refine (number_g g a t x U R w0 hS0 HX0.out HP.out hs (fun w' h => HEP.out w' (grown_trans HG0.out h))).mono ?_
  rintro e w1 ⟨n, D, R1, x1, rfl, hS1, hN1, hg1⟩
  have HS1 := Lib.hid hS1
  have HN1 := Lib.hid hN1
  have HG1 := Lib.hid (grown_trans HG0.out hg1)
  have HZ1 := Lib.hid (HZ.out.grown hg1 hrg)
  have HP1 := Lib.hid (show Parted t (a + D.length) (U ++ D) R1 from by have := HP.out; rw [hN1.1] at this; exact this.on)
  have HX1 := Lib.hid (show ErrV x1 from by rcases hN1.2.2.2 with ⟨e, _⟩ | ⟨b, _⟩; (· rw [e]; exact HX0.out); (· exact Or.inr b))
  have HB1 := Lib.hid (show Bad x → Bad x1 from fun hb => by rcases hN1.2.2.2 with ⟨e, _⟩ | ⟨b, _⟩; (· rw [e]; exact hb); (· exact b))
  clear hS0 hS1 hN1 hg1 hb0 g0 HZ HG0
  obtain ⟨a1, ha1⟩ : ∃ a1, a1 = a + D.length := ⟨_, rfl⟩
  rw [← ha1] at HS1 HP1
  have HA1 := Lib.hid ha1; clear ha1
  go_wp2_with fail
  refine (mark_g g a1 t ⟨#[61]⟩ x1 (U ++ D) R1 w1 HS1.out HX1.out HP1.out (by omega) (by decide)).mono ?_
  rintro e w2 ⟨rfl, a2, x2, hS2, hM2, hg2⟩
  have HS2 := Lib.hid hS2
  have HG2 := Lib.hid (grown_trans HG1.out hg2)
  have HZ2 := Lib.hid (HZ1.out.grown hg2 hrg)
  have hM3 : ∃ U2 R2, Parted t a2 U2 R2 ∧ ((x2 = x1 ∧ R1 = 61 :: R2 ∧ a2 = a + D.length + 1) ∨ (Bad x2 ∧ ∀ R', R1 ≠ 61 :: R')) := by
    rcases hM2 with ⟨e1, e2, R', e3⟩ | ⟨b, e2, hn⟩
    · have e3' : R1 = [61] ++ R' := e3
      refine ⟨U ++ D ++ [61], R', ?_, Or.inl ⟨e1, e3, by rw [e2, HA1.out]; rfl⟩⟩
      have := HP1.out
      rw [e3'] at this
      rw [e2]
      exact this.on
    · exact ⟨U ++ D, R1, by rw [e2]; exact HP1.out, Or.inr ⟨b, fun R' e => hn R' e⟩⟩
  obtain ⟨U2, R2, hP2, hM3⟩ := hM3
  have HP2 := Lib.hid hP2
  have HM3 := Lib.hid hM3
  have HX2 := Lib.hid (show ErrV x2 from by rcases hM3 with ⟨e, _⟩ | ⟨b, _⟩; (· rw [e]; exact HX1.out); (· exact Or.inr b))
  have HB2 := Lib.hid (show Bad x → Bad x2 from fun hb => by rcases hM3 with ⟨e, _⟩ | ⟨b, _⟩; (· rw [e]; exact HB1.out hb); (· exact b))
  clear hS2 hM2 hg2 hP2 hM3 HS1 HG1 HZ1 HP1 HX1 HA1
  go_wp2_with fail
  refine (number_g g a2 t x2 U2 R2 w2 HS2.out HX2.out HP2.out hs (fun w' h => HEP.out w' (grown_trans HG2.out h))).mono ?_
  rintro e w3 ⟨m, D2, R3, x3, rfl, hS3, hN3, hg3⟩
  have HSa := Lib.hid (show x = .nilIface → Sampled t R a ⟨n, m⟩ (a2 + D2.length) x3 from fun e => by have h1 := HN1.out; rw [e] at h1; exact sampled_of (t := t) h1 HM3.out hN3)
  have HB3 := Lib.hid (show Bad x → Bad x3 from fun hb => by rcases hN3.2.2.2 with ⟨e, _⟩ | ⟨b, _⟩; (· rw [e]; exact HB2.out hb); (· exact b))
  have hle : a2 + D2.length ≤ t.size := by
    have := HP2.out.size
    have e := congrArg List.length hN3.1
    rw [List.length_append] at e
    omega
  have hG3 := grown_trans HG2.out hg3
  have hZ3 := HZ2.out.grown hg3 hrg
  obtain ⟨r, hr⟩ : ∃ r, r = w.heap.size := ⟨_, rfl⟩
  rw [← hr] at hZ3 hrg ⊢
  have HR0 := Lib.hid (Nat.le_of_eq hr.symm); clear hr
  have HS4 := Lib.hid (show Scan ((w3.setCell ⟨r, 0, none⟩ (.int .i64 n)).setCell ⟨r, 1, none⟩ (.int .i64 m)) g t (a2 + D2.length) x3 from by
    have f : ∀ (W : World) (i : Nat) (v : Value) (k : Nat), (W.setCell ⟨r, i, none⟩ v).cell? ⟨g, k, none⟩ = W.cell? ⟨g, k, none⟩ := fun W i v k => World.cell?_setCell_other W ⟨r, i, none⟩ ⟨g, k, none⟩ v (fun e => hrg (by injection e))
    exact ⟨by rw [f, f]; exact hS3.c0, by rw [f, f]; exact hS3.c1, by rw [f, f]; exact hS3.c2, fun i => by rw [frozen_setCell, frozen_setCell]; exact hS3.fz i, by rw [size_setCell, size_setCell]; exact hS3.lt⟩)
  have y0 := hZ3.2.1 r rfl 0
  have y1 := hZ3.2.1 r rfl 1
  obtain ⟨⟨z0, z1⟩, _, hr3⟩ := hZ3
  have HGF := Lib.hid hG3
  clear hS3 hN3 hg3 HS2 HG2 HZ2 HP2 HM3 HX2 HN1 hG3
  go_wp2
  refine bodyPost_ret (v := .agg #[.int .i64 n, .int .i64 m]) (by simp [results, Tryz.results157, go_sem, *]) rfl ⟨⟨n, m⟩, a2 + D2.length, x3, rfl, HS4.out, HSa.out, HB3.out, hle, ?_⟩
  exact grown_setCell (grown_setCell HGF.out ⟨r, 0, none⟩ (Or.inr HR0.out) _) ⟨r, 1, none⟩ (Or.inr HR0.out) _

end Go.Proofs.YtpackpocnonpiaaGreatDoor

/- Contract of the program's readList of samples, which jumps. Conditions: the library's table of powers of ten is as its text lays it, its two errors' variables hold errors; a text's length. -/
namespace Go.Proofs.YtpackpocnonpiaaGreatDoor
open Go.ChangeShapes Go.WideShapes Go.ChangeAt Go.RowKit
set_option linter.unusedVariables false
set_option linter.unusedSimpArgs false

/-- as Q; by a goto to a label: J of it -/
def jumps (J : Nat → Act → World → Prop) (Q : Exit → Act → World → Prop) : Exit → Act → World → Prop
  | .goto l, a, w => J l a w
  | e, a, w => Q e a w

/-- the code behind a label -/
def behind (c : Code) (l : Nat) : Code := match findLabel c l with
  | some (.seq .skip r) => r
  | _ => .skip

/-- a scope with labels: what holds at each jump, with a measure that falls -/
theorem wp_scope_labels {P : Program} {a : Act} {w : World} {Q : Exit → Act → World → Prop} {c : Code} (J : Nat → Act → World → Prop) (μ : Nat → Act → World → Nat) (hf : ∀ l a w, J l a w → findLabel c l = some (.seq .skip (behind c l)))
    (first : (∀ l a w, J l a w → (behind c l).wp P (jumps J Q) a w) → c.wp P (jumps J Q) a w)
    (pass : ∀ l a w, J l a w → (behind c l).wp P (jumps (fun l' a' w' => J l' a' w' ∧ μ l' a' w' < μ l a w) Q) a w) : (Code.scope c).wp P Q a w := by
  replace first := first (fun l a w h => Code.wp_mono (fun e a' w' hq => by cases e <;> first | exact hq | exact hq.1) (pass l a w h))
  intro b k cs
  obtain ⟨rest, hrest⟩ : ∃ rest : Nat → Code, rest = fun l => Code.seq .skip (behind c l) := ⟨_, rfl⟩
  replace hf : ∀ l a w, J l a w → findLabel c l = some (rest l) := fun l a w h => by rw [hrest]; exact hf l a w h
  replace pass : ∀ l a w, J l a w → (rest l).wp P (jumps (fun l' a' w' => J l' a' w' ∧ μ l' a' w' < μ l a w) Q) a w := fun l a w h => by
    rw [hrest]
    exact wp_seq (wp_skip (pass l a w h))
  clear hrest
  have hg : ∀ l a w, J l a w → gotoIn l (.inScope c :: k) = some (.code (rest l) :: .inScope c :: k) := fun l a w h => by simp [gotoIn, hf l a w h]
  have key : ∀ n l a w, μ l a w = n → J l a w → ∃ e a' w', Q e a' w' ∧ Arrives P (lone (b.at a (.code (rest l) :: .inScope c :: k)) cs w) b k cs e a' w' := by
    intro n
    induction n using Nat.strongRecOn with
    | _ n ih =>
      intro l a w hn hJ
      obtain ⟨e, a₁, w₁, hq, harr⟩ := pass l a w hJ b (.inScope c :: k) cs
      cases e with
      | normal => exact ⟨.normal, a₁, w₁, hq, Steps.trans harr (.one step_inScope)⟩
      | exit id => exact ⟨.exit id, a₁, w₁, hq, fun k' hk => harr k' (by simp [exitTo, hk])⟩
      | goto l' =>
        obtain ⟨hJ', hlt⟩ := hq
        obtain ⟨e₂, a₂, w₂, hq₂, harr₂⟩ := ih _ (by omega) l' a₁ w₁ rfl hJ'
        exact ⟨e₂, a₂, w₂, hq₂, .of_steps (harr _ (hg _ _ _ hJ')) harr₂⟩
      | ret => exact ⟨_, a₁, w₁, hq, harr⟩
      | panic ch => exact ⟨_, a₁, w₁, hq, harr⟩
      | outgrown => exact ⟨_, a₁, w₁, hq, harr⟩
  obtain ⟨e, a₁, w₁, hq, harr⟩ := first b (.inScope c :: k) cs
  cases e with
  | normal => exact ⟨.normal, a₁, w₁, hq, .head step_scope (Steps.trans harr (.one step_inScope))⟩
  | exit id => exact ⟨.exit id, a₁, w₁, hq, fun k' hk => .head step_scope (harr k' (by simp [exitTo, hk]))⟩
  | goto l' =>
    obtain ⟨e₂, a₂, w₂, hq₂, harr₂⟩ := key _ l' a₁ w₁ rfl hq
    exact ⟨e₂, a₂, w₂, hq₂, .of_steps (.head step_scope (harr _ (hg _ _ _ hq))) harr₂⟩
  | ret => exact ⟨_, a₁, w₁, hq, .of_steps (.one step_scope) harr⟩
  | panic ch => exact ⟨_, a₁, w₁, hq, .of_steps (.one step_scope) harr⟩
  | outgrown => exact ⟨_, a₁, w₁, hq, .of_steps (.one step_scope) harr⟩

/-- what stands behind pieces that were read is the rest of them -/
theorem pieces_rest {c : UInt8} : ∀ {ps qs : List ByteArray} {R : List UInt8} {last : ByteArray}, flatC c ps ++ R = flatC c qs ++ last.data.toList → (∀ p ∈ ps, c ∉ p.data.toList) → (∀ p ∈ qs, c ∉ p.data.toList) → c ∉ last.data.toList → ∃ rs, qs = ps ++ rs ∧ R = flatC c rs ++ last.data.toList
  | [], qs, R, last, e, _, _, _ => ⟨qs, rfl, by simpa [flatC] using e⟩
  | p :: ps, [], R, last, e, hp, _, hl => by
    exfalso
    apply hl
    have e' : last.data.toList = flatC c (p :: ps) ++ R := by simpa [flatC] using e.symm
    rw [e']
    simp [flatC]
  | p :: ps, q :: qs, R, last, e, hp, hq, hl => by
    simp only [flatC, List.flatMap_cons, List.append_assoc, List.cons_append, List.nil_append] at e
    obtain ⟨e1, e2⟩ := app_inj (hp p (by simp)) (hq q (by simp)) e
    obtain ⟨rs, h1, h2⟩ := pieces_rest (ps := ps) (qs := qs) (R := R) (last := last) (by simpa [flatC] using e2) (fun x hx => hp x (by simp [hx])) (fun x hx => hq x (by simp [hx])) hl
    exact ⟨rs, by rw [ba_eq e1, h1]; rfl, h2⟩

/-- so far these were read, a blank behind each; R is left -/
def SoFar (t : ByteArray) (xs : List GSam) (U R : List UInt8) : Prop := U = flatC 32 (xs.map samT) ∧ t.data.toList = U ++ R ∧ ∀ s ∈ xs, s.fit

theorem notC_blank : ∀ b r, (32 : UInt8) :: r = b :: r → ¬ numC b := by
  intro b r e h
  injection e with e _
  subst e
  rcases h with h | h
  · unfold isDig at h; exact absurd h.1 (by decide)
  · exact absurd h (by decide)

/-- whatever samples the text is of, the next one stands at R's beginning -/
theorem next_of {t : ByteArray} {xs ys : List GSam} {U R : List UInt8} (h : SoFar t xs U R) (hz : t.size ≠ 0) (hy : SamRead t ys) : ∃ z zs R', ys.length = xs.length + 1 + zs ∧ Small z.t ∧ Small z.v ∧ R = samL z ++ R' ∧ (∀ b r, R' = b :: r → ¬ numC b) ∧ (zs = 0 ↔ R' = []) := by
  obtain ⟨hU, ht, _⟩ := h
  have hp : Pieces t 32 (ys.map samT) := by
    rcases hy.2.2 with ⟨_, h0⟩ | ⟨_, h⟩
    · exact absurd h0 hz
    · exact h
  obtain ⟨qs, last, e, hq⟩ := hp
  have hc : ∀ p ∈ qs ++ [last], (32 : UInt8) ∉ p.data.toList := by
    rw [← e]
    intro p hp
    obtain ⟨s, _, rfl⟩ := List.mem_map.1 hp
    exact samT_blank s
  rw [ht, hU] at hq
  obtain ⟨rs, e1, e2⟩ := pieces_rest hq (fun p hp => by
    obtain ⟨s, _, rfl⟩ := List.mem_map.1 hp
    exact samT_blank s) (fun p hp => hc p (by simp [hp])) (hc last (by simp))
  have hlen : ys.length = xs.length + rs.length + 1 := by
    have := congrArg List.length e
    rw [e1] at this
    simp at this
    omega
  cases rs with
  | nil =>
    have hm : last ∈ ys.map samT := by rw [e]; simp
    obtain ⟨z, hz', rfl⟩ := List.mem_map.1 hm
    have sm := samP_small hy.1 z hz'
    exact ⟨z, 0, [], by simpa using hlen, sm.1, sm.2, by rw [e2]; simp [flatC, samL], by simp, by simp⟩
  | cons r rs =>
    have hm : r ∈ ys.map samT := by rw [e, e1]; simp
    obtain ⟨z, hz', rfl⟩ := List.mem_map.1 hm
    have sm := samP_small hy.1 z hz'
    refine ⟨z, rs.length + 1, 32 :: (flatC 32 rs ++ last.data.toList), by simp at hlen; omega, sm.1, sm.2, by rw [e2]; simp [flatC, samL], fun b r e => ?_, by simp⟩
    injection e with e _
    subst e
    exact notC_blank 32 [] rfl

theorem next_blank {t : ByteArray} {xs ys : List GSam} {U R : List UInt8} (h : SoFar t xs U R) (hz : t.size ≠ 0) (hy : SamRead t ys) : ∃ z zs R', ys.length = xs.length + 1 + zs ∧ Small z.t ∧ Small z.v ∧ R = samL z ++ R' ∧ (∀ b r, R' = b :: r → ¬ numC b) ∧ (R' = [] ∨ ∃ r, R' = 32 :: r) := by
  obtain ⟨hU, ht, _⟩ := h
  have hp : Pieces t 32 (ys.map samT) := by
    rcases hy.2.2 with ⟨_, h0⟩ | ⟨_, h⟩
    · exact absurd h0 hz
    · exact h
  obtain ⟨qs, last, e, hq⟩ := hp
  have hc : ∀ p ∈ qs ++ [last], (32 : UInt8) ∉ p.data.toList := by
    rw [← e]
    intro p hp
    obtain ⟨s, _, rfl⟩ := List.mem_map.1 hp
    exact samT_blank s
  rw [ht, hU] at hq
  obtain ⟨rs, e1, e2⟩ := pieces_rest hq (fun p hp => by
    obtain ⟨s, _, rfl⟩ := List.mem_map.1 hp
    exact samT_blank s) (fun p hp => hc p (by simp [hp])) (hc last (by simp))
  have hlen : ys.length = xs.length + rs.length + 1 := by
    have := congrArg List.length e
    rw [e1] at this
    simp at this
    omega
  cases rs with
  | nil =>
    have hm : last ∈ ys.map samT := by rw [e]; simp
    obtain ⟨z, hz', rfl⟩ := List.mem_map.1 hm
    have sm := samP_small hy.1 z hz'
    exact ⟨z, 0, [], by simpa using hlen, sm.1, sm.2, by rw [e2]; simp [flatC, samL], by simp, Or.inl rfl⟩
  | cons r rs =>
    have hm : r ∈ ys.map samT := by rw [e, e1]; simp
    obtain ⟨z, hz', rfl⟩ := List.mem_map.1 hm
    have sm := samP_small hy.1 z hz'
    refine ⟨z, rs.length + 1, 32 :: (flatC 32 rs ++ last.data.toList), by simp at hlen; omega, sm.1, sm.2, by rw [e2]; simp [flatC, samL], fun b r e => ?_, Or.inr ⟨_, rfl⟩⟩
    injection e with e _
    subst e
    exact notC_blank 32 [] rfl

theorem samL_one {s z : GSam} {R1 R2 : List UInt8} (h : samL s ++ R1 = samL z ++ R2) (h1 : ∀ b r, R1 = b :: r → ¬ numC b) (h2 : ∀ b r, R2 = b :: r → ¬ numC b) : R1 = R2 := by
  rw [samL_eq, samL_eq] at h
  simp only [List.append_assoc, List.cons_append] at h
  obtain ⟨_, g2⟩ := run_max h (num_bytes s.t) (num_bytes z.t) (fun b r e => by injection e with e _; subst e; exact not_eq 61 [] rfl) (fun b r e => by injection e with e _; subst e; exact not_eq 61 [] rfl)
  injection g2 with _ g2
  exact (run_max g2 (num_bytes s.v) (num_bytes z.v) h1 h2).2

theorem soFar_end {t : ByteArray} {xs : List GSam} {s : GSam} {U R : List UInt8} (h : SoFar t xs U R) (hR : R = samL s) (hf : s.fit) : SamOf t (xs ++ [s]) ∧ ∀ x ∈ xs ++ [s], x.fit := by
  obtain ⟨hU, ht, hx⟩ := h
  refine ⟨Or.inr ⟨by simp, xs.map samT, samT s, by simp, by rw [ht, hU, hR]; rfl⟩, fun x hm => ?_⟩
  rcases List.mem_append.1 hm with hm | hm
  · exact hx x hm
  · simp at hm; subst hm; exact hf

theorem soFar_next {t : ByteArray} {xs : List GSam} {s : GSam} {U R R' : List UInt8} (h : SoFar t xs U R) (hR : R = samL s ++ 32 :: R') (hf : s.fit) : SoFar t (xs ++ [s]) (U ++ samL s ++ [32]) R' := by
  obtain ⟨hU, ht, hx⟩ := h
  refine ⟨by rw [hU]; simp [flatC, samL], by rw [ht, hR]; simp, fun x hm => ?_⟩
  rcases List.mem_append.1 hm with hm | hm
  · exact hx x hm
  · simp at hm; subst hm; exact hf

/-- how readList ends -/
def ListEnd (t : ByteArray) (w : World) (e : Ending) (w' : World) : Prop := Below w.heap.size w w' ∧ ((∃ A k xs, e = .returned (.tuple #[.slice A xs.length k, .nilIface]) ∧ SamOf t xs ∧ xs.length ≤ 8 ∧ (∀ x ∈ xs, x.fit) ∧ OwnSl GSam.vals 2 142 w.heap.size w' (.slice A xs.length k) xs) ∨ (∃ y, e = .returned (.tuple #[.slice none 0 0, y]) ∧ Bad y ∧ NoSam t))

def sliceLen : Value → Nat
  | .slice _ n _ => n
  | _ => 0

/-- what holds where an item begins -/
def ItemF (t : ByteArray) (g : Nat) (w : World) (xs : List GSam) (A : Option Addr) (k : Nat) (w' : World) : Prop := t.size ≠ 0 ∧ xs.length < 8 ∧ OwnSl GSam.vals 2 142 (g + 1) w' (.slice A xs.length k) xs ∧ Below g w w' ∧ g < w'.heap.size ∧ ∃ p x U R, Scan w' g t p x ∧ ErrV x ∧ Parted t p U R ∧ ((x = .nilIface ∧ SoFar t xs U R) ∨ (Bad x ∧ NoSam t))

/-- what holds where the end begins -/
def EndF (t : ByteArray) (g : Nat) (w : World) (xs : List GSam) (A : Option Addr) (k : Nat) (w' : World) : Prop := OwnSl GSam.vals 2 142 (g + 1) w' (.slice A xs.length k) xs ∧ Below g w w' ∧ SamOf t xs ∧ xs.length ≤ 8 ∧ ∀ x ∈ xs, x.fit

def FrameOf (t : ByteArray) (g : Nat) (A : Option Addr) (n k : Nat) (a : Act) : Prop := ∃ u8 u9 u10 u11 u12 u13 u14 u15 u16 u17 u18 u19 u20 u21 u22 u23 u24 u25 u26 u27 u28 u29 u30 u31 u32 u33 u34 u35 u36 u37 u38 u39 u40 u41 : Value, a = { tmps := #[.string t, .func (.func 157) #[] #[], undef, undef, .slice none 0 0, .nilIface, .pointer (some ⟨g, 0, none⟩), .slice A n k, u8, u9, u10, u11, u12, u13, u14, u15, u16, u17, u18, u19, u20, u21, u22, u23, u24, u25, u26, u27, u28, u29, u30, u31, u32, u33, u34, u35, u36, u37, u38, u39, u40, u41], defers := [] }

def JumpF (t : ByteArray) (g : Nat) (w : World) (l : Nat) (a : Act) (w' : World) : Prop := ∃ A k xs, FrameOf t g A xs.length k a ∧ ((l = 1 ∧ Hid (ItemF t g w xs A k w')) ∨ (l = 0 ∧ Hid (EndF t g w xs A k w')))

def lenM (l : Nat) (a : Act) (_ : World) : Nat := if l = 1 then 10 - sliceLen (a.tmps.getD 7 undef) else 0

theorem own_more {w : World} {v : Value} {xs : List GSam} {b c : Nat} (h : OwnSl GSam.vals 2 142 b w v xs) (hc : c ≤ b) : OwnSl GSam.vals 2 142 c w v xs := ⟨h.1, by
  rcases h.2 with h | ⟨g, cap, cur, e, hb, r⟩
  · exact Or.inl h
  · exact Or.inr ⟨g, cap, cur, e, Nat.le_trans hc hb, r⟩⟩

set_option maxRecDepth 100000 in
set_option maxHeartbeats 1000000 in
theorem readList_any (t : ByteArray) (w : World) (ht : t.size ≤ 65536) (hEP : ∀ w', Below w.heap.size w w' → Errs w' ∧ Pow w') : Calls Tryz.prog 198 #[.string t, .func (.func 157) #[] #[]] w (ListEnd t w) := by
  have HEP := Lib.hid hEP; clear hEP
  obtain ⟨g, hg⟩ : ∃ g, g = w.heap.size := ⟨_, rfl⟩
  have HG := Lib.hid hg; clear hg
  go_enter Tryz.func198, Tryz.ntmps198
  go_wp2_with fail
  refine wp_scope_labels (JumpF t g w) lenM ?_ ?_ ?_
  · rintro l a w' ⟨A, k, xs, _, ⟨rfl, _⟩ | ⟨rfl, _⟩⟩
    · rfl
    · rfl
  · intro PASS
    have P1 := PASS 1
    simp only [behind, findLabel, beq_self_eq_true, if_true] at P1
    clear PASS
    go_wp2_with fail
    have hSc := Scan.new w t 209
    have hb1 : Below w.heap.size w (w.alloc (.cells #[.string t, .int .i64 0, .nilIface] 209)) := bal (Below.refl _ _) _
    generalize w.alloc (.cells #[.string t, .int .i64 0, .nilIface] 209) = wr at *
    rw [← HG.out] at hSc hb1 ⊢
    cases he : (((0 : Nat) : Int) == (t.size : Int))
    · refine (atEnd_any g 0 t .nilIface wr hSc (by omega)).mono ?_
      rw [he]
      rintro e w2 ⟨rfl, hb2⟩
      have hz : t.size ≠ 0 := fun h => by rw [h] at he; cases he
      have HZT := Lib.hid hz; clear hz
      have hS2 := hSc.below hb2
      have H := Lib.hid (show ItemF t g w [] none 0 w2 from ⟨HZT.out, by simp, ⟨rfl, Or.inl ⟨rfl, rfl⟩⟩, hb1.trans (hb2.mono (Nat.le_of_lt hSc.lt)), hS2.lt, 0, .nilIface, [], t.data.toList, hS2, ErrV.nil, ⟨rfl, rfl⟩, Or.inl ⟨rfl, rfl, rfl, by simp⟩⟩)
      clear hSc hb1 hb2 hS2 he
      go_wp2_with fail
      go_step3
      rename_i hK
      exact hK _ _ (P1 _ _ ⟨none, 0, [], ⟨_, _, _, _, _, _, _, _, _, _, _, _, _, _, _, _, _, _, _, _, _, _, _, _, _, _, _, _, _, _, _, _, _, _, rfl⟩, Or.inl ⟨rfl, H⟩⟩)
    · refine (atEnd_any g 0 t .nilIface wr hSc (by omega)).mono ?_
      rw [he]
      rintro e w2 ⟨rfl, hb2⟩
      have hz : t.size = 0 := by simp at he; omega
      have H := Lib.hid (show EndF t g w [] none 0 w2 from ⟨⟨rfl, Or.inl ⟨rfl, rfl⟩⟩, hb1.trans (hb2.mono (Nat.le_of_lt hSc.lt)), Or.inl ⟨rfl, hz⟩, by simp, by simp⟩)
      clear hSc hb1 hb2 he
      go_wp2_with fail
      go_step3
      exact ⟨none, 0, [], ⟨_, _, _, _, _, _, _, _, _, _, _, _, _, _, _, _, _, _, _, _, _, _, _, _, _, _, _, _, _, _, _, _, _, _, rfl⟩, Or.inr ⟨rfl, H⟩⟩
  · rintro l a wr ⟨A, k, xs, ⟨u8, u9, u10, u11, u12, u13, u14, u15, u16, u17, u18, u19, u20, u21, u22, u23, u24, u25, u26, u27, u28, u29, u30, u31, u32, u33, u34, u35, u36, u37, u38, u39, u40, u41, rfl⟩, ⟨rfl, H⟩ | ⟨rfl, H⟩⟩
    · simp only [behind, findLabel, beq_self_eq_true, if_true]
      obtain ⟨hzt, h8, hO, hBw, hgs, p, x, U, R, hSc, hXe, hPt, hCase⟩ := H.out
      have HO := Lib.hid hO; have HSc := Lib.hid hSc; have HXe := Lib.hid hXe; have HPt := Lib.hid hPt; have HCase := Lib.hid hCase; have HZT := Lib.hid hzt; clear hzt
      clear H hO hSc hXe hPt hCase
      have hEPg : ∀ w', wr.grownBy w' (some g) → Errs w' ∧ Pow w' := fun w' h => HEP.out w' (by rw [← HG.out]; exact hBw.trans (grown_below h hgs (Nat.le_refl _)))
      have hcall := sample_g g p t x U R wr HSc.out HXe.out HPt.out (by omega) hEPg
      have HCall := Lib.hid hcall; clear hcall hEPg
      go_wp2_with fail
      refine HCall.out.mono ?_
      rintro e w3 ⟨s, p', x', rfl, hS3, hSa, hBa, hle, hg3⟩
      clear HCall
      have hB3 : Below g w w3 := hBw.trans (grown_below hg3 hgs (Nat.le_refl _))
      have hgs3 : g < w3.heap.size := Nat.lt_of_lt_of_le hgs hg3.size
      have HOw := Lib.hid (HO.out.kept hg3 (by rw [ownBlock_blk]; cases hA : blk A with | none => exact Or.inl rfl | some b => exact Or.inr (fun e => by injection e with e; have := (OwnSl.sl HO.out (fun x => rfl)).2.2.1 b hA; omega)))
      have HO4 := Lib.hid (HOw.out.below (bal (Below.refl _ w3) (.cells #[.int .i64 s.t, .int .i64 s.v] 142)))
      have HNw := Lib.hid (new_sam w3 s 142)
      have hOut : (x' = .nilIface ∧ x = .nilIface ∧ Sampled t R p s p' x') ∨ (Bad x' ∧ NoSam t) := by
        rcases HCase.out with ⟨e, hsf⟩ | ⟨b, hn⟩
        · rcases hSa e with ⟨e', r⟩ | ⟨b, hn⟩
          · exact Or.inl ⟨e', e, hSa e⟩
          · refine Or.inr ⟨b, fun ys hy => ?_⟩
            obtain ⟨z, zs, R', _, z1, z2, z3, z4, _⟩ := next_of hsf HZT.out hy
            exact hn z R' z1 z2 z4 z3
        · exact Or.inr ⟨hBa b, hn⟩
      have HS3 := Lib.hid hS3; clear hS3 hSa hBa HO HOw HSc HXe hBw hgs hg3
      have sz3 : g + 1 ≤ w3.heap.size := hgs3
      rcases hOut with ⟨rfl, rfl, hSa⟩ | ⟨⟨sx, nx, rfl⟩, hno⟩
      · have hsf : SoFar t xs U R := by
          rcases HCase.out with ⟨_, h⟩ | ⟨b, _⟩
          · exact h
          · exact absurd b bad_nil
        have hsm : s.fit ∧ ∃ R', R = samL s ++ R' ∧ p' = p + (samL s).length ∧ ∀ b r, R' = b :: r → ¬ numC b := by
          rcases hSa with ⟨_, h⟩ | ⟨b, _⟩
          · exact h
          · exact absurd b bad_nil
        obtain ⟨hfs, R', hR', hp', hst⟩ := hsm
        have HSF := Lib.hid hsf; have HR' := Lib.hid hR'; have HST := Lib.hid hst; have HFS := Lib.hid hfs
        have HP' := Lib.hid (show Parted t p' (U ++ samL s) R' from by have := HPt.out; rw [hR'] at this; rw [hp']; exact this.on)
        clear hsf hR' hst hfs hSa HCase HPt hp'
        go_wp2_with (at_builtin; refine wpList_append_sl GSam.vals 2 16 (fun _ => rfl) sam_one 138 142 _ infoSam' rfl (by omega) Tryz.underlying138 rfl _ _ rfl (g + 1) xs [s] (.slice A xs.length k) rfl HO4.out (some ⟨w3.heap.size, 0, none⟩) 1 (w3.heap.size + 1) rfl HNw.out (by simp [maxLen]; omega) (by simp; omega) (by simp; omega) ?_; intro v' w5 hO5 hg5 _; obtain ⟨ys, hys⟩ : ∃ ys, ys = xs ++ [s] := ⟨_, rfl⟩; rw [← hys] at hO5; have HYS := Lib.hid hys; clear hys; obtain ⟨A5, c5, rfl⟩ := hO5.form; have HO5 := Lib.hid hO5; clear hO5; have hb5 : Below (g + 1) w3 w5 := ((bal (Below.refl _ w3) (.cells #[.int .i64 s.t, .int .i64 s.v] 142)).mono (by omega)).trans (below_of_grown hg5 (by simp; omega) (fun g e => (World.ownsRow.lt HO4.out g e).1)); have hS5 : Scan w5 g t p' .nilIface := ⟨(hb5.cell (p := ⟨g, 0, none⟩) (by simp)).trans HS3.out.c0, (hb5.cell (p := ⟨g, 1, none⟩) (by simp)).trans HS3.out.c1, (hb5.cell (p := ⟨g, 2, none⟩) (by simp)).trans HS3.out.c2, fun i => (hb5.frozen (p := ⟨g, i, none⟩) (by simp)).trans (HS3.out.fz i), Nat.lt_of_lt_of_le HS3.out.lt hb5.size⟩; have q2 := hS5.c2; have HS5 := Lib.hid hS5; clear hS5; have Hb5 := Lib.hid hb5; clear hb5 hg5)
        have hB5 : Below g w w5 := hB3.trans (Hb5.out.mono (by omega))
        have hyl : ys.length ≤ 8 := by rw [HYS.out]; simp; omega
        cases he : ((p' : Int) == (t.size : Int))
        · refine (atEnd_any g p' t .nilIface w5 HS5.out (by omega)).mono ?_
          rw [he]
          rintro e w6 ⟨rfl, hb6⟩
          have hR0 : R' ≠ [] := fun h => by
            have := HP'.out.size
            rw [h] at this
            simp at this he
            omega
          have HR0 := Lib.hid hR0; clear hR0
          have HS6 := Lib.hid (HS5.out.below hb6)
          have HO6 := Lib.hid (HO5.out.below hb6)
          have hB6 : Below g w w6 := hB5.trans (hb6.mono (Nat.le_of_lt HS5.out.lt))
          have HNX := Lib.hid (show ∀ zs, SamRead t zs → ys.length < zs.length from fun zs hz => by
            obtain ⟨z, n, R2, hl, z1, z2, z3, z4, z5⟩ := next_of HSF.out HZT.out hz
            have e1 := samL_one (HR'.out.symm.trans z3) HST.out z4
            have n0 : n ≠ 0 := fun h => HR0.out (by rw [e1]; exact z5.1 h)
            rw [HYS.out]
            simp
            omega)
          clear HS5 HO5 hb6 he Hb5 hB5
          cases h8' : ((ys.length : Int) == 8)
          · have hy7 : ys.length < 8 := by simp at h8'; omega
            go_wp2_with fail
            refine (mark_g g p' t ⟨#[32]⟩ .nilIface (U ++ samL s) R' w6 HS6.out ErrV.nil HP'.out (by omega) (by decide)).mono ?_
            rintro e w7 ⟨rfl, p7, x7, hS7, hM7, hg7⟩
            have hgs6 := HS6.out.lt
            have hB7 : Below g w w7 := hB6.trans (grown_below hg7 hgs6 (Nat.le_refl _))
            have hO7 := HO6.out.kept hg7 (by rw [ownBlock_blk]; cases hA : blk A5 with | none => exact Or.inl rfl | some b => exact Or.inr (fun e => by injection e with e; have := (OwnSl.sl HO6.out (fun x => rfl)).2.2.1 b hA; omega))
            have H7 : Hid (ItemF t g w ys A5 c5 w7) := Lib.hid (by
              refine ⟨HZT.out, hy7, hO7, hB7, hS7.lt, p7, x7, ?_⟩
              rcases hM7 with ⟨e1, e2, R2, e3⟩ | ⟨b, e2, hn⟩
              · have e3' : R' = [32] ++ R2 := e3
                have hP7 : Parted t p7 (U ++ samL s ++ [32]) R2 := by have := HP'.out; rw [e3'] at this; rw [e2]; exact this.on
                exact ⟨_, _, hS7, by rw [e1]; exact ErrV.nil, hP7, Or.inl ⟨e1, by rw [HYS.out]; exact soFar_next HSF.out (by rw [HR'.out, e3']; rfl) HFS.out⟩⟩
              · refine ⟨U ++ samL s, R', hS7, Or.inr b, by rw [e2]; exact HP'.out, Or.inr ⟨b, fun zs hz => ?_⟩⟩
                obtain ⟨z, n, R2, hl, z1, z2, z3, z4, z5⟩ := next_blank HSF.out HZT.out hz
                have e1 := samL_one (HR'.out.symm.trans z3) HST.out z4
                rcases z5 with h | ⟨r, h⟩
                · exact HR0.out (by rw [e1, h])
                · exact hn r (by rw [e1, h]; rfl))
            clear hS7 hM7 hg7 hO7 HS6 HO6 hB6 HNX hB7
            go_wp2_with fail
            go_step3
            refine ⟨⟨A5, c5, ys, ⟨_, _, _, _, _, _, _, _, _, _, _, _, _, _, _, _, _, _, _, _, _, _, _, _, _, _, _, _, _, _, _, _, _, _, rfl⟩, Or.inl ⟨rfl, H7⟩⟩, ?_⟩
            simp [lenM, sliceLen, HYS.out]
            omega
          · have HN := Lib.hid (show NoSam t from fun zs hz => by have := HNX.out zs hz; have := hz.2.1; simp at h8'; omega)
            have q1 := HS6.out.c1
            have bE : Below w.heap.size w w6 := by rw [← HG.out]; exact hB6
            clear HNX
            go_wp2_with fail
            go_quiet (fail)
            go_wp2
            exact bodyPost_ret (v := .tuple #[.slice none 0 0, .iface 249 (.agg #[.string ⟨#[101, 110, 100]⟩, .int .i64 p'])]) (by simp [results, Tryz.results198, go_sem]) rfl ⟨bdrewN bE _, Or.inr ⟨_, rfl, ⟨_, _, rfl⟩, HN.out⟩⟩
        · refine (atEnd_any g p' t .nilIface w5 HS5.out (by omega)).mono ?_
          rw [he]
          rintro e w6 ⟨rfl, hb6⟩
          have hR0 : R' = [] := by
            have := HP'.out.size
            apply List.length_eq_zero_iff.1
            simp at he
            omega
          have hend := soFar_end HSF.out (by rw [HR'.out, hR0]; simp) HFS.out
          rw [← HYS.out] at hend
          have H6 : Hid (EndF t g w ys A5 c5 w6) := Lib.hid ⟨HO5.out.below hb6, hB5.trans (hb6.mono (Nat.le_of_lt HS5.out.lt)), hend.1, hyl, hend.2⟩
          clear hend hR0 HS5 HO5 hb6 he Hb5 hB5
          go_wp2_with fail
          go_step3
          refine ⟨⟨A5, c5, ys, ⟨_, _, _, _, _, _, _, _, _, _, _, _, _, _, _, _, _, _, _, _, _, _, _, _, _, _, _, _, _, _, _, _, _, _, rfl⟩, Or.inr ⟨rfl, H6⟩⟩, ?_⟩
          simp [lenM, sliceLen]
          omega
      · have HN := Lib.hid hno; clear hno HCase HPt
        go_wp2_with (at_builtin; refine wpList_append_sl GSam.vals 2 16 (fun _ => rfl) sam_one 138 142 _ infoSam' rfl (by omega) Tryz.underlying138 rfl _ _ rfl (g + 1) xs [s] (.slice A xs.length k) rfl HO4.out (some ⟨w3.heap.size, 0, none⟩) 1 (w3.heap.size + 1) rfl HNw.out (by simp [maxLen]; omega) (by simp; omega) (by simp; omega) ?_; intro v' w5 hO5 hg5 _; obtain ⟨A5, c5, rfl⟩ := hO5.form; have hb5 : Below (g + 1) w3 w5 := ((bal (Below.refl _ w3) (.cells #[.int .i64 s.t, .int .i64 s.v] 142)).mono (by omega)).trans (below_of_grown hg5 (by simp; omega) (fun g e => (World.ownsRow.lt HO4.out g e).1)); have q2 : w5.cell? ⟨g, 2, none⟩ = _ := (hb5.cell (p := ⟨g, 2, none⟩) (by simp)).trans HS3.out.c2; have Hb5 := Lib.hid hb5; clear hb5 hg5 hO5)
        have bE : Below w.heap.size w w5 := by rw [← HG.out]; exact hB3.trans (Hb5.out.mono (by omega))
        go_quiet (fail)
        go_wp2
        exact bodyPost_ret (v := .tuple #[.slice none 0 0, .iface 249 (.agg #[.string sx, .int .i64 nx])]) (by simp [results, Tryz.results198, go_sem]) rfl ⟨bdrewN bE _, Or.inr ⟨_, rfl, ⟨_, _, rfl⟩, HN.out⟩⟩
    · simp only [behind, findLabel, beq_self_eq_true, if_true]
      obtain ⟨hO, hB, hof, h8, hf⟩ := H.out
      have HO := Lib.hid (own_more (c := g) hO (by omega)); clear hO H
      have HOF := Lib.hid hof; have HF := Lib.hid hf; clear hof hf
      go_wp2
      refine bodyPost_ret (v := .tuple #[.slice A xs.length k, .nilIface]) (by simp [results, Tryz.results198, go_sem]) rfl ⟨by rw [← HG.out]; exact hB, Or.inl ⟨A, k, xs, rfl, HOF.out, h8, HF.out, by rw [← HG.out]; exact HO.out⟩⟩

end Go.Proofs.YtpackpocnonpiaaGreatDoor

/- Contracts of the program's readRight of samples and ReadSamples. Conditions: the library's table of powers of ten is as its text lays it, its two errors' variables hold errors; a text's length. -/
namespace Go.Proofs.YtpackpocnonpiaaGreatDoor
open Go.ChangeShapes Go.WideShapes Go.ChangeAt Go.RowKit
set_option linter.unusedVariables false
set_option linter.unusedSimpArgs false

/-- how ReadSamples ends: what it answers is of its own -/
def ReadEnd (t : ByteArray) (w : World) (e : Ending) (w' : World) : Prop := ∃ A k xs cd, e = .returned (.tuple #[.slice A xs.length k, .int .i64 cd]) ∧ SamCode t xs cd ∧ OwnSl GSam.vals 2 142 w.heap.size w' (.slice A xs.length k) xs ∧ Below w.heap.size w w'

theorem samOf_one {t : ByteArray} {xs ys : List GSam} (h : SamOf t xs) (hf : ∀ x ∈ xs, x.fit) (k : SamRead t ys) : xs = ys := by
  have fy : ∀ s ∈ ys, s.fit := fun s hs => ⟨small_fitI (samP_small k.1 s hs).1, small_fitI (samP_small k.1 s hs).2⟩
  rcases h with ⟨rfl, h0⟩ | ⟨hn, hp⟩ <;> rcases k.2.2 with ⟨rfl, k0⟩ | ⟨kn, kp⟩
  · rfl
  · exact absurd kp (no_piece h0 kn)
  · exact absurd hp (no_piece k0 hn)
  · obtain ⟨ps, last, e, hq⟩ := kp
    have hc : ∀ p ∈ ps ++ [last], (32 : UInt8) ∉ p.data.toList := by
      rw [← e]
      intro p hp
      obtain ⟨s, _, rfl⟩ := List.mem_map.1 hp
      exact samT_blank s
    have := sams_cut hp ⟨hq, fun p hp => hc p (by simp [hp]), hc last (by simp)⟩
    exact sam_inj hf fy (by rw [← this, e])

theorem own_nil (base : Nat) (w : World) : OwnSl GSam.vals 2 142 base w (.slice none ([] : List GSam).length 0) [] := ⟨rfl, Or.inl ⟨rfl, rfl⟩⟩

set_option maxRecDepth 100000 in
theorem readRight_any (t : ByteArray) (w : World) (ht : t.size ≤ 2 ^ 63 - 1) (hE : Errs w) (hP : Pow w) : Calls Tryz.prog 156 #[.string t, .func (.func 157) #[] #[], .func (.func 158) #[] #[]] w (ReadEnd t w) := by
  have HE := Lib.hid hE; clear hE
  have HP := Lib.hid hP; clear hP
  have cW : (w.alloc (.cells #[.string t] 9)).cell? ⟨w.heap.size, 0, none⟩ = some (.string t) := by simp
  have bW : Below w.heap.size w (w.alloc (.cells #[.string t] 9)) := bal (Below.refl _ _) _
  go_enter Tryz.func156, Tryz.ntmps156
  go_wp2_with fail
  generalize w.alloc (.cells #[.string t] 9) = w0 at *
  refine (tooLong_any w.heap.size t w0 cW ht).mono ?_
  rintro e w' ⟨rfl, rfl⟩
  clear cW
  cases hl : decide (65536 < (t.size : Int))
  · have hs : t.size ≤ 65536 := by simp at hl; omega
    clear hl
    go_wp2_with fail
    refine (readList_any t w0 hs (fun w' h => by
      have hb : Below w.heap.size w w' := bnext bW h
      exact ⟨HE.out.below hb (Nat.le_refl _), HP.out.below hb (Nat.le_refl _)⟩)).mono ?_
    rintro e w1 ⟨hb1, ⟨A, k, xs, rfl, hof, h8, hf, hO⟩ | ⟨y, rfl, ⟨sx, nx, rfl⟩, hno⟩⟩
    · have b1 := bnext bW hb1
      have HO := Lib.hid (own_more (c := w.heap.size) hO bW.size)
      obtain ⟨hsl, _, _, _⟩ := OwnSl.sl hO (fun x => rfl)
      have HSl := Lib.hid hsl
      have HOF := Lib.hid hof; have HF := Lib.hid hf
      clear hO hsl hof hf hb1 bW
      go_wp2_with fail
      refine (samplesOK_any A k xs w1.heap.size w1 HSl.out (Nat.le_refl _) (by omega)).mono ?_
      rintro e w2 ⟨b, hb, rfl, hb2⟩
      have b2 := bnext b1 hb2
      have HO2 := Lib.hid (HO.out.below hb2)
      clear b1 hb2 HO HSl
      cases b
      · have HR := Lib.hid (show SamCode t [] 3 from Or.inr (Or.inr ⟨hs, fun ys hy => by
          have e := samOf_one HOF.out HF.out hy
          rw [e] at hb
          exact Bool.noConfusion (hb.2 hy.1), rfl, rfl⟩))
        clear hb
        go_wp2
        exact bodyPost_ret (v := .tuple #[.slice none 0 0, .int .i64 3]) (by simp [results, Tryz.results156, go_sem]) rfl ⟨none, 0, [], 3, rfl, HR.out, own_nil _ _, b2⟩
      · have HR := Lib.hid (show SamCode t xs 0 from Or.inr (Or.inl ⟨hs, ⟨hb.1 rfl, h8, HOF.out⟩, rfl⟩))
        clear hb
        go_wp2
        exact bodyPost_ret (v := .tuple #[.slice A xs.length k, .int .i64 0]) (by simp [results, Tryz.results156, go_sem]) rfl ⟨A, k, xs, 0, rfl, HR.out, HO2.out, b2⟩
    · have HR := Lib.hid (show SamCode t [] 3 from Or.inr (Or.inr ⟨hs, hno, rfl, rfl⟩)); clear hno
      have b1 := bnext bW hb1
      clear bW hb1
      go_wp2
      exact bodyPost_ret (v := .tuple #[.slice none 0 0, .int .i64 3]) (by simp [results, Tryz.results156, go_sem]) rfl ⟨none, 0, [], 3, rfl, HR.out, own_nil _ _, b1⟩
  · have HR := Lib.hid (show SamCode t [] 2 from Or.inl ⟨by simp at hl; omega, rfl, rfl⟩)
    go_wp2
    exact bodyPost_ret (v := .tuple #[.slice none 0 0, .int .i64 2]) (by simp [results, Tryz.results156, go_sem]) rfl ⟨none, 0, [], 2, rfl, HR.out, own_nil _ _, bW⟩

theorem readSamples_any (t : ByteArray) (w : World) (ht : t.size ≤ 2 ^ 63 - 1) (hE : Errs w) (hP : Pow w) : Calls Tryz.prog 88 #[.string t] w (ReadEnd t w) := by
  have HE := Lib.hid hE; clear hE
  have HP := Lib.hid hP; clear hP
  go_enter Tryz.func88, Tryz.ntmps88
  go_wp2_with fail
  refine (readRight_any t w ht HE.out HP.out).mono ?_
  rintro e w1 ⟨A, k, xs, cd, rfl, hR, hO, hb⟩
  have HR := Lib.hid hR; have HO := Lib.hid hO
  clear hR hO
  go_wp2
  exact bodyPost_ret (v := .tuple #[.slice A xs.length k, .int .i64 cd]) (by simp [results, Tryz.results88, go_sem]) rfl ⟨A, k, xs, cd, rfl, HR.out, HO.out, hb⟩

end Go.Proofs.YtpackpocnonpiaaGreatDoor
