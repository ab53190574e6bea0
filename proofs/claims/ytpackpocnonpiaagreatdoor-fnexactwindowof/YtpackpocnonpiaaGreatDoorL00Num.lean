/-
  Contracts of the model's l00Number and l02Number: just a number's text is read, at least those of 18 digits. Conditions: a text's length.
-/
import Derived.Test.YtpackpocnonpiaaGreatDoorDv
import Derived.Outline
namespace Go.Proofs.YtpackpocnonpiaaGreatDoor
open Go.ChangeShapes Go.WideShapes Go.ChangeAt Go.RowKit
set_option linter.unusedVariables false
set_option linter.unusedSimpArgs false

/-- what l00Number answers -/
def NumOf (t : ByteArray) (n : Int) (b : Bool) : Prop := Small n ∧ ∀ m, Small m → t = numT m → b = true ∧ n = m

def NumOfEnd (t : ByteArray) (w : World) (e : Ending) (w' : World) : Prop := ∃ n b, e = .returned (.tuple #[.int .i64 n, .bool b]) ∧ NumOf t n b ∧ w = w'

theorem numOf_no {t : ByteArray} (h : ∀ m, Small m → t ≠ numT m) : NumOf t 0 false := ⟨by unfold Small; omega, fun m hm e => absurd e (h m hm)⟩

/-- what a text that a number has looks like behind its sign s -/
def Behind (t X : ByteArray) (s : Int) : Prop := ∀ m, Small m → t = numT m → ∃ u : Nat, m = s * u ∧ X.data.toList = Lib.decDigits u ∧ (s = -1 → 0 < u) ∧ u < 1000000000000000000

theorem behind_neg {t : ByteArray} (h0 : 0 < t.size) (h : t[0] = 45) : Behind t (t.extract 1 t.size) (-1) := by
  intro m hm e
  have hl : t.data.toList = Lib.itoa m := by rw [e, num_list]
  have hh : t.data.toList[0]'(by rw [Array.length_toList]; exact h0) = 45 := h
  unfold Small at hm
  by_cases hp : 0 ≤ m
  · rw [itoa_pos hp] at hl
    have := (dec_facts m.toNat).1 45 (by rw [← hl, ← hh]; exact List.getElem_mem _)
    unfold isDig at this
    exact absurd this.1 (by decide)
  · rw [itoa_neg (by omega)] at hl
    refine ⟨m.natAbs, by omega, ?_, fun _ => by omega, by omega⟩
    have es : t.size = t.data.toList.length := by rw [Array.length_toList]; rfl
    rw [ByteArray.data_extract, Array.toList_extract, List.extract_eq_take_drop, es, hl]
    simp

theorem behind_pos {t : ByteArray} (h : ∀ h0 : 0 < t.size, t[0] ≠ 45) : Behind t t 1 := by
  intro m hm e
  have hl : t.data.toList = Lib.itoa m := by rw [e, num_list]
  unfold Small at hm
  by_cases hp : 0 ≤ m
  · rw [itoa_pos hp] at hl
    exact ⟨m.toNat, by omega, hl, fun h => by omega, by omega⟩
  · rw [itoa_neg (by omega)] at hl
    have es : t.size = t.data.toList.length := by rw [Array.length_toList]; rfl
    have h0 : 0 < t.size := by rw [es, hl]; simp
    refine absurd ?_ (h h0)
    show t.data.toList[0]'(by rw [Array.length_toList]; exact h0) = 45
    simp [hl]

theorem behind_len {t X : ByteArray} {s : Int} (h : Behind t X s) (hx : X.size = 0 ∨ 18 < X.size) : ∀ m, Small m → t ≠ numT m := by
  intro m hm e
  obtain ⟨u, _, h2, _, h4⟩ := h m hm e
  have es : X.size = X.data.toList.length := by rw [Array.length_toList]; rfl
  have hl := dec_len 17 u (by omega)
  obtain ⟨_, _, b, r, f3, _⟩ := dec_facts u
  rw [← h2] at hl f3
  rcases hx with hx | hx
  · rw [es, f3] at hx
    simp at hx
  · omega

theorem behind_zero {t X : ByteArray} {s : Int} (h : Behind t X s) (h0 : 0 < X.size) (hz : X[0] = 48) (hx : 1 < X.size ∨ s = -1) : ∀ m, Small m → t ≠ numT m := by
  intro m hm e
  obtain ⟨u, _, h2, h3, _⟩ := h m hm e
  have es : X.size = X.data.toList.length := by rw [Array.length_toList]; rfl
  have hh : X.data.toList[0]'(by rw [Array.length_toList]; exact h0) = 48 := hz
  obtain ⟨_, _, b, r, f3, f4⟩ := dec_facts u
  rw [← h2] at f3
  have hb : b = 48 := by simpa [f3] using hh
  by_cases hu : 0 < u
  · exact f4 hu (by rw [hb]; rfl)
  · obtain rfl : u = 0 := by omega
    rw [Lib.decDigits_one (by omega)] at h2
    rcases hx with hx | hx
    · rw [es, h2] at hx
      simp at hx
    · have := h3 hx
      omega

theorem behind_dig {t X : ByteArray} {s : Int} (h : Behind t X s) {k : Nat} (hk : k < X.size) (hd : ¬ isDig X[k]) : ∀ m, Small m → t ≠ numT m := by
  intro m hm e
  obtain ⟨u, _, h2, _, _⟩ := h m hm e
  apply hd
  apply (dec_facts u).1
  rw [← h2]
  exact List.getElem_mem (l := X.data.toList) (by rw [Array.length_toList]; exact hk)

theorem behind_end {t X : ByteArray} {s : Int} (h : Behind t X s) (hs : s = 1 ∨ s = -1) (hx : X.size ≤ 18) (hd : ∀ b ∈ X.data.toList, isDig b) : NumOf t (s * (dval X.data.toList : Int)) true := by
  have es : X.size = X.data.toList.length := by rw [Array.length_toList]; rfl
  have hl := dval_lt X.data.toList 0 hd
  have hp : 10 ^ X.data.toList.length ≤ 10 ^ 18 := Nat.pow_le_pow_right (by omega) (by omega)
  refine ⟨?_, fun m hm e => ⟨rfl, ?_⟩⟩
  · have : dval X.data.toList = dvalF 0 X.data.toList := rfl
    unfold Small
    rcases hs with rfl | rfl <;> omega
  · obtain ⟨u, h1, h2, _, _⟩ := h m hm e
    rw [h1, h2, (dec_facts u).2.1]

set_option maxRecDepth 100000 in
set_option maxHeartbeats 1000000 in
theorem l00Number_any (t : ByteArray) (w : World) (ht : t.size ≤ 1048576) : Calls Tryz.prog 193 #[.string t] w (NumOfEnd t w) := by
  by_cases hs : ∃ h0 : 0 < t.size, t[0] = 45
  · obtain ⟨h0, h45⟩ := hs
    have HB0 := behind_neg h0 h45
    have hXs : (t.extract 1 t.size).size ≤ 1048576 := by rw [ByteArray.size_extract]; omega
    have dg : decide (0 < (t.size : Int)) = true := by simp; omega
    have d45 : ((t[0].toNat : Int) == 45) = true := by rw [h45]; rfl
    have i1 : (1 : Int) ≤ (t.size : Int) := by omega
    have hsl : t.extract 1 t.size = t.extract 1 t.size := rfl
    obtain ⟨X, hX⟩ : ∃ X, X = t.extract 1 t.size := ⟨_, rfl⟩
    rw [← hX] at HB0 hXs
    have eX := hX.symm
    have HB := Lib.hid HB0; clear HB0 hX hsl h45
    have x0 : (0 : Int) ≤ (X.size : Int) := by omega
    by_cases hz : X.size = 0 ∨ 18 < X.size
    · have HN := Lib.hid (behind_len HB.out hz)
      rcases hz with hz | hz
      · have dz : ((X.size : Int) == 0) = true := by rw [beq_iff_eq]; omega
        go_enter Tryz.func193, Tryz.ntmps193
        go_wp2
        exact bodyPost_ret (v := .tuple #[.int .i64 0, .bool false]) (by simp [results, Tryz.results193, go_sem]) rfl ⟨0, false, rfl, numOf_no HN.out, rfl⟩
      · have dz : ((X.size : Int) == 0) = false := by rw [beq_eq_false_iff_ne]; omega
        have dl : decide (18 < (X.size : Int)) = true := by simp; omega
        go_enter Tryz.func193, Tryz.ntmps193
        go_wp2
        exact bodyPost_ret (v := .tuple #[.int .i64 0, .bool false]) (by simp [results, Tryz.results193, go_sem]) rfl ⟨0, false, rfl, numOf_no HN.out, rfl⟩
    have hX0 : 0 < X.size := by omega
    have hX18 : X.size ≤ 18 := by omega
    have dz : ((X.size : Int) == 0) = false := by rw [beq_eq_false_iff_ne]; omega
    have dl : decide (18 < (X.size : Int)) = false := by simp; omega
    by_cases hq : X[0] = 48 ∧ True
    · have HN := Lib.hid (behind_zero HB.out hX0 hq.1 (Or.inr rfl))
      have dq : ((X[0].toNat : Int) == 48) = true := by rw [hq.1]; rfl
      cases d1 : decide (1 < (X.size : Int))
      · go_enter Tryz.func193, Tryz.ntmps193
        go_wp2
        exact bodyPost_ret (v := .tuple #[.int .i64 0, .bool false]) (by simp [results, Tryz.results193, go_sem]) rfl ⟨0, false, rfl, numOf_no HN.out, rfl⟩
      · go_enter Tryz.func193, Tryz.ntmps193
        go_wp2
        exact bodyPost_ret (v := .tuple #[.int .i64 0, .bool false]) (by simp [results, Tryz.results193, go_sem]) rfl ⟨0, false, rfl, numOf_no HN.out, rfl⟩
    cases dq : ((X[0].toNat : Int) == 48)
    · clear hq
      go_enter Tryz.func193, Tryz.ntmps193
      go_wp2_with fail
      go_loopw [5, 6] (fun n i wr => ∃ (k v : Nat), k ≤ X.size ∧ i = .int .i64 k ∧ n = .int .i64 v ∧ Hid (v = dval (X.data.toList.take k) ∧ ∀ b ∈ X.data.toList.take k, isDig b) ∧ wr = w) (fun _ i _ => X.size - (intOf i).toNat)
      case atStart => exact ⟨0, 0, by omega, rfl, rfl, Lib.hid ⟨rfl, by simp⟩, rfl⟩
      case round =>
        obtain ⟨k, v, hk, rfl, rfl, HV, rfl⟩ := hrel
        by_cases hlt : k < X.size
        · have hkl : k < X.data.toList.length := by rw [Array.length_toList]; exact hlt
          have i0 : (0 : Int) ≤ (k : Int) := by omega
          have i1 : (k : Int) < (X.size : Int) := by omega
          by_cases hd : isDig X[k]
          · have hv : v < 100000000000000000 := by
              have h1 := dval_lt (X.data.toList.take k) 0 HV.out.2
              have h2 : 10 ^ (X.data.toList.take k).length ≤ 10 ^ 17 := Nat.pow_le_pow_right (by omega) (by rw [List.length_take]; omega)
              have h3 : v = dvalF 0 (X.data.toList.take k) := HV.out.1
              omega
            have HV2 := Lib.hid (show v * 10 + X[k].toNat - 48 = dval (X.data.toList.take (k + 1)) ∧ ∀ b ∈ X.data.toList.take (k + 1), isDig b from by
              have hg : X.data.toList[k] = X[k] := rfl
              rw [List.take_succ_eq_append_getElem hkl, dval_snoc, ← HV.out.1, hg]
              refine ⟨by have := hd.1; omega, fun b hb => ?_⟩
              rcases List.mem_append.1 hb with hb | hb
              · exact HV.out.2 b hb
              · rw [List.mem_singleton] at hb; rw [hb]; exact hd)
            obtain ⟨g1, g2⟩ := hd
            have e1 : decide ((X[k].toNat : Int) < 48) = false := by simp; omega
            have e2 : decide (57 < (X[k].toNat : Int)) = false := by simp; omega
            have w1 : IntKind.i64.wrap ((v : Int) * 10) = (v : Int) * 10 := by rw [IntKind.wrap_i64]; omega
            have w2 : IntKind.i64.wrap (X[k].toNat : Int) = (X[k].toNat : Int) := by rw [IntKind.wrap_i64]; omega
            have w3 : IntKind.i64.wrap ((v : Int) * 10 + (X[k].toNat : Int)) = (v : Int) * 10 + (X[k].toNat : Int) := by rw [IntKind.wrap_i64]; omega
            have w4 : IntKind.i64.wrap ((v : Int) * 10 + (X[k].toNat : Int) - 48) = (v : Int) * 10 + (X[k].toNat : Int) - 48 := by rw [IntKind.wrap_i64]; omega
            have Ec := Lib.hid (show (v : Int) * 10 + (X[k].toNat : Int) - 48 = ((v * 10 + X[k].toNat - 48 : Nat) : Int) by omega)
            clear HV
            go_wp2
            exact ⟨⟨k + 1, v * 10 + X[k].toNat - 48, by omega, by go_num, by rw [← Ec.out], HV2, trivial⟩, by simp [intOf]; omega⟩
          · have HN := Lib.hid (behind_dig HB.out hlt hd)
            clear HV
            by_cases hl8 : X[k].toNat < 48
            · have e1 : decide ((X[k].toNat : Int) < 48) = true := by simp; omega
              go_wp2
              exact bodyPost_ret (v := .tuple #[.int .i64 0, .bool false]) (by simp [results, Tryz.results193, go_sem]) rfl ⟨0, false, rfl, numOf_no HN.out, rfl⟩
            · have e1 : decide ((X[k].toNat : Int) < 48) = false := by simp; omega
              have e2 : decide (57 < (X[k].toNat : Int)) = true := by unfold isDig at hd; simp; omega
              go_wp2
              exact bodyPost_ret (v := .tuple #[.int .i64 0, .bool false]) (by simp [results, Tryz.results193, go_sem]) rfl ⟨0, false, rfl, numOf_no HN.out, rfl⟩
        · obtain rfl : k = X.size := by omega
          have HE := Lib.hid (show NumOf t (-(v : Int)) true from by
            obtain ⟨h1, h2⟩ := HV.out
            have es : X.data.toList.take X.size = X.data.toList := List.take_of_length_le (by rw [Array.length_toList]; exact Nat.le_refl _)
            rw [es] at h1 h2
            rw [h1]
            rw [show -(dval X.data.toList : Int) = (-1) * (dval X.data.toList : Int) by omega]
            exact behind_end HB.out (by decide) hX18 h2)
          have hsm := HE.out.1
          unfold Small at hsm
          have wm : wrap64 (-(v : Int)) = -(v : Int) := by unfold wrap64; omega
          have i1 : ¬ (X.size : Int) < (X.size : Int) := by omega
          clear HV hsm
          go_wp2
          exact bodyPost_ret (v := .tuple #[.int .i64 (-(v : Int)), .bool true]) (by simp [results, Tryz.results193, go_sem, wm]) rfl ⟨_, true, rfl, HE.out, rfl⟩
    · exact absurd ⟨UInt8.toNat_inj.1 (by have e : (48 : UInt8).toNat = 48 := rfl; simp at dq; omega), trivial⟩ hq
  · have HB0 := behind_pos (fun h0 h => hs ⟨h0, h⟩)
    by_cases h0 : 0 < t.size
    · have dg : decide (0 < (t.size : Int)) = true := by simp; omega
      have d45 : ((t[0].toNat : Int) == 45) = false := by
        simp only [beq_eq_false_iff_ne, ne_eq]
        intro h
        exact hs ⟨h0, UInt8.toNat_inj.1 (by have e : (45 : UInt8).toNat = 45 := rfl; omega)⟩
      have HB := Lib.hid HB0; clear HB0 hs
      have x0 : (0 : Int) ≤ (t.size : Int) := by omega
      by_cases hz : t.size = 0 ∨ 18 < t.size
      · have HN := Lib.hid (behind_len HB.out hz)
        rcases hz with hz | hz
        · have dz : ((t.size : Int) == 0) = true := by rw [beq_iff_eq]; omega
          go_enter Tryz.func193, Tryz.ntmps193
          go_wp2
          exact bodyPost_ret (v := .tuple #[.int .i64 0, .bool false]) (by simp [results, Tryz.results193, go_sem]) rfl ⟨0, false, rfl, numOf_no HN.out, rfl⟩
        · have dz : ((t.size : Int) == 0) = false := by rw [beq_eq_false_iff_ne]; omega
          have dl : decide (18 < (t.size : Int)) = true := by simp; omega
          go_enter Tryz.func193, Tryz.ntmps193
          go_wp2
          exact bodyPost_ret (v := .tuple #[.int .i64 0, .bool false]) (by simp [results, Tryz.results193, go_sem]) rfl ⟨0, false, rfl, numOf_no HN.out, rfl⟩
      have ht0 : 0 < t.size := by omega
      have ht18 : t.size ≤ 18 := by omega
      have dz : ((t.size : Int) == 0) = false := by rw [beq_eq_false_iff_ne]; omega
      have dl : decide (18 < (t.size : Int)) = false := by simp; omega
      by_cases hq : t[0] = 48 ∧ 1 < t.size
      · have HN := Lib.hid (behind_zero HB.out ht0 hq.1 (Or.inl hq.2))
        have dq : ((t[0].toNat : Int) == 48) = true := by rw [hq.1]; rfl
        have d1 : decide (1 < (t.size : Int)) = true := by have := hq.2; simp; omega
        go_enter Tryz.func193, Tryz.ntmps193
        go_wp2
        exact bodyPost_ret (v := .tuple #[.int .i64 0, .bool false]) (by simp [results, Tryz.results193, go_sem]) rfl ⟨0, false, rfl, numOf_no HN.out, rfl⟩
      cases dq : ((t[0].toNat : Int) == 48)
      · clear hq
        go_enter Tryz.func193, Tryz.ntmps193
        go_wp2_with fail
        go_loopw [5, 6] (fun n i wr => ∃ (k v : Nat), k ≤ t.size ∧ i = .int .i64 k ∧ n = .int .i64 v ∧ Hid (v = dval (t.data.toList.take k) ∧ ∀ b ∈ t.data.toList.take k, isDig b) ∧ wr = w) (fun _ i _ => t.size - (intOf i).toNat)
        case atStart => exact ⟨0, 0, by omega, rfl, rfl, Lib.hid ⟨rfl, by simp⟩, rfl⟩
        case round =>
          obtain ⟨k, v, hk, rfl, rfl, HV, rfl⟩ := hrel
          by_cases hlt : k < t.size
          · have hkl : k < t.data.toList.length := by rw [Array.length_toList]; exact hlt
            have i0 : (0 : Int) ≤ (k : Int) := by omega
            have i1 : (k : Int) < (t.size : Int) := by omega
            by_cases hd : isDig t[k]
            · have hv : v < 100000000000000000 := by
                have h1 := dval_lt (t.data.toList.take k) 0 HV.out.2
                have h2 : 10 ^ (t.data.toList.take k).length ≤ 10 ^ 17 := Nat.pow_le_pow_right (by omega) (by rw [List.length_take]; omega)
                have h3 : v = dvalF 0 (t.data.toList.take k) := HV.out.1
                omega
              have HV2 := Lib.hid (show v * 10 + t[k].toNat - 48 = dval (t.data.toList.take (k + 1)) ∧ ∀ b ∈ t.data.toList.take (k + 1), isDig b from by
                have hg : t.data.toList[k] = t[k] := rfl
                rw [List.take_succ_eq_append_getElem hkl, dval_snoc, ← HV.out.1, hg]
                refine ⟨by have := hd.1; omega, fun b hb => ?_⟩
                rcases List.mem_append.1 hb with hb | hb
                · exact HV.out.2 b hb
                · rw [List.mem_singleton] at hb; rw [hb]; exact hd)
              obtain ⟨g1, g2⟩ := hd
              have e1 : decide ((t[k].toNat : Int) < 48) = false := by simp; omega
              have e2 : decide (57 < (t[k].toNat : Int)) = false := by simp; omega
              have w1 : IntKind.i64.wrap ((v : Int) * 10) = (v : Int) * 10 := by rw [IntKind.wrap_i64]; omega
              have w2 : IntKind.i64.wrap (t[k].toNat : Int) = (t[k].toNat : Int) := by rw [IntKind.wrap_i64]; omega
              have w3 : IntKind.i64.wrap ((v : Int) * 10 + (t[k].toNat : Int)) = (v : Int) * 10 + (t[k].toNat : Int) := by rw [IntKind.wrap_i64]; omega
              have w4 : IntKind.i64.wrap ((v : Int) * 10 + (t[k].toNat : Int) - 48) = (v : Int) * 10 + (t[k].toNat : Int) - 48 := by rw [IntKind.wrap_i64]; omega
              have Ec := Lib.hid (show (v : Int) * 10 + (t[k].toNat : Int) - 48 = ((v * 10 + t[k].toNat - 48 : Nat) : Int) by omega)
              clear HV
              go_wp2
              exact ⟨⟨k + 1, v * 10 + t[k].toNat - 48, by omega, by go_num, by rw [← Ec.out], HV2, trivial⟩, by simp [intOf]; omega⟩
            · have HN := Lib.hid (behind_dig HB.out hlt hd)
              clear HV
              by_cases hl8 : t[k].toNat < 48
              · have e1 : decide ((t[k].toNat : Int) < 48) = true := by simp; omega
                go_wp2
                exact bodyPost_ret (v := .tuple #[.int .i64 0, .bool false]) (by simp [results, Tryz.results193, go_sem]) rfl ⟨0, false, rfl, numOf_no HN.out, rfl⟩
              · have e1 : decide ((t[k].toNat : Int) < 48) = false := by simp; omega
                have e2 : decide (57 < (t[k].toNat : Int)) = true := by unfold isDig at hd; simp; omega
                go_wp2
                exact bodyPost_ret (v := .tuple #[.int .i64 0, .bool false]) (by simp [results, Tryz.results193, go_sem]) rfl ⟨0, false, rfl, numOf_no HN.out, rfl⟩
          · obtain rfl : k = t.size := by omega
            have HE := Lib.hid (show NumOf t ((v : Int)) true from by
              obtain ⟨h1, h2⟩ := HV.out
              have es : t.data.toList.take t.size = t.data.toList := List.take_of_length_le (by rw [Array.length_toList]; exact Nat.le_refl _)
              rw [es] at h1 h2
              rw [h1]
              rw [show (dval t.data.toList : Int) = 1 * (dval t.data.toList : Int) by omega]
              exact behind_end HB.out (by decide) ht18 h2)
            have hsm := HE.out.1
            unfold Small at hsm
            have wm : wrap64 ((v : Int)) = (v : Int) := by unfold wrap64; omega
            have i1 : ¬ (t.size : Int) < (t.size : Int) := by omega
            clear HV hsm
            go_wp2
            exact bodyPost_ret (v := .tuple #[.int .i64 ((v : Int)), .bool true]) (by simp [results, Tryz.results193, go_sem, wm]) rfl ⟨_, true, rfl, HE.out, rfl⟩
      · have d1 : decide (1 < (t.size : Int)) = false := by
          have hq1 : t[0] = 48 := UInt8.toNat_inj.1 (by have e : (48 : UInt8).toNat = 48 := rfl; simp at dq; omega)
          have : ¬ 1 < t.size := fun h => hq ⟨hq1, h⟩
          simp; omega
        clear hq
        go_enter Tryz.func193, Tryz.ntmps193
        go_wp2_with fail
        go_loopw [5, 6] (fun n i wr => ∃ (k v : Nat), k ≤ t.size ∧ i = .int .i64 k ∧ n = .int .i64 v ∧ Hid (v = dval (t.data.toList.take k) ∧ ∀ b ∈ t.data.toList.take k, isDig b) ∧ wr = w) (fun _ i _ => t.size - (intOf i).toNat)
        case atStart => exact ⟨0, 0, by omega, rfl, rfl, Lib.hid ⟨rfl, by simp⟩, rfl⟩
        case round =>
          obtain ⟨k, v, hk, rfl, rfl, HV, rfl⟩ := hrel
          by_cases hlt : k < t.size
          · have hkl : k < t.data.toList.length := by rw [Array.length_toList]; exact hlt
            have i0 : (0 : Int) ≤ (k : Int) := by omega
            have i1 : (k : Int) < (t.size : Int) := by omega
            by_cases hd : isDig t[k]
            · have hv : v < 100000000000000000 := by
                have h1 := dval_lt (t.data.toList.take k) 0 HV.out.2
                have h2 : 10 ^ (t.data.toList.take k).length ≤ 10 ^ 17 := Nat.pow_le_pow_right (by omega) (by rw [List.length_take]; omega)
                have h3 : v = dvalF 0 (t.data.toList.take k) := HV.out.1
                omega
              have HV2 := Lib.hid (show v * 10 + t[k].toNat - 48 = dval (t.data.toList.take (k + 1)) ∧ ∀ b ∈ t.data.toList.take (k + 1), isDig b from by
                have hg : t.data.toList[k] = t[k] := rfl
                rw [List.take_succ_eq_append_getElem hkl, dval_snoc, ← HV.out.1, hg]
                refine ⟨by have := hd.1; omega, fun b hb => ?_⟩
                rcases List.mem_append.1 hb with hb | hb
                · exact HV.out.2 b hb
                · rw [List.mem_singleton] at hb; rw [hb]; exact hd)
              obtain ⟨g1, g2⟩ := hd
              have e1 : decide ((t[k].toNat : Int) < 48) = false := by simp; omega
              have e2 : decide (57 < (t[k].toNat : Int)) = false := by simp; omega
              have w1 : IntKind.i64.wrap ((v : Int) * 10) = (v : Int) * 10 := by rw [IntKind.wrap_i64]; omega
              have w2 : IntKind.i64.wrap (t[k].toNat : Int) = (t[k].toNat : Int) := by rw [IntKind.wrap_i64]; omega
              have w3 : IntKind.i64.wrap ((v : Int) * 10 + (t[k].toNat : Int)) = (v : Int) * 10 + (t[k].toNat : Int) := by rw [IntKind.wrap_i64]; omega
              have w4 : IntKind.i64.wrap ((v : Int) * 10 + (t[k].toNat : Int) - 48) = (v : Int) * 10 + (t[k].toNat : Int) - 48 := by rw [IntKind.wrap_i64]; omega
              have Ec := Lib.hid (show (v : Int) * 10 + (t[k].toNat : Int) - 48 = ((v * 10 + t[k].toNat - 48 : Nat) : Int) by omega)
              clear HV
              go_wp2
              exact ⟨⟨k + 1, v * 10 + t[k].toNat - 48, by omega, by go_num, by rw [← Ec.out], HV2, trivial⟩, by simp [intOf]; omega⟩
            · have HN := Lib.hid (behind_dig HB.out hlt hd)
              clear HV
              by_cases hl8 : t[k].toNat < 48
              · have e1 : decide ((t[k].toNat : Int) < 48) = true := by simp; omega
                go_wp2
                exact bodyPost_ret (v := .tuple #[.int .i64 0, .bool false]) (by simp [results, Tryz.results193, go_sem]) rfl ⟨0, false, rfl, numOf_no HN.out, rfl⟩
              · have e1 : decide ((t[k].toNat : Int) < 48) = false := by simp; omega
                have e2 : decide (57 < (t[k].toNat : Int)) = true := by unfold isDig at hd; simp; omega
                go_wp2
                exact bodyPost_ret (v := .tuple #[.int .i64 0, .bool false]) (by simp [results, Tryz.results193, go_sem]) rfl ⟨0, false, rfl, numOf_no HN.out, rfl⟩
          · obtain rfl : k = t.size := by omega
            have HE := Lib.hid (show NumOf t ((v : Int)) true from by
              obtain ⟨h1, h2⟩ := HV.out
              have es : t.data.toList.take t.size = t.data.toList := List.take_of_length_le (by rw [Array.length_toList]; exact Nat.le_refl _)
              rw [es] at h1 h2
              rw [h1]
              rw [show (dval t.data.toList : Int) = 1 * (dval t.data.toList : Int) by omega]
              exact behind_end HB.out (by decide) ht18 h2)
            have hsm := HE.out.1
            unfold Small at hsm
            have wm : wrap64 ((v : Int)) = (v : Int) := by unfold wrap64; omega
            have i1 : ¬ (t.size : Int) < (t.size : Int) := by omega
            clear HV hsm
            go_wp2
            exact bodyPost_ret (v := .tuple #[.int .i64 ((v : Int)), .bool true]) (by simp [results, Tryz.results193, go_sem, wm]) rfl ⟨_, true, rfl, HE.out, rfl⟩
    · have HN := Lib.hid (behind_len HB0 (Or.inl (by omega)))
      have dg : decide (0 < (t.size : Int)) = false := by rw [decide_eq_false_iff_not]; omega
      have dz : ((t.size : Int) == 0) = true := by rw [beq_iff_eq]; omega
      clear HB0 hs
      go_enter Tryz.func193, Tryz.ntmps193
      go_wp2
      exact bodyPost_ret (v := .tuple #[.int .i64 0, .bool false]) (by simp [results, Tryz.results193, go_sem]) rfl ⟨0, false, rfl, numOf_no HN.out, rfl⟩

theorem small_fit' {m : Int} (h : Small m) : -9223372036854775808 ≤ m ∧ m ≤ 9223372036854775807 := by unfold Small at h; omega

/-- what l02Number answers -/
def Rd2End (t : ByteArray) (w : World) (e : Ending) (w' : World) : Prop := ∃ n b, e = .returned (.tuple #[.int .i64 n, .bool b]) ∧ NumRd t n b ∧ Below w.heap.size w w'

theorem l02Number_any (t : ByteArray) (w : World) (ht : t.size ≤ 1048576) : Calls Tryz.prog 148 #[.string t] w (Rd2End t w) := by
  go_enter Tryz.func148, Tryz.ntmps148
  go_wp2_with fail
  refine (l00Number_any t w ht).mono ?_
  rintro e w1 ⟨n, b, rfl, hn, rfl⟩
  have HN := Lib.hid hn; clear hn
  have hf := small_fit' HN.out.1
  cases b
  · have HR := Lib.hid (show NumRd t n false from Or.inr ⟨rfl, fun m hm e => by have := (HN.out.2 m hm e).1; cases this⟩)
    clear HN hf
    go_wp2
    exact bodyPost_ret (v := .tuple #[.int .i64 n, .bool false]) (by simp [results, Tryz.results148, go_sem]) rfl ⟨n, false, rfl, HR.out, Below.refl _ _⟩
  · go_wp2_with fail
    refine (digits_int n w hf.1 hf.2).mono ?_
    rintro e w2 ⟨rfl, hb2⟩
    by_cases he : numT n = t
    · have dn : ((numT n).toList != t.toList) = false := by rw [he]; simp
      have de : ((numT n).toList == t.toList) = true := by rw [he]; simp
      have HR := Lib.hid (show NumRd t n true from Or.inl ⟨rfl, he.symm, hf.1, hf.2⟩)
      clear HN hf he
      generalize numT n = X at *
      go_wp2
      exact bodyPost_ret (v := .tuple #[.int .i64 n, .bool true]) (by simp [results, Tryz.results148, go_sem]) rfl ⟨n, true, rfl, HR.out, hb2⟩
    · have hne : (numT n).toList ≠ t.toList := fun h => he (by
        rw [ByteArray.toList_eq, ByteArray.toList_eq] at h
        exact ByteArray.ext (Array.toList_inj.1 h))
      have dn : ((numT n).toList != t.toList) = true := by simpa using hne
      have de : ((numT n).toList == t.toList) = false := by simpa using hne
      have HR := Lib.hid (show NumRd t n false from Or.inr ⟨rfl, fun m hm e => he (by rw [(HN.out.2 m hm e).2, e])⟩)
      clear HN hf he hne
      generalize numT n = X at *
      go_wp2
      exact bodyPost_ret (v := .tuple #[.int .i64 n, .bool false]) (by simp [results, Tryz.results148, go_sem]) rfl ⟨n, false, rfl, HR.out, hb2⟩

end Go.Proofs.YtpackpocnonpiaaGreatDoor
