/-
  Contracts of what reads a number: the program's readNumber (over the library's Atoi, Itoa, TrimPrefix) and the model's l00Number, l02Number: just a number's text is read, at least those of 18 digits. Conditions: the library's table of powers of ten is as its text lays it, its two errors' variables hold errors; a text's length.
-/
import Derived.Test.YtjmfffmjfbpgjaaGreatDoorDv
import Derived.Test.YtjmfffmjfbpgjaaGreatDoorTxt
import Derived.Outline
namespace Go.Proofs.YtjmfffmjfbpgjaaGreatDoor
open Go.ChangeShapes Go.WideShapes Go.ChangeAt Go.RowKit
set_option linter.unusedVariables false
set_option linter.unusedSimpArgs false

/-- the library's errors stand in their variables -/
def Errs (w : World) : Prop := (∃ ev, w.cell? ⟨4, 0, none⟩ = some ev ∧ (ev = .nilIface ∨ ∃ te pe, ev = .iface te pe)) ∧ (∃ ev, w.cell? ⟨5, 0, none⟩ = some ev ∧ (ev = .nilIface ∨ ∃ te pe, ev = .iface te pe))

theorem Errs.below {w w' : World} {B : Nat} (h : Errs w) (hb : Below B w w') (hB : w.heap.size ≤ B) : Errs w' := by
  obtain ⟨⟨e1, h1, k1⟩, ⟨e2, h2, k2⟩⟩ := h
  have l1 := World.block_lt_of_cell? w _ h1
  have l2 := World.block_lt_of_cell? w _ h2
  exact ⟨⟨e1, (hb.cell (Nat.lt_of_lt_of_le l1 hB)).trans h1, k1⟩, ⟨e2, (hb.cell (Nat.lt_of_lt_of_le l2 hB)).trans h2, k2⟩⟩

theorem bytes_below (w : World) (e : TypeId) (s : ByteArray) : Below w.heap.size w (Lib.bytesWorld w e s) :=
  ⟨rfl, rfl, rfl, by simp [Lib.bytesWorld, World.freeze], fun i hi => Lib.bytesWorld_at_old w e s i hi⟩

/-- how Atoi ends -/
def AtoiEnd (t : ByteArray) (w : World) (e : Ending) (w' : World) : Prop := Below w.heap.size w w' ∧ ((∃ v, Lib.atoiAll t.data.toList = .ok v ∧ e = .returned (.tuple #[.int .i64 v, .nilIface])) ∨ (∃ v N, (∀ u, Lib.atoiAll t.data.toList ≠ .ok u) ∧ e = .returned (.tuple #[.int .i64 v, .iface 286 (.pointer (some ⟨N, 0, none⟩))])))

theorem atoi_any (t : ByteArray) (w : World) (ht : t.size ≤ 1048576) (hE : Errs w) : Calls Tryz.prog 178 #[.string t] w (AtoiEnd t w) := by
  cases h : Lib.atoiAll t.data.toList with
  | ok v =>
    refine (sh_strconv_Atoi_ok t (by omega) v h w).mono ?_
    rintro e w' ⟨rfl, hw⟩
    refine ⟨?_, Or.inl ⟨v, h, rfl⟩⟩
    rcases hw with rfl | ⟨s, rfl⟩
    · exact Below.refl _ _
    · exact bytes_below _ _ _
  | «syntax» =>
    obtain ⟨ev, h1, h2⟩ := hE.1
    refine (sh_strconv_Atoi_syntax t (by omega) h ev w h1 h2).mono ?_
    rintro e w' ⟨N, rfl, _, _, hb⟩
    exact ⟨hb, Or.inr ⟨_, N, fun u hu => (by rw [h] at hu; cases hu), rfl⟩⟩
  | range =>
    obtain ⟨ev, h1, h2⟩ := hE.2
    refine (sh_strconv_Atoi_range t (by omega) h ev w h1 h2).mono ?_
    rintro e w' ⟨N, rfl, _, _, hb⟩
    exact ⟨hb, Or.inr ⟨_, N, fun u hu => (by rw [h] at hu; cases hu), rfl⟩⟩

theorem small_fit {m : Int} (h : Small m) : -9223372036854775808 ≤ m ∧ m ≤ 9223372036854775807 := by unfold Small at h; omega

/-- what readNumber answers -/
def RdEnd (t : ByteArray) (w : World) (e : Ending) (w' : World) : Prop := ∃ n b, e = .returned (.tuple #[.int .i64 n, .bool b]) ∧ NumRd t n b ∧ (b = false → n = 0) ∧ Below w.heap.size w w'

set_option maxRecDepth 100000 in
theorem readNumber_any (t : ByteArray) (w : World) (ht : t.size ≤ 1048576) (hE : Errs w) (hP : Pow w) : Calls Tryz.prog 133 #[.string t] w (RdEnd t w) := by
  have HE := Lib.hid hE; clear hE
  have HP := Lib.hid hP; clear hP
  go_enter Tryz.func133, Tryz.ntmps133
  go_wp2_with fail
  refine (atoi_any t w ht HE.out).mono ?_
  rintro e w1 ⟨hb1, ⟨v, hv, rfl⟩ | ⟨v, N, hno, rfl⟩⟩
  · have hf := atoi_fit hv
    have HV := Lib.hid hv; clear hv
    go_wp2_with fail
    refine (itoa_any v w1 hf.1 hf.2 (HP.out.below hb1 (Nat.le_refl _))).mono ?_
    rintro e w2 ⟨rfl, hb2⟩
    have b2 := bnext hb1 hb2
    by_cases he : numT v = t
    · have dn : ((numT v).toList != t.toList) = false := by rw [he]; simp
      have de : ((numT v).toList == t.toList) = true := by rw [he]; simp
      have HT := Lib.hid (show t = numT v from he.symm)
      have Hf := Lib.hid hf
      have HS := Lib.hid (show ∀ m, Small m → t = numT m → (Lib.trimPrefix t.data.toList [45]).length ≤ 18 from fun m hm e => by rw [e]; exact trim_len hm)
      clear hb1 hb2 he hf HV
      obtain ⟨X, hX⟩ : ∃ X, X = numT v := ⟨_, rfl⟩
      rw [← hX] at dn de ⊢
      clear hX
      go_wp2_with fail
      refine (sh_strings_TrimPrefix t ⟨#[45]⟩ w2).mono ?_
      rintro e w3 ⟨rfl, rfl⟩
      obtain ⟨Z, hZ⟩ : ∃ Z : ByteArray, Z = ⟨(Lib.trimPrefix t.data.toList [45]).toArray⟩ := ⟨_, rfl⟩
      rw [show (⟨(Lib.trimPrefix t.data.toList (⟨#[45]⟩ : ByteArray).data.toList).toArray⟩ : ByteArray) = Z from hZ.symm]
      have hzs : Z.size = (Lib.trimPrefix t.data.toList [45]).length := by rw [hZ]; simp [ByteArray.size]
      have hzl : Z.size ≤ 1048576 := by
        rw [hzs]
        have e1 : t.data.toList.length = t.size := by rw [Array.length_toList]; rfl
        unfold Lib.trimPrefix
        split
        · rw [List.length_drop]; omega
        · omega
      clear hZ
      cases hl : decide (18 < (Z.size : Int))
      · clear HS hzs
        go_wp2
        exact bodyPost_ret (v := .tuple #[.int .i64 v, .bool true]) (by simp [results, Tryz.results133, go_sem]) rfl ⟨v, true, rfl, Or.inl ⟨rfl, HT.out, Hf.out.1, Hf.out.2⟩, fun h => (by cases h), b2⟩
      · have HN := Lib.hid (show ∀ m, Small m → t ≠ numT m from fun m hm e => by
          have := HS.out m hm e
          simp at hl
          omega)
        clear HS hzs
        go_wp2
        exact bodyPost_ret (v := .tuple #[.int .i64 0, .bool false]) (by simp [results, Tryz.results133, go_sem]) rfl ⟨0, false, rfl, Or.inr ⟨rfl, HN.out⟩, fun _ => rfl, b2⟩
    · have hne : (numT v).toList ≠ t.toList := fun h => he (by
        rw [ByteArray.toList_eq, ByteArray.toList_eq] at h
        exact ByteArray.ext (Array.toList_inj.1 h))
      have dn : ((numT v).toList != t.toList) = true := by simpa using hne
      have de : ((numT v).toList == t.toList) = false := by simpa using hne
      have HN := Lib.hid (show ∀ m, Small m → t ≠ numT m from fun m hm e => by
        have := HV.out
        rw [e, atoi_num (small_fit hm).1 (small_fit hm).2] at this
        injection this with this
        exact he (by rw [e, this]))
      clear hb1 hb2 he hf HV hne
      generalize numT v = X at *
      go_wp2
      exact bodyPost_ret (v := .tuple #[.int .i64 0, .bool false]) (by simp [results, Tryz.results133, go_sem]) rfl ⟨0, false, rfl, Or.inr ⟨rfl, HN.out⟩, fun _ => rfl, b2⟩
  · have HN := Lib.hid (show ∀ m, Small m → t ≠ numT m from fun m hm e => hno m (by rw [e]; exact atoi_num (small_fit hm).1 (small_fit hm).2))
    clear hno
    go_wp2
    exact bodyPost_ret (v := .tuple #[.int .i64 0, .bool false]) (by simp [results, Tryz.results133, go_sem]) rfl ⟨0, false, rfl, Or.inr ⟨rfl, HN.out⟩, fun _ => rfl, hb1⟩

end Go.Proofs.YtjmfffmjfbpgjaaGreatDoor
