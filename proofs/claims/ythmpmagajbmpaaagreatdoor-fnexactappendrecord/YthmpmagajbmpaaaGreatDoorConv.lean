/-
  Contracts of the laws' copying helpers over stores: sz (how much room is left), to (a copy in new memory).
-/
import Derived.Test.YthmpmagajbmpaaaGreatDoorHeld
namespace Go.Proofs.YthmpmagajbmpaaaGreatDoor
open Go.ChangeShapes Go.WideShapes Go.ChangeAt Go.RowKit
set_option linter.unusedVariables false

def GObj.small (o : GObj) : Prop := o.key.size ≤ 1048576 ∧ o.data.size ≤ 1048576

def GObj.fits (o : GObj) : Prop := o.key.size ≤ maxLen ∧ o.data.size ≤ maxLen

/-- a number is answered that, if it is not below 0, is at most what it was and says P; nothing old has turned -/
def Left (P : Prop) (left : Int) (w : World) (e : Ending) (w' : World) : Prop := ∃ v : Int, (0 ≤ v → P ∧ v ≤ left) ∧ -1 ≤ v ∧ v ≤ 1048576 ∧ e = .returned (.int .i64 v) ∧ Below w.heap.size w w'

theorem szObject_any (o : GObj) (left : Int) (w : World) (ho : o.fits) (h0 : 0 ≤ left) (h1 : left ≤ 1048576) :
    Calls Tryz.prog 81 #[.agg #[.string o.key, .int .i64 o.ver, .string o.data], .int .i64 left] w (Left o.small left w) := by
  obtain ⟨ok, od⟩ := ho
  unfold maxLen at ok od
  by_cases c1 : left - (o.key.size : Int) < 0
  · have d1 : decide (left - (o.key.size : Int) < 0) = true := by simpa using c1
    go_enter Tryz.func81, Tryz.ntmps81
    go_wp2
    go_ret
    exact ⟨-1, fun h => by omega, by omega, by omega, rfl, (Below.refl _ _).alloc (Nat.le_refl _) _⟩
  · have d1 : decide (left - (o.key.size : Int) < 0) = false := by simpa using c1
    by_cases c2 : left - (o.key.size : Int) - (o.data.size : Int) < 0
    · have d2 : decide (left - (o.key.size : Int) - (o.data.size : Int) < 0) = true := by simpa using c2
      go_enter Tryz.func81, Tryz.ntmps81
      go_wp2
      go_ret
      exact ⟨-1, fun h => by omega, by omega, by omega, rfl, (Below.refl _ _).alloc (Nat.le_refl _) _⟩
    · have d2 : decide (left - (o.key.size : Int) - (o.data.size : Int) < 0) = false := by simpa using c2
      go_enter Tryz.func81, Tryz.ntmps81
      go_wp2
      go_ret
      exact ⟨_, fun h => ⟨⟨by omega, by omega⟩, by omega⟩, by omega, by omega, rfl, (Below.refl _ _).alloc (Nat.le_refl _) _⟩

theorem szObjectS_any (A : Option Addr) (c : Nat) (xs : List GObj) (left : Int) (B : Nat) (w : World) (h : ObjsAt w B A xs) (hB : B ≤ w.heap.size) (hf : ∀ o ∈ xs, o.fits) (hl : xs.length ≤ maxLen) (h0 : 0 ≤ left) (h1 : left ≤ 1048576) :
    Calls Tryz.prog 46 #[.slice A xs.length c, .int .i64 left] w (Left (xs.length ≤ 1048576 ∧ ∀ o ∈ xs, o.small) left w) := by
  unfold maxLen at hl
  have H := Lib.hid h; clear h
  have Hf := Lib.hid hf; clear hf
  by_cases c1 : left - (xs.length : Int) < 0
  · have d1 : decide (left - (xs.length : Int) < 0) = true := by simpa using c1
    go_enter Tryz.func46, Tryz.ntmps46
    go_wp2
    go_ret
    exact ⟨-1, fun h => by omega, by omega, by omega, rfl, Below.refl _ _⟩
  · have d1 : decide (left - (xs.length : Int) < 0) = false := by simpa using c1
    go_enter Tryz.func46, Tryz.ntmps46
    go_wp2_with fail
    go_loopw [1, 5] (fun t i wr => ∃ (j : Nat) (v : Int), j ≤ xs.length ∧ i = .int .i64 j ∧ t = .int .i64 v ∧ 0 ≤ v ∧ v ≤ left ∧ Hid (∀ o ∈ xs.take j, o.small) ∧ Below w.heap.size w wr) (fun _ i _ => xs.length - (intOf i).toNat)
    case atStart => exact ⟨0, _, by omega, rfl, rfl, by omega, by omega, Lib.hid (by simp), Below.refl _ _⟩
    case round =>
      obtain ⟨j, v, hj, rfl, rfl, hv0, hv1, Hs, hb⟩ := hrel
      by_cases hlt : j < xs.length
      · obtain ⟨b, off, rfl, hbB, p0, p1, p2⟩ := ObjsAt.obj (Sl.below H.out hb hB) hlt
        have hfit : xs[j].fits := Hf.out _ (List.getElem_mem hlt)
        have Hfit := Lib.hid hfit; clear hfit
        go_wp2_with fail
        refine (szObject_any xs[j] v wr Hfit.out hv0 (by omega)).mono ?_
        rintro e w1 ⟨u, hu, hu1, hu2, rfl, hb1⟩
        have hb2 : Below w.heap.size w w1 := hb.trans (hb1.mono hb.size)
        have Hu := Lib.hid hu; clear hu p0 p1 p2
        by_cases c2 : u < 0
        · have d2 : decide (u < 0) = true := by simpa using c2
          go_wp2
          go_ret
          exact ⟨-1, fun h => by omega, by omega, by omega, rfl, hb2⟩
        · have d2 : decide (u < 0) = false := by simpa using c2
          obtain ⟨hsm, hle⟩ := Hu.out (by omega)
          have hn : ∀ o ∈ xs.take (j + 1), o.small := by
            rw [List.take_succ_eq_append_getElem hlt]
            intro o ho
            rcases List.mem_append.1 ho with ho | ho
            · exact Hs.out o ho
            · simp at ho; subst ho; exact hsm
          have Hn := Lib.hid hn; clear hn hsm
          go_wp2
          go_roundw
          case rel => exact ⟨j + 1, u, by omega, by go_num, rfl, by omega, by omega, Hn, hb2⟩
          case measure => simp [intOf]; omega
      · have hn : ∀ o ∈ xs, o.small := by have := Hs.out; rwa [List.take_of_length_le (by omega)] at this
        have Hn := Lib.hid hn; clear hn
        go_wp2
        go_ret
        exact ⟨v, fun h => ⟨⟨by omega, Hn.out⟩, by omega⟩, by omega, by omega, rfl, hb⟩

theorem szStore_any (A : Option Addr) (c : Nat) (next : Int) (xs : List GObj) (left : Int) (B : Nat) (w : World) (h : ObjsAt w B A xs) (hB : B ≤ w.heap.size) (hf : ∀ o ∈ xs, o.fits) (hl : xs.length ≤ maxLen) (h0 : 0 ≤ left) (h1 : left ≤ 1048576) :
    Calls Tryz.prog 15 #[.agg #[.slice A xs.length c, .int .i64 next], .int .i64 left] w (Left (xs.length ≤ 1048576 ∧ ∀ o ∈ xs, o.small) left w) := by
  have H := Lib.hid h; clear h
  have Hf := Lib.hid hf; clear hf
  go_enter Tryz.func15, Tryz.ntmps15
  go_wp2_with fail
  refine (szObjectS_any A c xs left B _ (Sl.below H.out ((Below.refl _ _).alloc (by exact Nat.le_refl _) _) hB) (by simp; omega) Hf.out hl h0 h1).mono ?_
  rintro e w1 ⟨u, hu, hu1, hu2, rfl, hb1⟩
  have hb2 : Below w.heap.size w w1 := ((Below.refl _ _).alloc (Nat.le_refl _) _).trans (hb1.mono (by simp))
  have Hu := Lib.hid hu; clear hu hb1
  by_cases c2 : u < 0
  · have d2 : decide (u < 0) = true := by simpa using c2
    go_wp2
    go_ret
    exact ⟨-1, fun h => by omega, by omega, by omega, rfl, hb2⟩
  · have d2 : decide (u < 0) = false := by simpa using c2
    go_wp2
    go_ret
    exact ⟨u, Hu.out, hu1, hu2, rfl, hb2⟩

end Go.Proofs.YthmpmagajbmpaaaGreatDoor
