/-
  Contracts of the model's l01Room, l01Set, l01Absent, PutAbsent.
-/
import Derived.Test.YtpgilbmajbpdkaaImplPut
namespace Go.Proofs.Ytpgilbmajbpdkaa
open Go.ChangeShapes Go.WideShapes Go.ChangeAt Go.RowKit Go.Maps
set_option linter.unusedVariables false

/-- what l01Room answers -/
def RoomP (xs : List GObj) (next : Int) (key data : ByteArray) (code : Int) : Prop :=
  (600 < data.size ∧ code = 8) ∨ (¬ 600 < data.size ∧ ((look xs key = none ∧ 300 ≤ xs.length) ∨ 1000000000 ≤ next) ∧ code = 7) ∨ (¬ 600 < data.size ∧ ¬ ((look xs key = none ∧ 300 ≤ xs.length) ∨ 1000000000 ≤ next) ∧ code = 0)

set_option maxRecDepth 100000 in
theorem specRoom_any (A : Option Addr) (c : Nat) (next : Int) (xs : List GObj) (key data : ByteArray) (B : Nat) (w : World) (h : ObjsAt w B A xs) (hB : B ≤ w.heap.size) (hl : xs.length ≤ 300) (hn : next ≤ 1000000000) (hd : data.size ≤ maxLen) :
    Calls Try.prog 76 #[.agg #[.slice A xs.length c, .int .i64 next], .string key, .string data] w fun e w' => ∃ code, RoomP xs next key data code ∧ e = .returned (.int .i64 code) ∧ Below w.heap.size w w' := by
  have H := Lib.hid h; clear h
  unfold maxLen at hd
  by_cases l1 : 600 < data.size
  · have d1 : decide (600 < (data.size : Int)) = true := by simp; omega
    have hp : RoomP xs next key data 8 := .inl ⟨l1, rfl⟩
    have HP := Lib.hid hp; clear hp
    go_enter Try.func76, Try.ntmps76
    go_wp2
    go_ret
    exact ⟨8, HP.out, rfl, bal (Below.refl _ _) _⟩
  have d1 : decide (600 < (data.size : Int)) = false := by simp; omega
  go_enter Try.func76, Try.ntmps76
  go_wp2_with fail
  obtain ⟨W, hW⟩ : ∃ W, W = w.alloc (.cells #[.slice A xs.length c, .int .i64 next] 25) := ⟨_, rfl⟩
  have t1 : Two W w.heap.size (.slice A xs.length c) (.int .i64 next) := by rw [hW]; exact Two.new _ _ _ _
  have b0 : Below w.heap.size w W := by rw [hW]; exact bal (Below.refl _ _) _
  have s0 : w.heap.size < W.heap.size := by rw [hW]; simp
  rw [← hW]
  clear hW
  refine (find_any A c next xs key B W (Sl.below H.out b0 hB) (by omega) (by omega)).mono ?_
  rintro e w1 ⟨v, hv, rfl, hb1⟩
  have b1 := bnext b0 hb1
  obtain ⟨t10, t11⟩ := t1.below hb1 s0
  clear hb1 b0 t1
  have L1 := Lib.hid l1; clear l1
  by_cases hnx : 1000000000 ≤ next
  · have hp : RoomP xs next key data 7 := .inr (.inl ⟨L1.out, .inr hnx, rfl⟩)
    have HP := Lib.hid hp; clear hp
    have d3 : (next == 1000000000) = true := by simp; omega
    rcases look_of_find hv with ⟨hneg, hlo⟩ | ⟨i, hi, rfl, hlo⟩
    · have d2 : decide (v < 0) = true := by simpa using hneg
      by_cases hl3 : xs.length = 300
      · have d4 : ((xs.length : Int) == 300) = true := by simp; omega
        clear hv hlo
        go_wp2
        go_ret
        exact ⟨7, HP.out, rfl, b1⟩
      · have d4 : ((xs.length : Int) == 300) = false := by simp; omega
        clear hv hlo
        go_wp2
        go_ret
        exact ⟨7, HP.out, rfl, b1⟩
    · have d2 : decide ((i : Int) < 0) = false := by simp
      clear hv hlo
      go_wp2
      go_ret
      exact ⟨7, HP.out, rfl, b1⟩
  · have d3 : (next == 1000000000) = false := by simp; omega
    rcases look_of_find hv with ⟨hneg, hlo⟩ | ⟨i, hi, rfl, hlo⟩
    · have d2 : decide (v < 0) = true := by simpa using hneg
      by_cases hl3 : xs.length = 300
      · have d4 : ((xs.length : Int) == 300) = true := by simp; omega
        have hp : RoomP xs next key data 7 := .inr (.inl ⟨L1.out, .inl ⟨hlo, by omega⟩, rfl⟩)
        have HP := Lib.hid hp; clear hp
        clear hv hlo
        go_wp2
        go_ret
        exact ⟨7, HP.out, rfl, b1⟩
      · have d4 : ((xs.length : Int) == 300) = false := by simp; omega
        have hp : RoomP xs next key data 0 := .inr (.inr ⟨L1.out, (fun h => h.elim (fun h => by have := h.2; omega) hnx), rfl⟩)
        have HP := Lib.hid hp; clear hp
        clear hv hlo
        go_wp2
        go_ret
        exact ⟨0, HP.out, rfl, b1⟩
    · have d2 : decide ((i : Int) < 0) = false := by simp
      have hp : RoomP xs next key data 0 := .inr (.inr ⟨L1.out, (fun h => h.elim (fun h => by rw [hlo] at h; cases h.1) hnx), rfl⟩)
      have HP := Lib.hid hp; clear hp
      clear hv hlo
      go_wp2
      go_ret
      exact ⟨0, HP.out, rfl, b1⟩

end Go.Proofs.Ytpgilbmajbpdkaa
