/-
  Contracts of CodeOf of both packages, over the table of words that the program's text lays.
-/
import Derived.Test.YtpgilbmajbpdkaaDoorTab
import Derived.Laws.Rows
namespace Go.Proofs.YtpgilbmajbpdkaaDoor
open Go.ChangeShapes Go.WideShapes Go.ChangeAt Go.RowKit
set_option linter.unusedVariables false

/-- the table's cells -/
def wcs : Array Value := (wl.map fun z => Value.string ⟨z.toArray⟩).toArray
/-- the table's block is just these cells -/
def TblRow (w : World) : Prop := ∃ t fr, w.heap[0]? = some (.cells wcs t fr)

theorem idx0 (w : World) : (Instr.index 27 (.agg wcs) (.int .i64 ((0 : Nat) : Int))).run Tryd.prog w = .ok (.string (wd 0)) w := by kernel_rfl
theorem idx1 (w : World) : (Instr.index 27 (.agg wcs) (.int .i64 ((1 : Nat) : Int))).run Tryd.prog w = .ok (.string (wd 1)) w := by kernel_rfl
theorem idx2 (w : World) : (Instr.index 27 (.agg wcs) (.int .i64 ((2 : Nat) : Int))).run Tryd.prog w = .ok (.string (wd 2)) w := by kernel_rfl
theorem idx3 (w : World) : (Instr.index 27 (.agg wcs) (.int .i64 ((3 : Nat) : Int))).run Tryd.prog w = .ok (.string (wd 3)) w := by kernel_rfl
theorem idx4 (w : World) : (Instr.index 27 (.agg wcs) (.int .i64 ((4 : Nat) : Int))).run Tryd.prog w = .ok (.string (wd 4)) w := by kernel_rfl
theorem idx5 (w : World) : (Instr.index 27 (.agg wcs) (.int .i64 ((5 : Nat) : Int))).run Tryd.prog w = .ok (.string (wd 5)) w := by kernel_rfl
theorem idx6 (w : World) : (Instr.index 27 (.agg wcs) (.int .i64 ((6 : Nat) : Int))).run Tryd.prog w = .ok (.string (wd 6)) w := by kernel_rfl
theorem idx7 (w : World) : (Instr.index 27 (.agg wcs) (.int .i64 ((7 : Nat) : Int))).run Tryd.prog w = .ok (.string (wd 7)) w := by kernel_rfl
theorem idx8 (w : World) : (Instr.index 27 (.agg wcs) (.int .i64 ((8 : Nat) : Int))).run Tryd.prog w = .ok (.string (wd 8)) w := by kernel_rfl
theorem idx9 (w : World) : (Instr.index 27 (.agg wcs) (.int .i64 ((9 : Nat) : Int))).run Tryd.prog w = .ok (.string (wd 9)) w := by kernel_rfl
theorem idx10 (w : World) : (Instr.index 27 (.agg wcs) (.int .i64 ((10 : Nat) : Int))).run Tryd.prog w = .ok (.string (wd 10)) w := by kernel_rfl
theorem idx11 (w : World) : (Instr.index 27 (.agg wcs) (.int .i64 ((11 : Nat) : Int))).run Tryd.prog w = .ok (.string (wd 11)) w := by kernel_rfl
theorem idx12 (w : World) : (Instr.index 27 (.agg wcs) (.int .i64 ((12 : Nat) : Int))).run Tryd.prog w = .ok (.string (wd 12)) w := by kernel_rfl
theorem idx13 (w : World) : (Instr.index 27 (.agg wcs) (.int .i64 ((13 : Nat) : Int))).run Tryd.prog w = .ok (.string (wd 13)) w := by kernel_rfl
theorem idx14 (w : World) : (Instr.index 27 (.agg wcs) (.int .i64 ((14 : Nat) : Int))).run Tryd.prog w = .ok (.string (wd 14)) w := by kernel_rfl
theorem idx15 (w : World) : (Instr.index 27 (.agg wcs) (.int .i64 ((15 : Nat) : Int))).run Tryd.prog w = .ok (.string (wd 15)) w := by kernel_rfl
theorem idx16 (w : World) : (Instr.index 27 (.agg wcs) (.int .i64 ((16 : Nat) : Int))).run Tryd.prog w = .ok (.string (wd 16)) w := by kernel_rfl
theorem idx17 (w : World) : (Instr.index 27 (.agg wcs) (.int .i64 ((17 : Nat) : Int))).run Tryd.prog w = .ok (.string (wd 17)) w := by kernel_rfl
theorem idx18 (w : World) : (Instr.index 27 (.agg wcs) (.int .i64 ((18 : Nat) : Int))).run Tryd.prog w = .ok (.string (wd 18)) w := by kernel_rfl
theorem idx19 (w : World) : (Instr.index 27 (.agg wcs) (.int .i64 ((19 : Nat) : Int))).run Tryd.prog w = .ok (.string (wd 19)) w := by kernel_rfl
theorem idx (k : Nat) (hk : k < 20) (w : World) : (Instr.index 27 (.agg wcs) (.int .i64 (k : Int))).run Tryd.prog w = .ok (.string (wd k)) w := by
  have hc : k = 0 ∨ k = 1 ∨ k = 2 ∨ k = 3 ∨ k = 4 ∨ k = 5 ∨ k = 6 ∨ k = 7 ∨ k = 8 ∨ k = 9 ∨ k = 10 ∨ k = 11 ∨ k = 12 ∨ k = 13 ∨ k = 14 ∨ k = 15 ∨ k = 16 ∨ k = 17 ∨ k = 18 ∨ k = 19 := by omega
  rcases hc with rfl | rfl | rfl | rfl | rfl | rfl | rfl | rfl | rfl | rfl | rfl | rfl | rfl | rfl | rfl | rfl | rfl | rfl | rfl | rfl
  · exact idx0 w
  · exact idx1 w
  · exact idx2 w
  · exact idx3 w
  · exact idx4 w
  · exact idx5 w
  · exact idx6 w
  · exact idx7 w
  · exact idx8 w
  · exact idx9 w
  · exact idx10 w
  · exact idx11 w
  · exact idx12 w
  · exact idx13 w
  · exact idx14 w
  · exact idx15 w
  · exact idx16 w
  · exact idx17 w
  · exact idx18 w
  · exact idx19 w

theorem tableRow {W : World} (h : laidMetH Tryd.prog Rows.fnExactCodeOfRow.laid W) : TblRow W := tableRow0 h

theorem sizeTab : (Tryd.prog.info? 27).map (·.size) = some wcs.size := by kernel_rfl

/-- the code of a text -/
def CodeP (s : ByteArray) (v : Int) : Prop := (∃ k : Nat, k < 20 ∧ v = (k : Int) ∧ wd k = s ∧ ∀ j, j < k → wd j ≠ s) ∨ (v = -1 ∧ ∀ j, j < 20 → wd j ≠ s)

theorem CodeP.one {s : ByteArray} {u v : Int} (h : CodeP s u) (k : CodeP s v) : u = v := by
  rcases h with ⟨a, ha, rfl, ea, na⟩ | ⟨rfl, na⟩
  · rcases k with ⟨b, hb, rfl, eb, nb⟩ | ⟨rfl, nb⟩
    · by_cases h1 : a < b
      · exact absurd ea (nb a h1)
      · by_cases h2 : b < a
        · exact absurd eb (na b h2)
        · have : a = b := by omega
          rw [this]
    · exact absurd ea (nb a ha)
  · rcases k with ⟨b, hb, rfl, eb, nb⟩ | ⟨rfl, nb⟩
    · exact absurd eb (na b hb)
    · rfl

/-- a number is answered that is the text's code; nothing old has turned -/
def IsCode (s : ByteArray) (w : World) (e : Ending) (w' : World) : Prop := ∃ v : Int, CodeP s v ∧ e = .returned (.int .i64 v) ∧ Below w.heap.size w w'

theorem ne_list {a b : ByteArray} (h : a ≠ b) : (a.toList == b.toList) = false := by
  rw [beq_eq_false_iff_ne]
  intro e
  rw [ByteArray.toList_eq, ByteArray.toList_eq] at e
  exact h (bytes_inj e)

set_option maxRecDepth 100000 in
theorem codeOf_any (s : ByteArray) (w : World) (ht : TblRow w) : Calls Tryd.prog 8 #[.string s] w (IsCode s w) := by
  obtain ⟨tt, fr, hg⟩ := ht
  have Hg := Lib.hid hg; clear hg
  go_enter Tryd.func8, Tryd.ntmps8
  go_wp2_with (refine wpList_load_row rfl 27 _ rfl 0 rfl tt wcs fr _ Hg.out Tryd.underlying27 rfl sizeTab ?_)
  go_loop [6] (fun i => ∃ k : Nat, k ≤ 20 ∧ i = .int .i64 k ∧ Hid (∀ j, j < k → wd j ≠ s)) (fun i => 20 - (intOf i).toNat)
  case atStart => exact ⟨0, by omega, rfl, Lib.hid (fun j h => by omega)⟩
  case round =>
    obtain ⟨k, hk, rfl, H⟩ := hrel
    by_cases hlt : k < 20
    · have hi := idx k hlt
      by_cases he : wd k = s
      · have hcode : CodeP s (k : Int) := .inl ⟨k, hlt, rfl, he, H.out⟩
        have Hc := Lib.hid hcode; clear hcode
        have hd : ((wd k).toList == s.toList) = true := by rw [he]; simp
        clear he
        go_wp2
        go_ret
        exact ⟨k, Hc.out, rfl, Below.refl _ _⟩
      · have hd := ne_list he
        have hn : ∀ j, j < k + 1 → wd j ≠ s := fun j hj => by
          by_cases e : j = k
          · subst e; exact he
          · exact H.out j (by omega)
        have Hn := Lib.hid hn; clear hn he
        go_wp2
        go_round
        case rel => exact ⟨k + 1, by omega, by go_num, Hn⟩
        case measure => simp [intOf]; omega
    · obtain rfl : k = 20 := by omega
      have hcode : CodeP s (-1) := .inr ⟨rfl, H.out⟩
      have Hc := Lib.hid hcode; clear hcode
      go_wp2
      go_ret
      exact ⟨-1, Hc.out, rfl, Below.refl _ _⟩

theorem specCodeOf_any (s : ByteArray) (w : World) : Calls Tryd.prog 7 #[.string s] w (IsCode s w) := by
  go_enter Tryd.func7, Tryd.ntmps7
  go_wp2_with fail
  go_loopw [3] (fun i wr => ∃ k : Nat, k ≤ 20 ∧ i = .int .i64 k ∧ Hid (∀ j, j < k → wd j ≠ s) ∧ Below w.heap.size w wr) (fun i _ => 20 - (intOf i).toNat)
  case atStart => exact ⟨0, by omega, rfl, Lib.hid (fun j h => by omega), Below.refl _ _⟩
  case round =>
    obtain ⟨k, hk, rfl, H, hb⟩ := hrel
    by_cases hlt : k < 20
    · go_wp2_with fail
      refine (specWord_in k hlt wr).mono ?_
      rintro e w1 ⟨rfl, hb1⟩
      have hb2 : Below w.heap.size w w1 := hb.trans (hb1.mono hb.size)
      clear hb1
      by_cases he : wd k = s
      · have hcode : CodeP s (k : Int) := .inl ⟨k, hlt, rfl, he, H.out⟩
        have Hc := Lib.hid hcode; clear hcode
        have hd : ((wd k).toList == s.toList) = true := by rw [he]; simp
        clear he
        go_wp2
        go_ret
        exact ⟨k, Hc.out, rfl, hb2⟩
      · have hd := ne_list he
        have hn : ∀ j, j < k + 1 → wd j ≠ s := fun j hj => by
          by_cases e : j = k
          · subst e; exact he
          · exact H.out j (by omega)
        have Hn := Lib.hid hn; clear hn he
        go_wp2
        go_roundw
        case rel => exact ⟨k + 1, by omega, by go_num, Hn, hb2⟩
        case measure => simp [intOf]; omega
    · obtain rfl : k = 20 := by omega
      have hcode : CodeP s (-1) := .inr ⟨rfl, H.out⟩
      have Hc := Lib.hid hcode; clear hcode
      go_wp2
      go_ret
      exact ⟨-1, Hc.out, rfl, hb⟩

theorem lawOf (s : ByteArray) (w : World) (ht : TblRow w) (h0 : 0 < w.heap.size) (hs : s.size ≤ maxLen) : Calls Tryd.prog 4 #[.string s] w fun e w' => e = .returned (.bool true) ∧ Below w.heap.size w w' := by
  unfold maxLen at hs
  have Ht := Lib.hid ht; clear ht
  by_cases hlen : 1048576 < s.size
  · have hd : decide (1048576 < (s.size : Int)) = true := by simp; omega
    go_enter Tryd.func4, Tryd.ntmps4
    go_wp2
    go_ret
    exact ⟨rfl, Below.refl _ _⟩
  · have hd : decide (1048576 < (s.size : Int)) = false := by simp; omega
    go_enter Tryd.func4, Tryd.ntmps4
    go_wp2_with fail
    refine (specCodeOf_any s w).mono ?_
    rintro e w1 ⟨v, hv, rfl, hb1⟩
    have Hv := Lib.hid hv; clear hv
    have ht1 : TblRow w1 := by obtain ⟨tt, fr, hg⟩ := Ht.out; exact ⟨tt, fr, (hb1.block 0 h0).trans hg⟩
    have Ht1 := Lib.hid ht1; clear ht1
    go_wp2_with fail
    refine (codeOf_any s w1 Ht1.out).mono ?_
    rintro e w2 ⟨u, hu, rfl, hb2⟩
    obtain rfl : u = v := hu.one Hv.out
    have hb3 : Below w.heap.size w w2 := hb1.trans (hb2.mono hb1.size)
    clear hu hb2 hb1 Hv
    go_wp2
    go_ret
    exact ⟨rfl, hb3⟩
end Go.Proofs.YtpgilbmajbpdkaaDoor
