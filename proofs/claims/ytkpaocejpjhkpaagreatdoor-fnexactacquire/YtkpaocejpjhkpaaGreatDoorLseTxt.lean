/-
  Contracts of LeaseText of both packages. Conditions: the library's table of powers of ten is as its text lays it.
-/
import Derived.Test.YtkpaocejpjhkpaaGreatDoorSpecTxt
import Derived.Test.YtkpaocejpjhkpaaGreatDoorLse
namespace Go.Proofs.YtkpaocejpjhkpaaGreatDoor
open Go.ChangeShapes Go.WideShapes Go.ChangeAt Go.RowKit Go.Deep Go.Joins
set_option linter.unusedVariables false
set_option linter.unusedSimpArgs false

/-- the three numbers of a lease -/
def GLse.nums (a : GLse) : List Int := [a.tk, a.ow, a.un]

/-- the text of a lease, or why there is none -/
def LseTextOf (a : GLse) (s : ByteArray) (cd : Int) : Prop := (LseP a ∧ s = joinT (a.nums.map numT) ⟨#[44]⟩ ∧ cd = 0) ∨ (¬ LseP a ∧ s = ⟨#[]⟩ ∧ cd = 1)

theorem nums_at3 (w : World) (a : GLse) (t : TypeId) (j : Nat) (h : j < a.nums.length) : (w.alloc (.cells #[.int .i64 a.tk, .int .i64 a.ow, .int .i64 a.un] t)).cell? ⟨w.heap.size, 0 + j, none⟩ = some (.int .i64 a.nums[j]) := by
  match j, h with
  | 0, _ => simp [GLse.nums]
  | 1, _ => simp [GLse.nums]
  | 2, _ => simp [GLse.nums]
  | j + 3, h => simp [GLse.nums] at h; omega

theorem fit_nums3 {a : GLse} (h : a.fit) : ∀ n ∈ a.nums, I64 n := by
  obtain ⟨h0, h1, h2⟩ := h
  intro n hn
  simp [GLse.nums] at hn
  rcases hn with rfl | rfl | rfl <;> assumption

theorem numsText3_any (a : GLse) (ha : a.fit) (w : World) (ht : Pow w) : Calls Tryz.prog 69 #[.slice (some ⟨w.heap.size, 0, none⟩) 3 3] (w.alloc (.cells #[.int .i64 a.tk, .int .i64 a.ow, .int .i64 a.un] 3)) fun e w' => e = .returned (.string (joinT (a.nums.map numT) comma)) ∧ Below w.heap.size w w' :=
  (numbersText_any w.heap.size 0 3 a.nums (w.alloc (.cells #[.int .i64 a.tk, .int .i64 a.ow, .int .i64 a.un] 3)) (fun j h => nums_at3 w a _ j h) (by simp) (by simp [GLse.nums]) (fit_nums3 ha) (ht.below (bal (Below.refl _ _) _) (Nat.le_refl _))).mono fun e w' ⟨he, hb⟩ => ⟨he, (bal (Below.refl _ _) _).trans (hb.mono (by simp))⟩

theorem leaseText_any (a : GLse) (ha : a.fit) (w : World) (ht : Pow w) : Calls Tryz.prog 50 #[.agg #[.int .i64 a.tk, .int .i64 a.ow, .int .i64 a.un]] w fun e w' => ∃ s cd, e = .returned (.tuple #[.string s, .int .i64 cd]) ∧ LseTextOf a s cd ∧ Below w.heap.size w w' := by
  have Ht := Lib.hid ht; clear ht
  by_cases hp : LseP a
  · have Hp := Lib.hid hp; clear hp
    have Ha := Lib.hid ha; clear ha
    go_enter Tryz.func50, Tryz.ntmps50
    go_wp2_with fail
    refine (leaseOK_b a true (by simp [Hp.out]) _).mono ?_
    rintro e w1 ⟨rfl, hb1⟩
    have b1 : Below w.heap.size w w1 := (bal (Below.refl _ _) _).trans (hb1.mono (by simp))
    have q0 : w1.cell? ⟨w.heap.size, 0, none⟩ = some (.int .i64 a.tk) := (hb1.cell (by simp)).trans (by simp)
    have q1 : w1.cell? ⟨w.heap.size, 1, none⟩ = some (.int .i64 a.ow) := (hb1.cell (by simp)).trans (by simp)
    have q2 : w1.cell? ⟨w.heap.size, 2, none⟩ = some (.int .i64 a.un) := (hb1.cell (by simp)).trans (by simp)
    clear hb1
    go_wp2_with fail
    refine (numsText3_any a Ha.out w1 (Ht.out.below b1 (Nat.le_refl _))).mono ?_
    rintro e w2 ⟨rfl, hb2⟩
    obtain ⟨J, hJ⟩ : ∃ J, J = joinT (a.nums.map numT) comma := ⟨_, rfl⟩
    rw [← hJ]
    have HJ := Lib.hid hJ; clear hJ q0 q1 q2
    go_wp2
    refine bodyPost_ret (v := .tuple #[.string J, .int .i64 0]) (by simp [results, Tryz.results50, go_sem]) rfl ⟨J, 0, rfl, Or.inl ⟨Hp.out, HJ.out, rfl⟩, bnext b1 hb2⟩
  · have Hp := Lib.hid hp; clear hp
    go_enter Tryz.func50, Tryz.ntmps50
    go_wp2_with fail
    refine (leaseOK_b a false (by simp [Hp.out]) _).mono ?_
    rintro e w1 ⟨rfl, hb1⟩
    have b1 : Below w.heap.size w w1 := (bal (Below.refl _ _) _).trans (hb1.mono (by simp))
    clear hb1
    go_wp2
    refine bodyPost_ret (v := .tuple #[.string ⟨#[]⟩, .int .i64 1]) (by simp [results, Tryz.results50, go_sem]) rfl ⟨⟨#[]⟩, 1, rfl, Or.inr ⟨Hp.out, rfl, rfl⟩, b1⟩

set_option maxRecDepth 100000 in
theorem l05Text_any (a : GLse) (ha : a.fit) (w : World) : Calls Tryz.prog 39 #[.agg #[.int .i64 a.tk, .int .i64 a.ow, .int .i64 a.un]] w fun e w' => e = .returned (.string (joinT (a.nums.map numT) comma)) ∧ Below w.heap.size w w' := by
  obtain ⟨J, hJ⟩ : ∃ J, J = joinT (a.nums.map numT) comma := ⟨_, rfl⟩
  have key : ∀ (w : World) (n : Nat), n = w.heap.size → Calls Tryz.prog 61 #[.slice (some ⟨n, 0, none⟩) 3 3] (w.alloc (.cells #[.int .i64 a.tk, .int .i64 a.ow, .int .i64 a.un] 3)) fun e w' => e = .returned (.string J) ∧ Below w.heap.size w w' := fun w n hn => by
    rw [hJ, hn]
    exact (l02Join_any w.heap.size 0 3 a.nums (w.alloc (.cells #[.int .i64 a.tk, .int .i64 a.ow, .int .i64 a.un] 3)) (fun j h => nums_at3 w a _ j h) (by simp) (by simp [GLse.nums]) (fit_nums3 ha)).mono fun e w' ⟨he, hb⟩ => ⟨he, (bal (Below.refl _ _) _).trans (hb.mono (by simp))⟩
  rw [← hJ]
  clear hJ ha
  have Hk := Lib.hid key; clear key
  go_enter Tryz.func39, Tryz.ntmps39
  go_wp2_with fail
  refine (Hk.out (w.alloc _) _ (by simp)).mono ?_
  rintro e w2 ⟨rfl, hb2⟩
  go_wp2
  go_ret
  exact ⟨rfl, (bal (Below.refl _ _) _).trans (hb2.mono (by simp))⟩

end Go.Proofs.YtkpaocejpjhkpaaGreatDoor
