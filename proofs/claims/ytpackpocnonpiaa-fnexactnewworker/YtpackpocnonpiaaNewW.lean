/-
  Contracts of NewWorker of both packages: one that is idle, or nothing with a code. No conditions.
-/
import Derived.Test.YtpackpocnonpiaaWrk
namespace Go.Proofs.Ytpackpocnonpiaa
open Go.ChangeShapes Go.WideShapes Go.ChangeAt Go.RowKit Go.Deep Go.Joins
set_option linter.unusedVariables false
set_option linter.unusedSimpArgs false

theorem isIdW_any (n : Int) (w : World) : Calls Try.prog 15 #[.int .i64 n] w fun e w' => e = .returned (.bool (inB n 0 9)) ∧ w = w' := by
  go_enter Try.func15, Try.ntmps15
  go_wp2_with (go_at_call 27; refine (within_any _ _ _ _).mono ?_; rintro e w' ⟨rfl, rfl⟩)
  go_ret
  exact ⟨rfl, rfl⟩

/-- what is answered for an id: the worker's id and the code -/
def NewWP (id i cd : Int) : Prop := (inB id 0 9 = true ∧ i = id ∧ cd = 0) ∨ (inB id 0 9 = false ∧ i = 0 ∧ cd = 4)

theorem NewWP.one {id i cd i' cd' : Int} (h : NewWP id i cd) (h' : NewWP id i' cd') : i = i' ∧ cd = cd' := by
  rcases h with ⟨a, b, c⟩ | ⟨a, b, c⟩ <;> rcases h' with ⟨d, e, f⟩ | ⟨d, e, f⟩ <;> simp_all

/-- a worker of that id with nothing else -/
def nWrk (i : Int) : GWrk := ⟨i, 0, 0, zRec, [], zAgg⟩

def NewWEnd (id : Int) (w : World) (e : Ending) (w' : World) : Prop :=
  ∃ (A : Option Addr) (c : Nat) (i cd : Int), NewWP id i cd ∧ e = .returned (.tuple #[.agg #[.int .i64 i, .int .i64 0, .int .i64 0, .int .i64 0, .int .i64 0, .int .i64 0, .int .i64 0, .int .i64 0, .string ⟨#[]⟩, .slice A 0 c, .int .i64 0, .int .i64 0, .int .i64 0, .int .i64 0, .int .i64 0, .int .i64 0], .int .i64 cd]) ∧ Free w' A ∧ (∀ b, blk A = some b → w.heap.size ≤ b ∧ b < w'.heap.size) ∧ Below w.heap.size w w'

theorem newWorker_any (id : Int) (w : World) : Calls Try.prog 6 #[.int .i64 id] w (NewWEnd id w) := by
  cases d : inB id 0 9
  · have HD := Lib.hid d; clear d
    go_enter Try.func6, Try.ntmps6
    go_wp2_with fail
    refine (isIdW_any id _).mono ?_
    rintro e w1 ⟨rfl, rfl⟩
    rw [HD.out]
    go_wp2
    first
      | refine bodyPost_ret (v := .tuple #[.agg #[.int .i64 0, .int .i64 0, .int .i64 0, .int .i64 0, .int .i64 0, .int .i64 0, .int .i64 0, .int .i64 0, .string ⟨#[]⟩, .slice none 0 0, .int .i64 0, .int .i64 0, .int .i64 0, .int .i64 0, .int .i64 0, .int .i64 0], .int .i64 4]) (by simp [results, Try.results6, go_sem, *]) rfl ⟨none, 0, 0, 4, .inr ⟨HD.out, rfl, rfl⟩, rfl, Free.none_, (fun b e => by cases e), ?_⟩
    repeat' first | exact Below.refl _ _ | refine bal ?_ _ | refine bset ?_ (by simp) _
  · have HD := Lib.hid d; clear d
    go_enter Try.func6, Try.ntmps6
    go_wp2_with fail
    refine (isIdW_any id _).mono ?_
    rintro e w1 ⟨rfl, rfl⟩
    rw [HD.out]
    go_wp2
    refine bodyPost_ret (v := .tuple #[.agg #[.int .i64 id, .int .i64 0, .int .i64 0, .int .i64 0, .int .i64 0, .int .i64 0, .int .i64 0, .int .i64 0, .string ⟨#[]⟩, .slice none 0 0, .int .i64 0, .int .i64 0, .int .i64 0, .int .i64 0, .int .i64 0, .int .i64 0], .int .i64 0]) (by simp [results, Try.results6, go_sem, *]) rfl ⟨none, 0, id, 0, .inl ⟨HD.out, rfl, rfl⟩, rfl, Free.none_, (fun b e => by cases e), ?_⟩
    repeat' first | exact Below.refl _ _ | refine bal ?_ _ | refine bset ?_ (by simp) _

theorem specNewWorker_any (id : Int) (w : World) : Calls Try.prog 5 #[.int .i64 id] w (NewWEnd id w) := by
  cases d : inB id 0 9
  · have HD := Lib.hid d; clear d
    go_enter Try.func5, Try.ntmps5
    go_wp2_with fail
    refine (inL_any id 0 9 _).mono ?_
    rintro e w1 ⟨rfl, rfl⟩
    rw [HD.out]
    go_wp2
    first
      | refine bodyPost_ret (v := .tuple #[.agg #[.int .i64 0, .int .i64 0, .int .i64 0, .int .i64 0, .int .i64 0, .int .i64 0, .int .i64 0, .int .i64 0, .string ⟨#[]⟩, .slice none 0 0, .int .i64 0, .int .i64 0, .int .i64 0, .int .i64 0, .int .i64 0, .int .i64 0], .int .i64 4]) (by simp [results, Try.results5, go_sem, *]) rfl ⟨none, 0, 0, 4, .inr ⟨HD.out, rfl, rfl⟩, rfl, Free.none_, (fun b e => by cases e), ?_⟩
    repeat' first | exact Below.refl _ _ | refine bal ?_ _ | refine bset ?_ (by simp) _
  · have HD := Lib.hid d; clear d
    go_enter Try.func5, Try.ntmps5
    go_wp2_with fail
    refine (inL_any id 0 9 _).mono ?_
    rintro e w1 ⟨rfl, rfl⟩
    rw [HD.out]
    go_wp2
    refine bodyPost_ret (v := .tuple #[.agg #[.int .i64 id, .int .i64 0, .int .i64 0, .int .i64 0, .int .i64 0, .int .i64 0, .int .i64 0, .int .i64 0, .string ⟨#[]⟩, .slice (some ⟨w.heap.size + 1, 0, none⟩) 0 0, .int .i64 0, .int .i64 0, .int .i64 0, .int .i64 0, .int .i64 0, .int .i64 0], .int .i64 0]) (by simp [results, Try.results5, go_sem, *]) rfl ⟨some ⟨w.heap.size + 1, 0, none⟩, 0, id, 0, .inl ⟨HD.out, rfl, rfl⟩, rfl, (fun b e i => by simp [blk] at e; subst e; simp [go_sem]), (fun b e => by simp [blk] at e; subst e; simp), ?_⟩
    repeat' first | exact Below.refl _ _ | refine bal ?_ _ | refine bset ?_ (by simp) _

end Go.Proofs.Ytpackpocnonpiaa
