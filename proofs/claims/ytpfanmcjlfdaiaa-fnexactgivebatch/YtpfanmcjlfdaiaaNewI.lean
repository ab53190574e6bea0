/-
  Contracts of NewIngester of both packages: one that is idle, or nothing with a code. No conditions.
-/
import Derived.Test.YtpfanmcjlfdaiaaIng
namespace Go.Proofs.Ytpfanmcjlfdaiaa
open Go.ChangeShapes Go.WideShapes Go.ChangeAt Go.RowKit Go.Deep Go.Joins
set_option linter.unusedVariables false
set_option linter.unusedSimpArgs false

theorem isIdI_any (n : Int) (w : World) : Calls Try.prog 25 #[.int .i64 n] w fun e w' => e = .returned (.bool (inB n 0 9)) ∧ w = w' := by
  go_enter Try.func25, Try.ntmps25
  go_wp2_with (go_at_call 32; refine (within_any _ _ _ _).mono ?_; rintro e w' ⟨rfl, rfl⟩)
  go_ret
  exact ⟨rfl, rfl⟩

/-- what is answered for an id: the ingester's id and the code -/
def NewIP (id i cd : Int) : Prop := (inB id 0 9 = true ∧ i = id ∧ cd = 0) ∨ (inB id 0 9 = false ∧ i = 0 ∧ cd = 4)

theorem NewIP.one {id i cd i' cd' : Int} (h : NewIP id i cd) (h' : NewIP id i' cd') : i = i' ∧ cd = cd' := by
  rcases h with ⟨a, b, c⟩ | ⟨a, b, c⟩ <;> rcases h' with ⟨d, e, f⟩ | ⟨d, e, f⟩ <;> simp_all

/-- a ingester of that id with nothing else -/
def nIng (i : Int) : GIng := ⟨i, 0, 0, 0, [], false⟩

def NewIEnd (id : Int) (w : World) (e : Ending) (w' : World) : Prop :=
  ∃ (A : Option Addr) (c : Nat) (i cd : Int), NewIP id i cd ∧ e = .returned (.tuple #[.agg #[.int .i64 i, .int .i64 0, .int .i64 0, .int .i64 0, .slice A 0 c, .bool false], .int .i64 cd]) ∧ Free w' A ∧ (∀ b, blk A = some b → w.heap.size ≤ b ∧ b < w'.heap.size) ∧ Below w.heap.size w w'

theorem newIngester_any (id : Int) (w : World) : Calls Try.prog 8 #[.int .i64 id] w (NewIEnd id w) := by
  cases d : inB id 0 9
  · have HD := Lib.hid d; clear d
    go_enter Try.func8, Try.ntmps8
    go_wp2_with fail
    refine (isIdI_any id _).mono ?_
    rintro e w1 ⟨rfl, rfl⟩
    rw [HD.out]
    go_wp2
    first
      | refine bodyPost_ret (v := .tuple #[.agg #[.int .i64 0, .int .i64 0, .int .i64 0, .int .i64 0, .slice none 0 0, .bool false], .int .i64 4]) (by simp [results, Try.results8, go_sem, *]) rfl ⟨none, 0, 0, 4, .inr ⟨HD.out, rfl, rfl⟩, rfl, Free.none_, (fun b e => by cases e), ?_⟩
    repeat' first | exact Below.refl _ _ | refine bal ?_ _ | refine bset ?_ (by simp) _
  · have HD := Lib.hid d; clear d
    go_enter Try.func8, Try.ntmps8
    go_wp2_with fail
    refine (isIdI_any id _).mono ?_
    rintro e w1 ⟨rfl, rfl⟩
    rw [HD.out]
    go_wp2
    refine bodyPost_ret (v := .tuple #[.agg #[.int .i64 id, .int .i64 0, .int .i64 0, .int .i64 0, .slice none 0 0, .bool false], .int .i64 0]) (by simp [results, Try.results8, go_sem, *]) rfl ⟨none, 0, id, 0, .inl ⟨HD.out, rfl, rfl⟩, rfl, Free.none_, (fun b e => by cases e), ?_⟩
    repeat' first | exact Below.refl _ _ | refine bal ?_ _ | refine bset ?_ (by simp) _

theorem specNewIngester_any (id : Int) (w : World) : Calls Try.prog 7 #[.int .i64 id] w (NewIEnd id w) := by
  cases d : inB id 0 9
  · have HD := Lib.hid d; clear d
    go_enter Try.func7, Try.ntmps7
    go_wp2_with fail
    refine (inL_any id 0 9 _).mono ?_
    rintro e w1 ⟨rfl, rfl⟩
    rw [HD.out]
    go_wp2
    first
      | refine bodyPost_ret (v := .tuple #[.agg #[.int .i64 0, .int .i64 0, .int .i64 0, .int .i64 0, .slice none 0 0, .bool false], .int .i64 4]) (by simp [results, Try.results7, go_sem, *]) rfl ⟨none, 0, 0, 4, .inr ⟨HD.out, rfl, rfl⟩, rfl, Free.none_, (fun b e => by cases e), ?_⟩
    repeat' first | exact Below.refl _ _ | refine bal ?_ _ | refine bset ?_ (by simp) _
  · have HD := Lib.hid d; clear d
    go_enter Try.func7, Try.ntmps7
    go_wp2_with fail
    refine (inL_any id 0 9 _).mono ?_
    rintro e w1 ⟨rfl, rfl⟩
    rw [HD.out]
    go_wp2
    refine bodyPost_ret (v := .tuple #[.agg #[.int .i64 id, .int .i64 0, .int .i64 0, .int .i64 0, .slice (some ⟨w.heap.size + 1, 0, none⟩) 0 0, .bool false], .int .i64 0]) (by simp [results, Try.results7, go_sem, *]) rfl ⟨some ⟨w.heap.size + 1, 0, none⟩, 0, id, 0, .inl ⟨HD.out, rfl, rfl⟩, rfl, (fun b e i => by simp [blk] at e; subst e; simp [go_sem]), (fun b e => by simp [blk] at e; subst e; simp), ?_⟩
    repeat' first | exact Below.refl _ _ | refine bal ?_ _ | refine bset ?_ (by simp) _

end Go.Proofs.Ytpfanmcjlfdaiaa
