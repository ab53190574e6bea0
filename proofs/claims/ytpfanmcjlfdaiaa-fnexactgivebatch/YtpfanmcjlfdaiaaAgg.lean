/-
  Words for aggregates, and contracts of what asks whether one is right, in both packages, and of the laws' own helpers on them.
-/
import Derived.Test.YtpfanmcjlfdaiaaBytes
import Derived.Test.YtpfanmcjlfdaiaaMem
import Derived.Deep.QuietTactic
import Derived.BigQuiet
import Derived.StillTailTactics
import Derived.Outline
namespace Go.Proofs.Ytpfanmcjlfdaiaa
open Go.ChangeShapes Go.WideShapes Go.ChangeAt Go.RowKit
set_option linter.unusedVariables false

/-- an aggregate as data -/
structure GAgg where
  cnt : Int
  sum : Int
  mn : Int
  mx : Int
  fst : Int
  lst : Int
deriving DecidableEq

def GAgg.val (a : GAgg) : Value := .agg #[.int .i64 a.cnt, .int .i64 a.sum, .int .i64 a.mn, .int .i64 a.mx, .int .i64 a.fst, .int .i64 a.lst]

def zAgg : GAgg := ⟨0, 0, 0, 0, 0, 0⟩

/-- from low to high -/
def inB (n lo hi : Int) : Bool := decide (lo ≤ n ∧ n ≤ hi)

theorem inB_iff {n lo hi : Int} : inB n lo hi = true ↔ lo ≤ n ∧ n ≤ hi := by simp [inB]

/-- right: of nothing all is 0, else within its bounds -/
def AggP (a : GAgg) : Prop := a = zAgg ∨ (1 ≤ a.cnt ∧ a.cnt ≤ 100000 ∧ -1000000 ≤ a.mn ∧ a.mn ≤ 1000000 ∧ -1000000 ≤ a.mx ∧ a.mx ≤ 1000000 ∧ a.mn ≤ a.fst ∧ a.fst ≤ a.mx ∧ a.mn ≤ a.lst ∧ a.lst ≤ a.mx ∧ a.cnt * a.mn ≤ a.sum ∧ a.sum ≤ a.cnt * a.mx)

theorem within_any (n lo hi : Int) (w : World) : Calls Try.prog 32 #[.int .i64 n, .int .i64 lo, .int .i64 hi] w fun e w' => e = .returned (.bool (inB n lo hi)) ∧ w = w' := by
  go_enter Try.func32, Try.ntmps32
  go_wp2
  all_goals go_ret
  all_goals refine ⟨?_, rfl⟩
  all_goals (simp [inB]; first | omega | (rw [Bool.eq_iff_iff]; simp; omega))

theorem inL_any (n lo hi : Int) (w : World) : Calls Try.prog 24 #[.int .i64 n, .int .i64 lo, .int .i64 hi] w fun e w' => e = .returned (.bool (inB n lo hi)) ∧ w = w' := by
  go_enter Try.func24, Try.ntmps24
  go_wp2
  all_goals go_ret
  all_goals refine ⟨?_, rfl⟩
  all_goals (simp [inB]; first | omega | (rw [Bool.eq_iff_iff]; simp; omega))

theorem isValue_any (n : Int) (w : World) : Calls Try.prog 41 #[.int .i64 n] w fun e w' => e = .returned (.bool (inB n (-1000000) 1000000)) ∧ w = w' := by
  go_enter Try.func41, Try.ntmps41
  go_wp2_with (go_at_call 32; refine (within_any _ _ _ _).mono ?_; rintro e w' ⟨rfl, rfl⟩)
  go_ret
  exact ⟨rfl, rfl⟩

end Go.Proofs.Ytpfanmcjlfdaiaa
