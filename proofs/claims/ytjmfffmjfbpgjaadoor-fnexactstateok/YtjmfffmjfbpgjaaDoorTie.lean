/-
  DERIVED. GIVEN WITH THE SEED: THE PROGRAM's TIES (one call each: nine closed facts by the kernel) AND EACH ROW's TIE, after the 31st guide's Derived/Test/Toyas{Tie, Card}.lean. No idea stands in it: it is a product of the set-up. Laid BY PROGRAM, IN A SANDBOX (cutbox-door.mjs). By AI agents, Wed Nov 11 2026. No macro, syntax, notation, axiom, sorry.
-/
import Derived.Test.YtjmfffmjfbpgjaaDoorRows
import Derived.LaidByTextLater
import Derived.SevenTiedAt
import Derived.LaidSub
import Derived.LaidOnce
namespace Go.Proofs.YtjmfffmjfbpgjaaDoor
open Go
set_option maxRecDepth 100000
theorem seatTie1 : Tryd.prog.laidByTextLater [("math/bits.deBruijn32tab", Rows.laid_math_bits_deBruijn32tab), ("math/bits.deBruijn64tab", Rows.laid_math_bits_deBruijn64tab), ("internal/strconv.uint64pow10", Rows.laid_internal_strconv_uint64pow10), ("loop.example/g00601/impl.tierPaths", Rows.laid_loop_example_g00601_impl_tierPaths), ("loop.example/g00601/impl.tierWidths", Rows.laid_loop_example_g00601_impl_tierWidths)] [.data, .data, .data, .data, .data] true :=
  Program.laidByTextLater_by_one 34 8 65 (by kernel_rfl) (by kernel_rfl) (by kernel_rfl) (by kernel_rfl) (by kernel_rfl) (by kernel_rfl) (fun _ _ => by kernel_rfl)
theorem noOwnUnsafe : Tryd.pinned.checked.prog.headLifts.contains "ownunsafe" = false := by kernel_rfl
theorem tie : Tryd.prog.laidByTextLater [("loop.example/g00601/impl.tierPaths", Rows.laid_loop_example_g00601_impl_tierPaths), ("loop.example/g00601/impl.tierWidths", Rows.laid_loop_example_g00601_impl_tierWidths)] [.data, .data] true :=
  Program.laidByTextLater.sub seatTie1 ["loop.example/g00601/impl.tierPaths", "loop.example/g00601/impl.tierWidths"] (by kernel_rfl) (by kernel_rfl)
theorem fnExactRecordOK_row_tie : Rows.fnExactRecordOKRow.laidByTextAt .later Tryd.pinned [.data, .data] true :=
  OpenClaim.laidByTextAt_later rfl rfl tie noOwnUnsafe
theorem tie2 : Tryd.prog.laidByTextLater [("math/bits.deBruijn32tab", Rows.laid_math_bits_deBruijn32tab), ("math/bits.deBruijn64tab", Rows.laid_math_bits_deBruijn64tab), ("internal/strconv.uint64pow10", Rows.laid_internal_strconv_uint64pow10), ("loop.example/g00601/impl.tierPaths", Rows.laid_loop_example_g00601_impl_tierPaths), ("loop.example/g00601/impl.tierWidths", Rows.laid_loop_example_g00601_impl_tierWidths)] [.data, .data, .data, .data, .data] true :=
  Program.laidByTextLater.sub seatTie1 ["math/bits.deBruijn32tab", "math/bits.deBruijn64tab", "internal/strconv.uint64pow10", "loop.example/g00601/impl.tierPaths", "loop.example/g00601/impl.tierWidths"] (by kernel_rfl) (by kernel_rfl)
theorem fnExactRecordText_row_tie : Rows.fnExactRecordTextRow.laidByTextAt .later Tryd.pinned [.data, .data, .data, .data, .data] true :=
  OpenClaim.laidByTextAt_later rfl rfl tie2 noOwnUnsafe
theorem tie3 : Tryd.prog.laidByTextLater [("loop.example/g00601/impl.tierPaths", Rows.laid_loop_example_g00601_impl_tierPaths)] [.data] true :=
  Program.laidByTextLater.sub seatTie1 ["loop.example/g00601/impl.tierPaths"] (by kernel_rfl) (by kernel_rfl)
theorem fnExactStateOK_row_tie : Rows.fnExactStateOKRow.laidByTextAt .later Tryd.pinned [.data] true :=
  OpenClaim.laidByTextAt_later rfl rfl tie3 noOwnUnsafe
theorem fnExactRecordOKUpto_row_tie : Rows.fnExactRecordOKUptoRow.laidByTextAt .later Tryd.pinned [.data, .data] true :=
  OpenClaim.laidByTextAt_later rfl rfl tie noOwnUnsafe
theorem fnExactRecordTextUpto_row_tie : Rows.fnExactRecordTextUptoRow.laidByTextAt .later Tryd.pinned [.data, .data, .data, .data, .data] true :=
  OpenClaim.laidByTextAt_later rfl rfl tie2 noOwnUnsafe
theorem fnExactStateOKUpto_row_tie : Rows.fnExactStateOKUptoRow.laidByTextAt .later Tryd.pinned [.data] true :=
  OpenClaim.laidByTextAt_later rfl rfl tie3 noOwnUnsafe
end Go.Proofs.YtjmfffmjfbpgjaaDoor
