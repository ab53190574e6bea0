/-
  DERIVED. GIVEN WITH THE SEED: THE PROGRAM's TIES (one call each: nine closed facts by the kernel) AND EACH ROW's TIE, after the 31st guide's Derived/Test/Toyas{Tie, Card}.lean. No idea stands in it: it is a product of the set-up. Laid BY PROGRAM, IN A SANDBOX (cutbox-door.mjs). By AI agents, Wed Nov 11 2026. No macro, syntax, notation, axiom, sorry.
-/
import Derived.Test.YtnglfambcophpaaDoorRows
import Derived.LaidByTextLater
import Derived.SevenTiedAt
import Derived.LaidSub
import Derived.LaidOnce
namespace Go.Proofs.YtnglfambcophpaaDoor
open Go
set_option maxRecDepth 100000
theorem seatTie1 : Tryd.prog.laidByTextLater [("math/bits.deBruijn32tab", Rows.laid_math_bits_deBruijn32tab), ("math/bits.deBruijn64tab", Rows.laid_math_bits_deBruijn64tab), ("internal/strconv.uint64pow10", Rows.laid_internal_strconv_uint64pow10), ("loop.example/g00601/impl.tierPaths", Rows.laid_loop_example_g00601_impl_tierPaths), ("loop.example/g00601/impl.tierWidths", Rows.laid_loop_example_g00601_impl_tierWidths), ("loop.example/g00601/impl.tierKeeps", Rows.laid_loop_example_g00601_impl_tierKeeps)] [.data, .data, .data, .data, .data, .data] true :=
  Program.laidByTextLater_by_one 39 8 65 (by kernel_rfl) (by kernel_rfl) (by kernel_rfl) (by kernel_rfl) (by kernel_rfl) (by kernel_rfl) (fun _ _ => by kernel_rfl)
theorem noOwnUnsafe : Tryd.pinned.checked.prog.headLifts.contains "ownunsafe" = false := by kernel_rfl
theorem tie : Tryd.prog.laidByTextLater [("loop.example/g00601/impl.tierWidths", Rows.laid_loop_example_g00601_impl_tierWidths), ("loop.example/g00601/impl.tierKeeps", Rows.laid_loop_example_g00601_impl_tierKeeps)] [.data, .data] true :=
  Program.laidByTextLater.sub seatTie1 ["loop.example/g00601/impl.tierWidths", "loop.example/g00601/impl.tierKeeps"] (by kernel_rfl) (by kernel_rfl)
theorem fnAlign_row_tie : Rows.fnAlignRow.laidByTextAt .later Tryd.pinned [.data, .data] true :=
  OpenClaim.laidByTextAt_later rfl rfl tie noOwnUnsafe
theorem tie2 : Tryd.prog.laidByTextLater [("math/bits.deBruijn32tab", Rows.laid_math_bits_deBruijn32tab), ("math/bits.deBruijn64tab", Rows.laid_math_bits_deBruijn64tab), ("internal/strconv.uint64pow10", Rows.laid_internal_strconv_uint64pow10), ("loop.example/g00601/impl.tierPaths", Rows.laid_loop_example_g00601_impl_tierPaths)] [.data, .data, .data, .data] true :=
  Program.laidByTextLater.sub seatTie1 ["math/bits.deBruijn32tab", "math/bits.deBruijn64tab", "internal/strconv.uint64pow10", "loop.example/g00601/impl.tierPaths"] (by kernel_rfl) (by kernel_rfl)
theorem fnExactDataKey_row_tie : Rows.fnExactDataKeyRow.laidByTextAt .later Tryd.pinned [.data, .data, .data, .data] true :=
  OpenClaim.laidByTextAt_later rfl rfl tie2 noOwnUnsafe
theorem tie3 : Tryd.prog.laidByTextLater [("loop.example/g00601/impl.tierWidths", Rows.laid_loop_example_g00601_impl_tierWidths)] [.data] true :=
  Program.laidByTextLater.sub seatTie1 ["loop.example/g00601/impl.tierWidths"] (by kernel_rfl) (by kernel_rfl)
theorem fnExactWidthOf_row_tie : Rows.fnExactWidthOfRow.laidByTextAt .later Tryd.pinned [.data] true :=
  OpenClaim.laidByTextAt_later rfl rfl tie3 noOwnUnsafe
theorem fnExactAlignDown_row_tie : Rows.fnExactAlignDownRow.laidByTextAt .later Tryd.pinned [.data] true :=
  OpenClaim.laidByTextAt_later rfl rfl tie3 noOwnUnsafe
theorem tie4 : Tryd.prog.laidByTextLater [("loop.example/g00601/impl.tierKeeps", Rows.laid_loop_example_g00601_impl_tierKeeps)] [.data] true :=
  Program.laidByTextLater.sub seatTie1 ["loop.example/g00601/impl.tierKeeps"] (by kernel_rfl) (by kernel_rfl)
theorem fnExactKeepOf_row_tie : Rows.fnExactKeepOfRow.laidByTextAt .later Tryd.pinned [.data] true :=
  OpenClaim.laidByTextAt_later rfl rfl tie4 noOwnUnsafe
theorem fnAlignUpto_row_tie : Rows.fnAlignUptoRow.laidByTextAt .later Tryd.pinned [.data, .data] true :=
  OpenClaim.laidByTextAt_later rfl rfl tie noOwnUnsafe
theorem fnExactDataKeyUpto_row_tie : Rows.fnExactDataKeyUptoRow.laidByTextAt .later Tryd.pinned [.data, .data, .data, .data] true :=
  OpenClaim.laidByTextAt_later rfl rfl tie2 noOwnUnsafe
theorem fnExactWidthOfUpto_row_tie : Rows.fnExactWidthOfUptoRow.laidByTextAt .later Tryd.pinned [.data] true :=
  OpenClaim.laidByTextAt_later rfl rfl tie3 noOwnUnsafe
theorem fnExactKeepOfUpto_row_tie : Rows.fnExactKeepOfUptoRow.laidByTextAt .later Tryd.pinned [.data] true :=
  OpenClaim.laidByTextAt_later rfl rfl tie4 noOwnUnsafe
theorem fnExactAlignDownUpto_row_tie : Rows.fnExactAlignDownUptoRow.laidByTextAt .later Tryd.pinned [.data] true :=
  OpenClaim.laidByTextAt_later rfl rfl tie3 noOwnUnsafe
end Go.Proofs.YtnglfambcophpaaDoor
