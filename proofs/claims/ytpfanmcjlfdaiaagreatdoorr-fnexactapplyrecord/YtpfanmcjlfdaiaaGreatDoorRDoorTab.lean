/-
  The library's tables as the program's text lays them: from the condition of a row to what the contracts ask; a world that holds them.
-/
import Derived.Test.YtpfanmcjlfdaiaaGreatDoorRTxt
import Derived.ChangeVars
import Derived.SevenTiedAt
import Derived.LaidOnce
import Derived.Lib.LaidTab
import Derived.Test.YtpfanmcjlfdaiaaGreatDoorRTie
namespace Go.Proofs.YtpfanmcjlfdaiaaGreatDoorR
open Go.ChangeShapes Go.WideShapes Go.ChangeAt Go.RowKit
set_option linter.unusedVariables false

theorem own : ownKnob Tryz.prog.godebug = none := by kernel_rfl
theorem laidOut : laidOutB Tryz.prog = true := by kernel_rfl

end Go.Proofs.YtpfanmcjlfdaiaaGreatDoorR
