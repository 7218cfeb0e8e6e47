/- From a row's condition on the library's variables to what the walks ask: the table of powers of ten lies as its text lays it. No other condition. -/
import Derived.Test.YtmdgokjeobnnaaaDoorShowRoom
import Derived.Test.YtmdgokjeobnnaaaDoorRows
import Derived.LaidMore
import Derived.Stop.Joined
import Derived.Stop.LaidErr
import Derived.Lib.LaidTab
import Derived.MakeChecks
namespace Go.Proofs.YtmdgokjeobnnaaaDoor
open Go.ChangeShapes Go.WideShapes Go.ChangeAt Go.RowKit
set_option linter.unusedVariables false

theorem ofLaidShowAct {W : World} (h : laidMetH Tryd.prog Rows.fnExactShowActRow.laid W) : Tab W := by
  rw [MakeChecks.laidMetH_plain _ _ _ (by kernel_rfl)] at h
  exact Go.Lib.tabIs_of_head (t := 96) (e := 79) (n := 20) (zs := Go.Lib.pow10Tab) (rest := []) gTab (by kernel_rfl) Tryd.underlying96 Tryd.underlying79 (by kernel_rfl) (by kernel_rfl) (laidMet.tail (laidMet.tail h))

end Go.Proofs.YtmdgokjeobnnaaaDoor
