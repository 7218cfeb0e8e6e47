/- Contracts of RoomOk and HallOk, the program's and the model's, and of what they call: each returns what the lists say and writes into no memory that was there. Condition: the slices can be read. -/
import Derived.Test.YtmdgokjeobnnaaaDoorOwnKit
import Derived.Lib.QuietBelow
namespace Go.Proofs.YtmdgokjeobnnaaaDoor
open Go.ChangeShapes Go.WideShapes Go.ChangeAt Go.RowKit Go.Sort
set_option linter.unusedVariables false


theorem stepB_p {ps : List PaceV} {k : Nat} {p : PaceV} (hp : paceAt ps k = p) (h : paceB p = false) : stepB ps k = false := by unfold stepB; rw [hp]; simp [h]
theorem stepB_0 {ps : List PaceV} {p : PaceV} (hp : paceAt ps 0 = p) (h : paceB p = true) : stepB ps 0 = true := by unfold stepB; rw [hp]; simp [h]
theorem stepB_s {ps : List PaceV} {k : Nat} {p q : PaceV} (hp : paceAt ps (k + 1) = p) (hq : paceAt ps k = q) (h : paceB p = true) : stepB ps (k + 1) = aboveB p q := by unfold stepB; simp [hp, hq, h]


end Go.Proofs.YtmdgokjeobnnaaaDoor
