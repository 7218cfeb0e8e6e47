/- What the proof rests on, part 21: lists and numbers, how they lie in memory, and contracts of the calls. No condition but those that a theorem names. -/
import Derived.Test.YtmhagllddhjgmaaGreatXa01
import Derived.Test.YtmhagllddhjgmaaGreatXa02
import Derived.Test.YtmhagllddhjgmaaGreatXa03
import Derived.Test.YtmhagllddhjgmaaGreatXa04
import Derived.Test.YtmhagllddhjgmaaGreatXa05
import Derived.Test.YtmhagllddhjgmaaGreatXa06
import Derived.Test.YtmhagllddhjgmaaGreatXa07
import Derived.Test.YtmhagllddhjgmaaGreatXa08
import Derived.Test.YtmhagllddhjgmaaGreatXa17
import Derived.Test.YtmhagllddhjgmaaGreatXa18
import Derived.Test.YtmhagllddhjgmaaGreatXa19
import Derived.Test.YtmhagllddhjgmaaGreatXa20
import Derived.Deep.DeepCutAuto
import Derived.Lib.SmallJoins
import Derived.Maps.AppendAt
import Derived.Lib.QuietBelow
import Derived.WalkKit
import Derived.ProofKit
import Derived.OpenShut
import Derived.Outline
import Derived.Deep.RegionWith
import Derived.OrdersHeld
import Derived.Deep.RegionHeldLaw
import Derived.Deep.Fields
import Derived.Deep.Slices
import Derived.Deep.QuietTactic
import Derived.BigQuiet
import Derived.Laws.OwnMore
import Derived.OwnWalk
import Derived.Deep.DrawnRows
import Derived.BigRegion
import Derived.Deep.RegionLawGrows
/- The model's copy of a smithy (l11Copy): it reads as the smithy does, in memory of the call's own, no two rows of it in one block. Conditions: the smithy can be read; nothing in it is longer than a thousand. -/
namespace Go.Proofs.YtmhagllddhjgmaaGreat
open Go.ChangeShapes Go.WideShapes Go.ChangeAt Go.RowKit Go.Sort
set_option linter.unusedVariables false

theorem tyG : RecTy 91 3 (.agg #[.int .i64 0, .int .i64 0, .int .i64 0]) encGuild := ⟨by kernel_rfl, rfl, encGuild_len, by omega, by omega, fun x u hu => by
  simp only [encGuild, List.mem_cons, List.not_mem_nil, or_false] at hu
  rcases hu with rfl | rfl | rfl <;> rfl⟩
theorem tyN : RecTy 2 1 (.int .i64 0) encNum := ⟨by kernel_rfl, rfl, encNum_len, by omega, by omega, fun x u hu => by
  simp only [encNum, List.mem_cons, List.not_mem_nil, or_false] at hu
  rcases hu with rfl <;> rfl⟩

/-- Nothing in it is longer than a thousand. -/
structure Few (m : SmyV) : Prop where
  rooms : m.rooms.length ≤ 1000
  paces : ∀ r ∈ m.rooms, r.2.length ≤ 1000
  guilds : m.guilds.length ≤ 1000
  smiths : m.smiths.length ≤ 800
  desks : m.desks.length ≤ 1000
  nums : m.paces.length ≤ 1000

end Go.Proofs.YtmhagllddhjgmaaGreat

