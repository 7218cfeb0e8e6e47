/- Contracts of the draws of chapter 5's arguments: each returns a room that can be read, and numbers, and writes into no memory that was there. Condition: the bytes of the draw can be read and are at most 4096. -/
import Derived.Test.YtbekkdneldcehaaHallDraw4
import Derived.Test.YtbekkdneldcehaaWorkDraw
namespace Go.Proofs.Ytbekkdneldcehaa
open Go.ChangeShapes Go.WideShapes Go.ChangeAt Go.RowKit Go.Sort
open Draw (St Off Row Cur)
set_option linter.unusedVariables false

theorem pshape {w : World} {v : Value} {ps : List PaceV} (h : IsPaces w v ps) : ∃ a cap, v = .slice a ps.length cap ∧ ps.length ≤ cap ∧ cap ≤ 9223372036854775807 := by
  obtain ⟨a, cap, rfl, hc, hm, _⟩ := h; exact ⟨a, cap, rfl, hc, hm⟩

end Go.Proofs.Ytbekkdneldcehaa
