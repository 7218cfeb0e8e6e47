/- What the exact laws over a room want besides: a slice of paces is a slice, reads on behind a new block; two cells of a block that lies below. No condition. -/
import Derived.Test.YtbekkdneldcehaaHallCopy2
namespace Go.Proofs.Ytbekkdneldcehaa
open Go.ChangeShapes Go.WideShapes Go.ChangeAt Go.RowKit Go.Sort
set_option linter.unusedVariables false

theorem IsPaces.shape {w : World} {v : Value} {ps : List PaceV} (h : IsPaces w v ps) : ∃ a cap, v = .slice a ps.length cap ∧ ps.length ≤ cap ∧ cap ≤ 9223372036854775807 := by
  obtain ⟨a, cap, rfl, hc, hm, _⟩ := h; exact ⟨a, cap, rfl, hc, hm⟩
theorem IsPaces.alloc {w : World} {v : Value} {ps : List PaceV} (h : IsPaces w v ps) (o : Obj) : IsPaces (w.alloc o) v ps := h.below ((Below.refl _ _).alloc (Nat.le_refl _) _)
/-- Two cells of a block that lies below. -/
theorem two_below {W w1 : World} {b : Nat} {u u' : Value} (hb : Below W.heap.size W w1) (hlt : b < W.heap.size) (h : W.cell? ⟨b, 0, none⟩ = some u ∧ W.cell? ⟨b, 1, none⟩ = some u') : w1.cell? ⟨b, 0, none⟩ = some u ∧ w1.cell? ⟨b, 1, none⟩ = some u' :=
  ⟨(hb.cell (p := ⟨b, 0, none⟩) hlt).trans h.1, (hb.cell (p := ⟨b, 1, none⟩) hlt).trans h.2⟩

end Go.Proofs.Ytbekkdneldcehaa
