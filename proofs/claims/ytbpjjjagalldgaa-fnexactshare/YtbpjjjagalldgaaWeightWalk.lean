/- The laws on WeightOf, Share and RankFor: whatever is handed in, each answers as its model. No condition. -/
import Derived.Test.YtbpjjjagalldgaaWeights
import Derived.Test.YtbpjjjagalldgaaShares
namespace Go.Proofs.Ytbpjjjagalldgaa
open Go.ChangeShapes Go.WideShapes Go.ChangeAt Go.RowKit
set_option linter.unusedVariables false

theorem walkFnExactWeightOf (a0 : Int) (w0 : (Lit.int .i64 a0).wf = true) (w : World) :
    Calls Try.prog 5 #[.int .i64 a0] w fun e w' => e = .returned (.bool true) ∧ Below w.heap.size w w' := by
  go_enter Try.func5, Try.ntmps5
  go_wp2_with (first | (go_at_call 13; refine (specWeightOf_any _ _).mono ?_; rintro e w' ⟨rfl, rfl⟩) | (go_at_call 10; refine (implWeightOf_any _ _).mono ?_; rintro e w' ⟨rfl, rfl⟩))
  go_ret
  exact ⟨rfl, Below.refl _ _⟩

theorem walkFnExactRankFor (a0 : Int) (w0 : (Lit.int .i64 a0).wf = true) (w : World) :
    Calls Try.prog 7 #[.int .i64 a0] w fun e w' => e = .returned (.bool true) ∧ Below w.heap.size w w' := by
  go_enter Try.func7, Try.ntmps7
  go_wp2_with (first | (go_at_call 14; refine (specRankFor_any _ _).mono ?_; rintro e w' ⟨rfl, rfl⟩) | (go_at_call 12; refine (implRankFor_any _ _).mono ?_; rintro e w' ⟨rfl, rfl⟩))
  go_ret
  exact ⟨rfl, Below.refl _ _⟩

theorem walkFnExactShare (a0 a1 a2 : Int) (w0 : (Lit.int .i64 a0).wf = true) (w1 : (Lit.int .i64 a1).wf = true) (w2 : (Lit.int .i64 a2).wf = true) (w : World) :
    Calls Try.prog 6 #[.int .i64 a0, .int .i64 a1, .int .i64 a2] w fun e w' => e = .returned (.bool true) ∧ Below w.heap.size w w' := by
  go_enter Try.func6, Try.ntmps6
  go_wp2_with fail
  refine (specShare_any _ _ _ _).mono ?_
  rintro e w3 ⟨rfl, b3⟩
  have Hb3 := hide b3
  clear b3
  go_wp2_with fail
  refine (implShare_any _ _ _ _).mono ?_
  rintro e w4 ⟨rfl, b4⟩
  have Hb4 := hide ((unhide Hb3).trans (b4.mono (unhide Hb3).size))
  clear b4 Hb3
  go_wp2_with fail
  go_ret
  exact ⟨rfl, unhide Hb4⟩

end Go.Proofs.Ytbpjjjagalldgaa
