/- What the proof rests on, part 25: lists and numbers, how they lie in memory, and contracts of the calls. No condition but those that a theorem names. -/
import Derived.Test.YtmhagllddhjgmabGreatXu01
import Derived.Test.YtmhagllddhjgmabGreatXu02
import Derived.Test.YtmhagllddhjgmabGreatXu03
import Derived.Test.YtmhagllddhjgmabGreatXu04
import Derived.Test.YtmhagllddhjgmabGreatXu05
import Derived.Test.YtmhagllddhjgmabGreatXu06
import Derived.Test.YtmhagllddhjgmabGreatXu07
import Derived.Test.YtmhagllddhjgmabGreatXu08
import Derived.Test.YtmhagllddhjgmabGreatXu09
import Derived.Test.YtmhagllddhjgmabGreatXu10
import Derived.Test.YtmhagllddhjgmabGreatXu12
import Derived.BigQuiet
import Derived.WalkKit
import Derived.ProofKit
import Derived.OpenShut
import Derived.Outline
import Derived.Lib.QuietBelow
import Derived.Deep.RegionWith
import Derived.Deep.QuietTactic
import Derived.Laws.OwnMore
import Derived.OwnWalk
import Derived.Maps.AppendAt
import Derived.Lib.SmallJoins
import Derived.Deep.Fields
import Derived.Deep.Slices
import Derived.Laws.StructEq
/- The model's SmithOk: its contract. No condition. -/
namespace Go.Proofs.YtmhagllddhjgmabGreat
open Go.ChangeShapes Go.WideShapes Go.ChangeAt Go.RowKit Go.Sort
set_option linter.unusedVariables false
attribute [local go_sem ↓] smith_eql smith_neq

theorem specHad_any (n : Int) (w : World) : Calls Tryz.prog 87 #[.int .i64 n] w fun e w' => e = .returned (.bool (inB n (-1000000000000) 1000000000000)) ∧ w' = w := by
  go_enter Tryz.func87, Tryz.ntmps87
  go_wp2_with (go_at_call 35; refine (l1In_any _ _ _ _).mono ?_; rintro e w' ⟨rfl, rfl⟩)
  go_ret
  exact ⟨rfl, rfl⟩

set_option maxRecDepth 100000 in
set_option maxHeartbeats 8000000 in
theorem specSmithOk_any (st be rk my gu lo hi hd ca ut wk : Int) (w : World) : Calls Tryz.prog 56 #[.agg #[.int .i64 st, .int .i64 be, .int .i64 rk, .int .i64 my, .int .i64 gu, .int .i64 lo, .int .i64 hi, .int .i64 hd, .int .i64 ca, .int .i64 ut, .int .i64 wk]] w fun e w' => e = .returned (.bool (smithB (st, be, rk, my, gu, lo, hi, hd, ca, ut, wk))) ∧ Below w.heap.size w w' := by
  by_cases hst : st = 0
  · subst hst
    unfold smithB
    rw [presB_st rfl, Bool.or_false]
    obtain ⟨q, hq⟩ : ∃ q, goneB (0, be, rk, my, gu, lo, hi, hd, ca, ut, wk) = q := ⟨_, rfl⟩
    rw [hq]
    have hz : sameB (0, be, rk, my, gu, lo, hi, hd, ca, ut, wk) (0, 0, 0, 0, 0, 0, 0, 0, 0, 0, 0) = q := hq
    clear hq
    go_enter Tryz.func56, Tryz.ntmps56
    go_wp2_with fail
    go_ret
    exact ⟨rfl, (Below.refl _ _).alloc (Nat.le_refl _) _⟩
  · have hne : (st == 0) = false := by simpa using hst
    unfold smithB
    rw [goneB_st hst, Bool.false_or]
    unfold presB
    simp only
    obtain ⟨x0, x1⟩ := weight_in rk
    obtain ⟨x, hx⟩ : ∃ x, weightV rk = x := ⟨_, rfl⟩
    rw [hx] at x0 x1 ⊢
    have Hw := hide hx
    have hwr : IntKind.i64.wrap (x - 1) = x - 1 := by rw [IntKind.wrap_i64]; omega
    clear hx hst
    cases h0 : inB st 1 3
    · go_enter Tryz.func56, Tryz.ntmps56
      go_wp2_with (first | (go_at_call 35; refine (l1In_any _ _ _ _).mono ?_; rintro e w' ⟨rfl, rfl⟩) | (go_at_call 86; refine (l3Rank_any _ _).mono ?_; rintro e w' ⟨rfl, rfl⟩) | (go_at_call 85; refine (l8Pair_any _ _ _).mono ?_; rintro e w' ⟨rfl, rfl⟩))
      go_ret
      exact ⟨rfl, (Below.refl _ _).alloc (Nat.le_refl _) _⟩
    cases h1 : inB be 0 7
    · go_enter Tryz.func56, Tryz.ntmps56
      go_wp2_with (first | (go_at_call 35; refine (l1In_any _ _ _ _).mono ?_; rintro e w' ⟨rfl, rfl⟩) | (go_at_call 86; refine (l3Rank_any _ _).mono ?_; rintro e w' ⟨rfl, rfl⟩) | (go_at_call 85; refine (l8Pair_any _ _ _).mono ?_; rintro e w' ⟨rfl, rfl⟩))
      go_ret
      exact ⟨rfl, (Below.refl _ _).alloc (Nat.le_refl _) _⟩
    cases h2 : inB rk (-5) 5
    · go_enter Tryz.func56, Tryz.ntmps56
      go_wp2_with (first | (go_at_call 35; refine (l1In_any _ _ _ _).mono ?_; rintro e w' ⟨rfl, rfl⟩) | (go_at_call 86; refine (l3Rank_any _ _).mono ?_; rintro e w' ⟨rfl, rfl⟩) | (go_at_call 85; refine (l8Pair_any _ _ _).mono ?_; rintro e w' ⟨rfl, rfl⟩))
      go_ret
      exact ⟨rfl, (Below.refl _ _).alloc (Nat.le_refl _) _⟩
    cases h3 : inB my 1 255
    · go_enter Tryz.func56, Tryz.ntmps56
      go_wp2_with (first | (go_at_call 35; refine (l1In_any _ _ _ _).mono ?_; rintro e w' ⟨rfl, rfl⟩) | (go_at_call 86; refine (l3Rank_any _ _).mono ?_; rintro e w' ⟨rfl, rfl⟩) | (go_at_call 85; refine (l8Pair_any _ _ _).mono ?_; rintro e w' ⟨rfl, rfl⟩))
      go_ret
      exact ⟨rfl, (Below.refl _ _).alloc (Nat.le_refl _) _⟩
    cases h4 : inB gu (-1) 5
    · go_enter Tryz.func56, Tryz.ntmps56
      go_wp2_with (first | (go_at_call 35; refine (l1In_any _ _ _ _).mono ?_; rintro e w' ⟨rfl, rfl⟩) | (go_at_call 86; refine (l3Rank_any _ _).mono ?_; rintro e w' ⟨rfl, rfl⟩) | (go_at_call 85; refine (l8Pair_any _ _ _).mono ?_; rintro e w' ⟨rfl, rfl⟩))
      go_ret
      exact ⟨rfl, (Below.refl _ _).alloc (Nat.le_refl _) _⟩
    cases h5 : pairB lo hi
    · go_enter Tryz.func56, Tryz.ntmps56
      go_wp2_with (first | (go_at_call 35; refine (l1In_any _ _ _ _).mono ?_; rintro e w' ⟨rfl, rfl⟩) | (go_at_call 86; refine (l3Rank_any _ _).mono ?_; rintro e w' ⟨rfl, rfl⟩) | (go_at_call 85; refine (l8Pair_any _ _ _).mono ?_; rintro e w' ⟨rfl, rfl⟩))
      go_ret
      exact ⟨rfl, (Below.refl _ _).alloc (Nat.le_refl _) _⟩
    cases h6 : inB hd (-1000000000000) 1000000000000
    · go_enter Tryz.func56, Tryz.ntmps56
      go_wp2_with (first | (go_at_call 35; refine (l1In_any _ _ _ _).mono ?_; rintro e w' ⟨rfl, rfl⟩) | (go_at_call 86; refine (l3Rank_any _ _).mono ?_; rintro e w' ⟨rfl, rfl⟩) | (go_at_call 85; refine (l8Pair_any _ _ _).mono ?_; rintro e w' ⟨rfl, rfl⟩))
      go_quiet (first | exact Calls.quiet_of_same (l1In_any _ _ _ _) | exact Calls.quiet_of_same (specHad_any _ _) | exact Calls.quiet_of_same (specWeightOf_v (unhide Hw) _) | exact Calls.quiet_of_same (guildForce_any _ _))
      go_wp2_with fail
      go_ret
      exact ⟨rfl, drewN_below ((Below.refl _ _).alloc (Nat.le_refl _) _) _⟩
    cases h7 : inB ca 0 (x - 1)
    · go_enter Tryz.func56, Tryz.ntmps56
      go_wp2_with (first | (go_at_call 35; refine (l1In_any _ _ _ _).mono ?_; rintro e w' ⟨rfl, rfl⟩) | (go_at_call 86; refine (l3Rank_any _ _).mono ?_; rintro e w' ⟨rfl, rfl⟩) | (go_at_call 85; refine (l8Pair_any _ _ _).mono ?_; rintro e w' ⟨rfl, rfl⟩))
      go_quiet (first | exact Calls.quiet_of_same (l1In_any _ _ _ _) | exact Calls.quiet_of_same (specHad_any _ _) | exact Calls.quiet_of_same (specWeightOf_v (unhide Hw) _) | exact Calls.quiet_of_same (guildForce_any _ _))
      go_wp2_with fail
      go_ret
      exact ⟨rfl, drewN_below ((Below.refl _ _).alloc (Nat.le_refl _) _) _⟩
    cases h8 : inB ut 0 1024
    · go_enter Tryz.func56, Tryz.ntmps56
      go_wp2_with (first | (go_at_call 35; refine (l1In_any _ _ _ _).mono ?_; rintro e w' ⟨rfl, rfl⟩) | (go_at_call 86; refine (l3Rank_any _ _).mono ?_; rintro e w' ⟨rfl, rfl⟩) | (go_at_call 85; refine (l8Pair_any _ _ _).mono ?_; rintro e w' ⟨rfl, rfl⟩))
      go_quiet (first | exact Calls.quiet_of_same (l1In_any _ _ _ _) | exact Calls.quiet_of_same (specHad_any _ _) | exact Calls.quiet_of_same (specWeightOf_v (unhide Hw) _) | exact Calls.quiet_of_same (guildForce_any _ _))
      go_wp2_with fail
      go_ret
      exact ⟨rfl, drewN_below ((Below.refl _ _).alloc (Nat.le_refl _) _) _⟩
    cases h9 : inB wk 0 100000000000
    · go_enter Tryz.func56, Tryz.ntmps56
      go_wp2_with (first | (go_at_call 35; refine (l1In_any _ _ _ _).mono ?_; rintro e w' ⟨rfl, rfl⟩) | (go_at_call 86; refine (l3Rank_any _ _).mono ?_; rintro e w' ⟨rfl, rfl⟩) | (go_at_call 85; refine (l8Pair_any _ _ _).mono ?_; rintro e w' ⟨rfl, rfl⟩))
      go_quiet (first | exact Calls.quiet_of_same (l1In_any _ _ _ _) | exact Calls.quiet_of_same (specHad_any _ _) | exact Calls.quiet_of_same (specWeightOf_v (unhide Hw) _) | exact Calls.quiet_of_same (guildForce_any _ _))
      go_wp2_with fail
      go_ret
      exact ⟨rfl, drewN_below ((Below.refl _ _).alloc (Nat.le_refl _) _) _⟩
    go_enter Tryz.func56, Tryz.ntmps56
    go_wp2_with (first | (go_at_call 35; refine (l1In_any _ _ _ _).mono ?_; rintro e w' ⟨rfl, rfl⟩) | (go_at_call 86; refine (l3Rank_any _ _).mono ?_; rintro e w' ⟨rfl, rfl⟩) | (go_at_call 85; refine (l8Pair_any _ _ _).mono ?_; rintro e w' ⟨rfl, rfl⟩))
    go_quiet (first | exact Calls.quiet_of_same (l1In_any _ _ _ _) | exact Calls.quiet_of_same (specHad_any _ _) | exact Calls.quiet_of_same (specWeightOf_v (unhide Hw) _) | exact Calls.quiet_of_same (guildForce_any _ _))
    go_wp2_with fail
    go_ret
    exact ⟨rfl, drewN_below ((Below.refl _ _).alloc (Nat.le_refl _) _) _⟩

end Go.Proofs.YtmhagllddhjgmabGreat

/- The model's small checks of a smithy: who is present, and the band. No condition but those that a theorem names. -/
namespace Go.Proofs.YtmhagllddhjgmabGreat
open Go.ChangeShapes Go.WideShapes Go.ChangeAt Go.RowKit Go.Sort
set_option linter.unusedVariables false

theorem l11Present_any (st be rk my gu lo hi hd ca ut wk : Int) (w : World) : Calls Tryz.prog 34 #[.agg #[.int .i64 st, .int .i64 be, .int .i64 rk, .int .i64 my, .int .i64 gu, .int .i64 lo, .int .i64 hi, .int .i64 hd, .int .i64 ca, .int .i64 ut, .int .i64 wk]] w fun e w' =>
    e = .returned (.bool (presS (st, be, rk, my, gu, lo, hi, hd, ca, ut, wk))) ∧ Below w.heap.size w w' := by
  unfold presS
  simp only
  cases h2 : (st == 2)
  all_goals
    go_enter Tryz.func34, Tryz.ntmps34
    go_wp2_with fail
    go_ret
    exact ⟨by first | rfl | (simp), (Below.refl _ _).alloc (Nat.le_refl _) _⟩

theorem specInBand_any (h m : Int) (w : World) : Calls Tryz.prog 58 #[.int .i64 h, .int .i64 m] w fun e w' => e = .returned (.bool (bandB h m)) ∧ w' = w := by
  unfold bandB
  cases h1 : inB h (-1000000000000) 1000000000000
  · go_enter Tryz.func58, Tryz.ntmps58
    go_wp2_with (first | (go_at_call 87; refine (specHad_any _ _).mono ?_; rintro e w' ⟨rfl, rfl⟩) | (go_at_call 35; refine (l1In_any _ _ _ _).mono ?_; rintro e w' ⟨rfl, rfl⟩))
    go_ret
    exact ⟨rfl, rfl⟩
  cases h2 : inB m (-1000000000000) 1000000000000
  · go_enter Tryz.func58, Tryz.ntmps58
    go_wp2_with (first | (go_at_call 87; refine (specHad_any _ _).mono ?_; rintro e w' ⟨rfl, rfl⟩) | (go_at_call 35; refine (l1In_any _ _ _ _).mono ?_; rintro e w' ⟨rfl, rfl⟩))
    go_ret
    exact ⟨rfl, rfl⟩
  obtain ⟨a0, a1⟩ := inB_of h1
  obtain ⟨b0, b1⟩ := inB_of h2
  go_enter Tryz.func58, Tryz.ntmps58
  go_wp2_with (first | (go_at_call 87; refine (specHad_any _ _).mono ?_; rintro e w' ⟨rfl, rfl⟩) | (go_at_call 35; refine (l1In_any _ _ _ _).mono ?_; rintro e w' ⟨rfl, rfl⟩))
  go_ret
  exact ⟨rfl, rfl⟩

end Go.Proofs.YtmhagllddhjgmabGreat

