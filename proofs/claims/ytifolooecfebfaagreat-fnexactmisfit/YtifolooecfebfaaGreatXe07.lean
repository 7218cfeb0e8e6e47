/- What the proof rests on, part 7: lists and numbers, how they lie in memory, and contracts of the calls. No condition but those that a theorem names. -/
import Derived.Test.YtifolooecfebfaaGreatXe01
import Derived.Test.YtifolooecfebfaaGreatXe02
import Derived.Test.YtifolooecfebfaaGreatXe05
import Derived.Test.YtifolooecfebfaaGreatXe06
import Derived.Laws.StructEq
import Derived.BigQuiet
import GoSem.Claim
import GoSem.ClaimJoined
import GoSem.ClaimMapViews
import Derived.JoinedTies
import Derived.KernelRfl
import Derived.RowKit
import Derived.WalkKit
import Derived.ProofKit
import Derived.OpenShut
import Derived.Outline
import Derived.Lib.QuietBelow
import Derived.Deep.RegionWith
import Derived.Deep.QuietTactic
import Derived.Laws.OwnMore
import Derived.OwnWalk
import Derived.RangeFuncNested
import Derived.RangeFuncBound
import Derived.RangeFuncCalls
import Derived.RangeFuncLeaves
import Derived.RangeFuncBox
import Derived.Shelf.Abstract
import Derived.Shelf.RegionOpen
import Derived.OwnWalkIn
import Derived.TacticsInMore
import Derived.LoopNIn
import Derived.LoopIn
import Derived.Maps.AppendAt
import Derived.Lib.SmallJoins
/- Smiths as eleven plain numbers: which are right, which are gone, what they are when charged and with another rank. Numbers alone; no condition but those that a theorem names. -/
namespace Go.Proofs.YtifolooecfebfaaGreat
open Go.ChangeShapes Go.WideShapes Go.ChangeAt Go.RowKit Go.Sort
set_option linter.unusedVariables false

/-- Each number is within its limits. -/
def presB (x : SmithV) : Bool :=
  inB x.1 1 3 && (inB x.2.1 0 7 && (inB x.2.2.1 (-5) 5 && (inB x.2.2.2.1 1 255 && (inB x.2.2.2.2.1 (-1) 5 && (pairB x.2.2.2.2.2.1 x.2.2.2.2.2.2.1 && (inB x.2.2.2.2.2.2.2.1 (-1000000000000) 1000000000000 &&
    (inB x.2.2.2.2.2.2.2.2.1 0 (weightV x.2.2.1 - 1) && (inB x.2.2.2.2.2.2.2.2.2.1 0 1024 && inB x.2.2.2.2.2.2.2.2.2.2 0 100000000000))))))))
/-- All are zero. -/
def zeroS : SmithV := (0, 0, 0, 0, 0, 0, 0, 0, 0, 0, 0)
/-- Number by number alike. -/
def sameB (x y : SmithV) : Bool := x.1 == y.1 && (x.2.1 == y.2.1 && (x.2.2.1 == y.2.2.1 && (x.2.2.2.1 == y.2.2.2.1 && (x.2.2.2.2.1 == y.2.2.2.2.1 && (x.2.2.2.2.2.1 == y.2.2.2.2.2.1 && (x.2.2.2.2.2.2.1 == y.2.2.2.2.2.2.1 && (x.2.2.2.2.2.2.2.1 == y.2.2.2.2.2.2.2.1 && (x.2.2.2.2.2.2.2.2.1 == y.2.2.2.2.2.2.2.2.1 && (x.2.2.2.2.2.2.2.2.2.1 == y.2.2.2.2.2.2.2.2.2.1 && (x.2.2.2.2.2.2.2.2.2.2 == y.2.2.2.2.2.2.2.2.2.2))))))))))
theorem sameB_refl (x : SmithV) : sameB x x = true := by unfold sameB; simp
theorem sameB_of {x y : SmithV} (h : sameB x y = true) : x = y := by
  obtain ⟨x0, x1, x2, x3, x4, x5, x6, x7, x8, x9, x10⟩ := x
  obtain ⟨y0, y1, y2, y3, y4, y5, y6, y7, y8, y9, y10⟩ := y
  unfold sameB at h
  simp only [Bool.and_eq_true, beq_iff_eq] at h
  obtain ⟨rfl, rfl, rfl, rfl, rfl, rfl, rfl, rfl, rfl, rfl, rfl⟩ := h
  rfl
def goneB (x : SmithV) : Bool := sameB x zeroS
def smithB (x : SmithV) : Bool := goneB x || presB x
theorem weight_in (r : Int) : 0 ≤ weightV r ∧ weightV r ≤ 3125 := by
  cases h : inB r (-5) 5
  · rw [weightV_none h]; omega
  · rcases ranks h with rfl | rfl | rfl | rfl | rfl | rfl | rfl | rfl | rfl | rfl | rfl <;> decide
theorem presB_of {st be rk my gu lo hi hd ca ut wk : Int} (h : presB (st, be, rk, my, gu, lo, hi, hd, ca, ut, wk) = true) : (1 ≤ st ∧ st ≤ 3) ∧ (0 ≤ be ∧ be ≤ 7) ∧ inB rk (-5) 5 = true ∧ (1 ≤ my ∧ my ≤ 255) ∧ (-1 ≤ gu ∧ gu ≤ 5) ∧ pairB lo hi = true ∧ (-1000000000000 ≤ hd ∧ hd ≤ 1000000000000) ∧ (0 ≤ ca ∧ ca ≤ weightV rk - 1) ∧ (0 ≤ ut ∧ ut ≤ 1024) ∧ (0 ≤ wk ∧ wk ≤ 100000000000) := by
  unfold presB at h
  simp only [Bool.and_eq_true] at h
  obtain ⟨h0, h1, h2, h3, h4, h5, h6, h7, h8, h9⟩ := h
  exact ⟨inB_of h0, inB_of h1, h2, inB_of h3, inB_of h4, h5, inB_of h6, inB_of h7, inB_of h8, inB_of h9⟩
theorem goneB_of {x : SmithV} (h : goneB x = true) : x = zeroS := sameB_of h
theorem goneB_zero : goneB zeroS = true := sameB_refl _
theorem goneB_st {x : SmithV} (h : x.1 ≠ 0) : goneB x = false := by
  cases hg : goneB x
  · rfl
  · exact absurd (show x.1 = 0 by rw [goneB_of hg]; rfl) h
theorem presB_st {x : SmithV} (h : x.1 = 0) : presB x = false := by
  unfold presB
  rw [h]
  rfl
end Go.Proofs.YtifolooecfebfaaGreat

/- Smiths that are compared: two are alike where all their numbers are; and the weights as letters. No condition. -/
namespace Go.Proofs.YtifolooecfebfaaGreat
open Go.ChangeShapes Go.WideShapes Go.ChangeAt Go.RowKit Go.Sort
set_option linter.unusedVariables false

set_option maxHeartbeats 1000000 in
theorem smith_equal (x0 x1 x2 x3 x4 x5 x6 x7 x8 x9 x10 y0 y1 y2 y3 y4 y5 y6 y7 y8 y9 y10 : Int) (w : World) : (Op.equalIn 10000 42 (.agg #[.int .i64 x0, .int .i64 x1, .int .i64 x2, .int .i64 x3, .int .i64 x4, .int .i64 x5, .int .i64 x6, .int .i64 x7, .int .i64 x8, .int .i64 x9, .int .i64 x10]) (.agg #[.int .i64 y0, .int .i64 y1, .int .i64 y2, .int .i64 y3, .int .i64 y4, .int .i64 y5, .int .i64 y6, .int .i64 y7, .int .i64 y8, .int .i64 y9, .int .i64 y10])).run Tryz.prog w = .ok (sameB (x0, x1, x2, x3, x4, x5, x6, x7, x8, x9, x10) (y0, y1, y2, y3, y4, y5, y6, y7, y8, y9, y10)) w := by
  have u := Tryz.underlying2
  have a := Tryz.isAgg2
  have z := Tryz.sizeOf2
  have hS : Tryz.prog.underlying 42 = some (.struct (Tryz.prog.fieldsOf 42)) := by kernel_rfl
  have hp : Tryz.prog.stoodInHeld 42 = false := by kernel_rfl
  rw [show (10000 : Nat) = 9999 + 1 from rfl, run_equalIn_agg w 9999 42 _ _ hS hp]
  simp only [Program.fieldsOf, Tryz.underlying42]
  go_simp
  unfold sameB
  by_cases h0 : x0 = y0
  rotate_left
  · simp [h0]
  subst h0
  by_cases h1 : x1 = y1
  rotate_left
  · simp [h1]
  subst h1
  by_cases h2 : x2 = y2
  rotate_left
  · simp [h2]
  subst h2
  by_cases h3 : x3 = y3
  rotate_left
  · simp [h3]
  subst h3
  by_cases h4 : x4 = y4
  rotate_left
  · simp [h4]
  subst h4
  by_cases h5 : x5 = y5
  rotate_left
  · simp [h5]
  subst h5
  by_cases h6 : x6 = y6
  rotate_left
  · simp [h6]
  subst h6
  by_cases h7 : x7 = y7
  rotate_left
  · simp [h7]
  subst h7
  by_cases h8 : x8 = y8
  rotate_left
  · simp [h8]
  subst h8
  by_cases h9 : x9 = y9
  rotate_left
  · simp [h9]
  subst h9
  by_cases h10 : x10 = y10
  rotate_left
  · simp [h10]
  subst h10
  simp
theorem smith_eql (x0 x1 x2 x3 x4 x5 x6 x7 x8 x9 x10 y0 y1 y2 y3 y4 y5 y6 y7 y8 y9 y10 : Int) (w : World) : (binOp .eql 42 (.agg #[.int .i64 x0, .int .i64 x1, .int .i64 x2, .int .i64 x3, .int .i64 x4, .int .i64 x5, .int .i64 x6, .int .i64 x7, .int .i64 x8, .int .i64 x9, .int .i64 x10]) (.agg #[.int .i64 y0, .int .i64 y1, .int .i64 y2, .int .i64 y3, .int .i64 y4, .int .i64 y5, .int .i64 y6, .int .i64 y7, .int .i64 y8, .int .i64 y9, .int .i64 y10])).run Tryz.prog w = .ok (.bool (sameB (x0, x1, x2, x3, x4, x5, x6, x7, x8, x9, x10) (y0, y1, y2, y3, y4, y5, y6, y7, y8, y9, y10))) w := by
  rw [run_eql_struct, smith_equal]; rfl
theorem smith_neq (x0 x1 x2 x3 x4 x5 x6 x7 x8 x9 x10 y0 y1 y2 y3 y4 y5 y6 y7 y8 y9 y10 : Int) (w : World) : (binOp .neq 42 (.agg #[.int .i64 x0, .int .i64 x1, .int .i64 x2, .int .i64 x3, .int .i64 x4, .int .i64 x5, .int .i64 x6, .int .i64 x7, .int .i64 x8, .int .i64 x9, .int .i64 x10]) (.agg #[.int .i64 y0, .int .i64 y1, .int .i64 y2, .int .i64 y3, .int .i64 y4, .int .i64 y5, .int .i64 y6, .int .i64 y7, .int .i64 y8, .int .i64 y9, .int .i64 y10])).run Tryz.prog w = .ok (.bool (!sameB (x0, x1, x2, x3, x4, x5, x6, x7, x8, x9, x10) (y0, y1, y2, y3, y4, y5, y6, y7, y8, y9, y10))) w := by
  rw [run_neq_struct, smith_equal]; rfl

theorem implWeightOf_v {r x : Int} (h : weightV r = x) (w : World) : Calls Tryz.prog 287 #[.int .i64 r] w fun e w' => e = .returned (.int .i64 x) ∧ w' = w := by
  have := implWeightOf_any r w; rw [h] at this; exact this
theorem specWeightOf_v {r x : Int} (h : weightV r = x) (w : World) : Calls Tryz.prog 161 #[.int .i64 r] w fun e w' => e = .returned (.int .i64 x) ∧ w' = w := by
  have := specWeightOf_any r w; rw [h] at this; exact this

end Go.Proofs.YtifolooecfebfaaGreat

/- The model's SmithOk: its contract. No condition. -/
namespace Go.Proofs.YtifolooecfebfaaGreat
open Go.ChangeShapes Go.WideShapes Go.ChangeAt Go.RowKit Go.Sort
set_option linter.unusedVariables false
attribute [local go_sem ↓] smith_eql smith_neq

theorem specHad_any (n : Int) (w : World) : Calls Tryz.prog 154 #[.int .i64 n] w fun e w' => e = .returned (.bool (inB n (-1000000000000) 1000000000000)) ∧ w' = w := by
  go_enter Tryz.func154, Tryz.ntmps154
  go_wp2_with (go_at_call 113; refine (l1In_any _ _ _ _).mono ?_; rintro e w' ⟨rfl, rfl⟩)
  go_ret
  exact ⟨rfl, rfl⟩

set_option maxRecDepth 100000 in
set_option maxHeartbeats 8000000 in
theorem specSmithOk_any (st be rk my gu lo hi hd ca ut wk : Int) (w : World) : Calls Tryz.prog 117 #[.agg #[.int .i64 st, .int .i64 be, .int .i64 rk, .int .i64 my, .int .i64 gu, .int .i64 lo, .int .i64 hi, .int .i64 hd, .int .i64 ca, .int .i64 ut, .int .i64 wk]] w fun e w' => e = .returned (.bool (smithB (st, be, rk, my, gu, lo, hi, hd, ca, ut, wk))) ∧ Below w.heap.size w w' := by
  by_cases hst : st = 0
  · subst hst
    unfold smithB
    rw [presB_st rfl, Bool.or_false]
    obtain ⟨q, hq⟩ : ∃ q, goneB (0, be, rk, my, gu, lo, hi, hd, ca, ut, wk) = q := ⟨_, rfl⟩
    rw [hq]
    have hz : sameB (0, be, rk, my, gu, lo, hi, hd, ca, ut, wk) (0, 0, 0, 0, 0, 0, 0, 0, 0, 0, 0) = q := hq
    clear hq
    go_enter Tryz.func117, Tryz.ntmps117
    go_wp2_with fail
    go_ret
    exact ⟨rfl, (Below.refl _ _).alloc (Nat.le_refl _) _⟩
  · have hne : (st == 0) = false := by simpa using hst
    unfold smithB
    rw [goneB_st hst, Bool.false_or]
    unfold presB
    simp only
    obtain ⟨x0, x1⟩ := weight_in rk
    obtain ⟨x, hx⟩ : ∃ x, weightV rk = x := ⟨_, rfl⟩
    rw [hx] at x0 x1 ⊢
    have Hw := hide hx
    have hwr : IntKind.i64.wrap (x - 1) = x - 1 := by rw [IntKind.wrap_i64]; omega
    clear hx hst
    cases h0 : inB st 1 3
    · go_enter Tryz.func117, Tryz.ntmps117
      go_wp2_with (first | (go_at_call 113; refine (l1In_any _ _ _ _).mono ?_; rintro e w' ⟨rfl, rfl⟩) | (go_at_call 160; refine (l3Rank_any _ _).mono ?_; rintro e w' ⟨rfl, rfl⟩) | (go_at_call 159; refine (l8Pair_any _ _ _).mono ?_; rintro e w' ⟨rfl, rfl⟩))
      go_ret
      exact ⟨rfl, (Below.refl _ _).alloc (Nat.le_refl _) _⟩
    cases h1 : inB be 0 7
    · go_enter Tryz.func117, Tryz.ntmps117
      go_wp2_with (first | (go_at_call 113; refine (l1In_any _ _ _ _).mono ?_; rintro e w' ⟨rfl, rfl⟩) | (go_at_call 160; refine (l3Rank_any _ _).mono ?_; rintro e w' ⟨rfl, rfl⟩) | (go_at_call 159; refine (l8Pair_any _ _ _).mono ?_; rintro e w' ⟨rfl, rfl⟩))
      go_ret
      exact ⟨rfl, (Below.refl _ _).alloc (Nat.le_refl _) _⟩
    cases h2 : inB rk (-5) 5
    · go_enter Tryz.func117, Tryz.ntmps117
      go_wp2_with (first | (go_at_call 113; refine (l1In_any _ _ _ _).mono ?_; rintro e w' ⟨rfl, rfl⟩) | (go_at_call 160; refine (l3Rank_any _ _).mono ?_; rintro e w' ⟨rfl, rfl⟩) | (go_at_call 159; refine (l8Pair_any _ _ _).mono ?_; rintro e w' ⟨rfl, rfl⟩))
      go_ret
      exact ⟨rfl, (Below.refl _ _).alloc (Nat.le_refl _) _⟩
    cases h3 : inB my 1 255
    · go_enter Tryz.func117, Tryz.ntmps117
      go_wp2_with (first | (go_at_call 113; refine (l1In_any _ _ _ _).mono ?_; rintro e w' ⟨rfl, rfl⟩) | (go_at_call 160; refine (l3Rank_any _ _).mono ?_; rintro e w' ⟨rfl, rfl⟩) | (go_at_call 159; refine (l8Pair_any _ _ _).mono ?_; rintro e w' ⟨rfl, rfl⟩))
      go_ret
      exact ⟨rfl, (Below.refl _ _).alloc (Nat.le_refl _) _⟩
    cases h4 : inB gu (-1) 5
    · go_enter Tryz.func117, Tryz.ntmps117
      go_wp2_with (first | (go_at_call 113; refine (l1In_any _ _ _ _).mono ?_; rintro e w' ⟨rfl, rfl⟩) | (go_at_call 160; refine (l3Rank_any _ _).mono ?_; rintro e w' ⟨rfl, rfl⟩) | (go_at_call 159; refine (l8Pair_any _ _ _).mono ?_; rintro e w' ⟨rfl, rfl⟩))
      go_ret
      exact ⟨rfl, (Below.refl _ _).alloc (Nat.le_refl _) _⟩
    cases h5 : pairB lo hi
    · go_enter Tryz.func117, Tryz.ntmps117
      go_wp2_with (first | (go_at_call 113; refine (l1In_any _ _ _ _).mono ?_; rintro e w' ⟨rfl, rfl⟩) | (go_at_call 160; refine (l3Rank_any _ _).mono ?_; rintro e w' ⟨rfl, rfl⟩) | (go_at_call 159; refine (l8Pair_any _ _ _).mono ?_; rintro e w' ⟨rfl, rfl⟩))
      go_ret
      exact ⟨rfl, (Below.refl _ _).alloc (Nat.le_refl _) _⟩
    cases h6 : inB hd (-1000000000000) 1000000000000
    · go_enter Tryz.func117, Tryz.ntmps117
      go_wp2_with (first | (go_at_call 113; refine (l1In_any _ _ _ _).mono ?_; rintro e w' ⟨rfl, rfl⟩) | (go_at_call 160; refine (l3Rank_any _ _).mono ?_; rintro e w' ⟨rfl, rfl⟩) | (go_at_call 159; refine (l8Pair_any _ _ _).mono ?_; rintro e w' ⟨rfl, rfl⟩))
      go_quiet (first | exact Calls.quiet_of_same (l1In_any _ _ _ _) | exact Calls.quiet_of_same (specHad_any _ _) | exact Calls.quiet_of_same (specWeightOf_v (unhide Hw) _) | exact Calls.quiet_of_same (guildForce_any _ _))
      go_wp2_with fail
      go_ret
      exact ⟨rfl, drewN_below ((Below.refl _ _).alloc (Nat.le_refl _) _) _⟩
    cases h7 : inB ca 0 (x - 1)
    · go_enter Tryz.func117, Tryz.ntmps117
      go_wp2_with (first | (go_at_call 113; refine (l1In_any _ _ _ _).mono ?_; rintro e w' ⟨rfl, rfl⟩) | (go_at_call 160; refine (l3Rank_any _ _).mono ?_; rintro e w' ⟨rfl, rfl⟩) | (go_at_call 159; refine (l8Pair_any _ _ _).mono ?_; rintro e w' ⟨rfl, rfl⟩))
      go_quiet (first | exact Calls.quiet_of_same (l1In_any _ _ _ _) | exact Calls.quiet_of_same (specHad_any _ _) | exact Calls.quiet_of_same (specWeightOf_v (unhide Hw) _) | exact Calls.quiet_of_same (guildForce_any _ _))
      go_wp2_with fail
      go_ret
      exact ⟨rfl, drewN_below ((Below.refl _ _).alloc (Nat.le_refl _) _) _⟩
    cases h8 : inB ut 0 1024
    · go_enter Tryz.func117, Tryz.ntmps117
      go_wp2_with (first | (go_at_call 113; refine (l1In_any _ _ _ _).mono ?_; rintro e w' ⟨rfl, rfl⟩) | (go_at_call 160; refine (l3Rank_any _ _).mono ?_; rintro e w' ⟨rfl, rfl⟩) | (go_at_call 159; refine (l8Pair_any _ _ _).mono ?_; rintro e w' ⟨rfl, rfl⟩))
      go_quiet (first | exact Calls.quiet_of_same (l1In_any _ _ _ _) | exact Calls.quiet_of_same (specHad_any _ _) | exact Calls.quiet_of_same (specWeightOf_v (unhide Hw) _) | exact Calls.quiet_of_same (guildForce_any _ _))
      go_wp2_with fail
      go_ret
      exact ⟨rfl, drewN_below ((Below.refl _ _).alloc (Nat.le_refl _) _) _⟩
    cases h9 : inB wk 0 100000000000
    · go_enter Tryz.func117, Tryz.ntmps117
      go_wp2_with (first | (go_at_call 113; refine (l1In_any _ _ _ _).mono ?_; rintro e w' ⟨rfl, rfl⟩) | (go_at_call 160; refine (l3Rank_any _ _).mono ?_; rintro e w' ⟨rfl, rfl⟩) | (go_at_call 159; refine (l8Pair_any _ _ _).mono ?_; rintro e w' ⟨rfl, rfl⟩))
      go_quiet (first | exact Calls.quiet_of_same (l1In_any _ _ _ _) | exact Calls.quiet_of_same (specHad_any _ _) | exact Calls.quiet_of_same (specWeightOf_v (unhide Hw) _) | exact Calls.quiet_of_same (guildForce_any _ _))
      go_wp2_with fail
      go_ret
      exact ⟨rfl, drewN_below ((Below.refl _ _).alloc (Nat.le_refl _) _) _⟩
    go_enter Tryz.func117, Tryz.ntmps117
    go_wp2_with (first | (go_at_call 113; refine (l1In_any _ _ _ _).mono ?_; rintro e w' ⟨rfl, rfl⟩) | (go_at_call 160; refine (l3Rank_any _ _).mono ?_; rintro e w' ⟨rfl, rfl⟩) | (go_at_call 159; refine (l8Pair_any _ _ _).mono ?_; rintro e w' ⟨rfl, rfl⟩))
    go_quiet (first | exact Calls.quiet_of_same (l1In_any _ _ _ _) | exact Calls.quiet_of_same (specHad_any _ _) | exact Calls.quiet_of_same (specWeightOf_v (unhide Hw) _) | exact Calls.quiet_of_same (guildForce_any _ _))
    go_wp2_with fail
    go_ret
    exact ⟨rfl, drewN_below ((Below.refl _ _).alloc (Nat.le_refl _) _) _⟩

end Go.Proofs.YtifolooecfebfaaGreat

/- The program's side of chapter 9, up to SmithOk: contracts of the checks of a smith and of its shape. No condition. -/
namespace Go.Proofs.YtifolooecfebfaaGreat
open Go.ChangeShapes Go.WideShapes Go.ChangeAt Go.RowKit Go.Sort
set_option linter.unusedVariables false

theorem first_all : ∀ k : Fin 256, (firstMV (k.val : Int) != -1) = inB (k.val : Int) 1 255 := by decide +kernel
theorem first_may (s : Int) : (firstMV s != -1) = inB s 1 255 := by
  cases h : inB s 0 255
  · have hf : firstMV s = -1 := by unfold firstMV mems; rw [upto_none h]; rfl
    have h2 : s < 0 ∨ 255 < s := by
      rcases Int.lt_or_le s 0 with h1 | h1
      · exact .inl h1
      · rcases Int.lt_or_le 255 s with h2 | h2
        · exact .inr h2
        · rw [inB_t h1 h2] at h; cases h
    rw [hf, inB_f (by omega)]; rfl
  · obtain ⟨h0, h1⟩ := inB_of h
    obtain ⟨n, rfl⟩ := Int.eq_ofNat_of_zero_le h0
    exact first_all ⟨n, by omega⟩

theorem implFirstOf_v {s f : Int} (h : firstMV s = f) (w : World) : Calls Tryz.prog 286 #[.int .i64 s] w fun e w' => e = .returned (.int .i64 f) ∧ Below w.heap.size w w' := by
  have := implFirstOf_any s w; rw [h] at this; exact this
theorem isMay_any (s : Int) (w : World) : Calls Tryz.prog 275 #[.int .i64 s] w fun e w' => e = .returned (.bool (inB s 1 255)) ∧ Below w.heap.size w w' := by
  have hf := first_may s
  obtain ⟨f, hv⟩ : ∃ f, firstMV s = f := ⟨_, rfl⟩
  have Hv := hide hv
  rw [hv] at hf
  have Hf := hide hf
  clear hf hv
  go_enter Tryz.func275, Tryz.ntmps275
  go_wp2_with fail
  refine (implFirstOf_v (unhide Hv) _).mono ?_
  rintro e w1 ⟨rfl, hb⟩
  go_wp2_with fail
  go_ret
  exact ⟨ret_bool (unhide Hf), hb⟩

theorem isCarry_any (c r : Int) (w : World) : Calls Tryz.prog 276 #[.int .i64 c, .int .i64 r] w fun e w' => e = .returned (.bool (inB c 0 (weightV r - 1))) ∧ w' = w := by
  obtain ⟨x, hv⟩ : ∃ x, weightV r = x := ⟨_, rfl⟩
  have Hv := hide hv
  rw [hv]
  clear hv
  by_cases h0 : 0 ≤ c
  · by_cases h1 : c < x
    · rw [inB_t (x := c) (lo := 0) (hi := x - 1) h0 (by omega)]
      go_enter Tryz.func276, Tryz.ntmps276
      go_wp2_with (go_at_call 287; refine (implWeightOf_v (unhide Hv) _).mono ?_; rintro e w' ⟨rfl, rfl⟩)
      go_ret
      exact ⟨rfl, rfl⟩
    · rw [inB_f (x := c) (lo := 0) (hi := x - 1) (by omega)]
      go_enter Tryz.func276, Tryz.ntmps276
      go_wp2_with (go_at_call 287; refine (implWeightOf_v (unhide Hv) _).mono ?_; rintro e w' ⟨rfl, rfl⟩)
      go_ret
      exact ⟨ret_bool (b := false) (by rw [decide_eq_false_iff_not]; omega), rfl⟩
  · rw [inB_f (x := c) (lo := 0) (hi := x - 1) (by omega)]
    go_enter Tryz.func276, Tryz.ntmps276
    go_wp2_with fail
    go_ret
    exact ⟨rfl, rfl⟩

theorem smithHad_any (n : Int) (w : World) : Calls Tryz.prog 239 #[.int .i64 n] w fun e w' => e = .returned (.bool (inB n (-1000000000000) 1000000000000)) ∧ w' = w := by
  go_enter Tryz.func239, Tryz.ntmps239
  go_wp2_with (go_at_call 169; refine (liesFrom_any _ _ _ _).mono ?_; rintro e w' ⟨rfl, rfl⟩)
  go_ret
  exact ⟨rfl, rfl⟩

theorem isCarry_v {c r : Int} {q : Bool} (h : inB c 0 (weightV r - 1) = q) (w : World) : Calls Tryz.prog 276 #[.int .i64 c, .int .i64 r] w fun e w' => e = .returned (.bool q) ∧ w' = w := by
  have := isCarry_any c r w; rw [h] at this; exact this
theorem inB_none (x : Int) : inB x 0 (0 - 1) = false := by
  refine inB_f ?_
  rcases Int.lt_or_le x 0 with h | h
  · exact .inl h
  · exact .inr (by omega)
/-- A rank that is none leaves no carry. -/
theorem presB_eq (st be rk my gu lo hi hd ca ut wk : Int) : presB (st, be, rk, my, gu, lo, hi, hd, ca, ut, wk) = (inB st 1 3 && (inB be 0 7 && (inB my 1 255 && (inB gu (-1) 5 && (pairB lo hi && (inB hd (-1000000000000) 1000000000000 && (inB ca 0 (weightV rk - 1) && (inB ut 0 1024 && (inB wk 0 100000000000))))))))) := by
  unfold presB
  simp only
  cases hr : inB rk (-5) 5
  · rw [weightV_none hr, show inB ca 0 (0 - 1) = false from inB_none ca]
    simp
  · simp only [Bool.true_and]
set_option maxRecDepth 100000 in
set_option maxHeartbeats 4000000 in
theorem isPresent_any (st be rk my gu lo hi hd ca ut wk : Int) (w : World) : Calls Tryz.prog 262 #[.agg #[.int .i64 st, .int .i64 be, .int .i64 rk, .int .i64 my, .int .i64 gu, .int .i64 lo, .int .i64 hi, .int .i64 hd, .int .i64 ca, .int .i64 ut, .int .i64 wk]] w fun e w' => e = .returned (.bool (presB (st, be, rk, my, gu, lo, hi, hd, ca, ut, wk))) ∧ Below w.heap.size w w' := by
  rw [presB_eq]
  obtain ⟨qc, hqc⟩ : ∃ q, inB ca 0 (weightV rk - 1) = q := ⟨_, rfl⟩
  have Hc := hide hqc
  rw [hqc]
  clear hqc
  cases h_st : inB st 1 3
  rotate_left
  cases h_be : inB be 0 7
  rotate_left
  cases h_my : inB my 1 255
  rotate_left
  cases h_gu : inB gu (-1) 5
  rotate_left
  cases h_pr : pairB lo hi
  rotate_left
  cases h_hd : inB hd (-1000000000000) 1000000000000
  rotate_left
  cases qc
  rotate_left
  cases h_ut : inB ut 0 1024
  rotate_left
  cases h_wk : inB wk 0 100000000000
  all_goals
    go_enter Tryz.func262, Tryz.ntmps262
    go_wp2_with (first | (go_at_call 169; refine (liesFrom_any _ _ _ _).mono ?_; rintro e w' ⟨rfl, rfl⟩) | (go_at_call 153; refine (isBench_any _ _).mono ?_; rintro e w' ⟨rfl, rfl⟩) | (go_at_call 231; refine (areBounds_any _ _ _).mono ?_; rintro e w' ⟨rfl, rfl⟩) | (go_at_call 239; refine (smithHad_any _ _).mono ?_; rintro e w' ⟨rfl, rfl⟩) | (go_at_call 276; refine (isCarry_v (unhide Hc) _).mono ?_; rintro e w' ⟨rfl, rfl⟩) | (go_at_call 277; refine (isUtil_any _ _).mono ?_; rintro e w' ⟨rfl, rfl⟩))
    try
      refine (isMay_any _ _).mono ?_
      rintro e w1 ⟨rfl, hb⟩
      have c2 : w1.cell? ⟨w.heap.size, 2, none⟩ = some (.int .i64 rk) := (hb.cell (p := ⟨w.heap.size, 2, none⟩) (by simp)).trans (cell_new _ rfl)
      have c4 : w1.cell? ⟨w.heap.size, 4, none⟩ = some (.int .i64 gu) := (hb.cell (p := ⟨w.heap.size, 4, none⟩) (by simp)).trans (cell_new _ rfl)
      have c5 : w1.cell? ⟨w.heap.size, 5, none⟩ = some (.int .i64 lo) := (hb.cell (p := ⟨w.heap.size, 5, none⟩) (by simp)).trans (cell_new _ rfl)
      have c6 : w1.cell? ⟨w.heap.size, 6, none⟩ = some (.int .i64 hi) := (hb.cell (p := ⟨w.heap.size, 6, none⟩) (by simp)).trans (cell_new _ rfl)
      have c7 : w1.cell? ⟨w.heap.size, 7, none⟩ = some (.int .i64 hd) := (hb.cell (p := ⟨w.heap.size, 7, none⟩) (by simp)).trans (cell_new _ rfl)
      have c8 : w1.cell? ⟨w.heap.size, 8, none⟩ = some (.int .i64 ca) := (hb.cell (p := ⟨w.heap.size, 8, none⟩) (by simp)).trans (cell_new _ rfl)
      have c9 : w1.cell? ⟨w.heap.size, 9, none⟩ = some (.int .i64 ut) := (hb.cell (p := ⟨w.heap.size, 9, none⟩) (by simp)).trans (cell_new _ rfl)
      have c10 : w1.cell? ⟨w.heap.size, 10, none⟩ = some (.int .i64 wk) := (hb.cell (p := ⟨w.heap.size, 10, none⟩) (by simp)).trans (cell_new _ rfl)
      have Hb := hide (((Below.refl w.heap.size w).alloc (Nat.le_refl _) _).trans (hb.mono (by simp)))
      clear hb
      go_wp2_with (first | (go_at_call 169; refine (liesFrom_any _ _ _ _).mono ?_; rintro e w' ⟨rfl, rfl⟩) | (go_at_call 153; refine (isBench_any _ _).mono ?_; rintro e w' ⟨rfl, rfl⟩) | (go_at_call 231; refine (areBounds_any _ _ _).mono ?_; rintro e w' ⟨rfl, rfl⟩) | (go_at_call 239; refine (smithHad_any _ _).mono ?_; rintro e w' ⟨rfl, rfl⟩) | (go_at_call 276; refine (isCarry_v (unhide Hc) _).mono ?_; rintro e w' ⟨rfl, rfl⟩) | (go_at_call 277; refine (isUtil_any _ _).mono ?_; rintro e w' ⟨rfl, rfl⟩))
    go_ret
    first | exact ⟨rfl, unhide Hb⟩ | exact ⟨rfl, (Below.refl _ _).alloc (Nat.le_refl _) _⟩

end Go.Proofs.YtifolooecfebfaaGreat

/- The shape of a smith, and the program's SmithOk: contracts. No condition but those that a theorem names. -/
namespace Go.Proofs.YtifolooecfebfaaGreat
open Go.ChangeShapes Go.WideShapes Go.ChangeAt Go.RowKit Go.Sort
set_option linter.unusedVariables false
attribute [local go_sem ↓] smith_eql smith_neq

set_option maxHeartbeats 1000000 in
theorem shapeOf_gone (w : World) : Calls Tryz.prog 232 #[.agg #[.int .i64 0, .int .i64 0, .int .i64 0, .int .i64 0, .int .i64 0, .int .i64 0, .int .i64 0, .int .i64 0, .int .i64 0, .int .i64 0, .int .i64 0]] w fun e w' => e = .returned (.iface 247 (.agg #[])) ∧ Below w.heap.size w w' := by
  have hz : sameB (0, 0, 0, 0, 0, 0, 0, 0, 0, 0, 0) (0, 0, 0, 0, 0, 0, 0, 0, 0, 0, 0) = true := rfl
  go_enter Tryz.func232, Tryz.ntmps232
  go_wp2_with fail
  go_ret
  exact ⟨rfl, (Below.refl _ _).alloc (Nat.le_refl _) _⟩
set_option maxHeartbeats 1000000 in
theorem shapeOf_pres {st be rk my gu lo hi hd ca ut wk : Int} (hg : goneB (st, be, rk, my, gu, lo, hi, hd, ca, ut, wk) = false) (hp : presB (st, be, rk, my, gu, lo, hi, hd, ca, ut, wk) = true) (w : World) : Calls Tryz.prog 232 #[.agg #[.int .i64 st, .int .i64 be, .int .i64 rk, .int .i64 my, .int .i64 gu, .int .i64 lo, .int .i64 hi, .int .i64 hd, .int .i64 ca, .int .i64 ut, .int .i64 wk]] w fun e w' => e = .returned (.iface 249 (.agg #[.int .i64 st, .int .i64 be, .int .i64 rk, .int .i64 my, .int .i64 gu, .int .i64 lo, .int .i64 hi, .int .i64 hd, .int .i64 ca, .int .i64 ut, .int .i64 wk])) ∧ Below w.heap.size w w' := by
  have hz : sameB (st, be, rk, my, gu, lo, hi, hd, ca, ut, wk) (0, 0, 0, 0, 0, 0, 0, 0, 0, 0, 0) = false := hg
  have Hp := hide hp
  clear hg hp
  go_enter Tryz.func232, Tryz.ntmps232
  go_wp2_with fail
  refine (isPresent_any st be rk my gu lo hi hd ca ut wk _).mono ?_
  rw [unhide Hp]
  rintro e w1 ⟨rfl, hb⟩
  have c0 : w1.cell? ⟨w.heap.size, 0, none⟩ = some (.int .i64 st) := (hb.cell (p := ⟨w.heap.size, 0, none⟩) (by simp)).trans (cell_new _ rfl)
  have c1 : w1.cell? ⟨w.heap.size, 1, none⟩ = some (.int .i64 be) := (hb.cell (p := ⟨w.heap.size, 1, none⟩) (by simp)).trans (cell_new _ rfl)
  have c2 : w1.cell? ⟨w.heap.size, 2, none⟩ = some (.int .i64 rk) := (hb.cell (p := ⟨w.heap.size, 2, none⟩) (by simp)).trans (cell_new _ rfl)
  have c3 : w1.cell? ⟨w.heap.size, 3, none⟩ = some (.int .i64 my) := (hb.cell (p := ⟨w.heap.size, 3, none⟩) (by simp)).trans (cell_new _ rfl)
  have c4 : w1.cell? ⟨w.heap.size, 4, none⟩ = some (.int .i64 gu) := (hb.cell (p := ⟨w.heap.size, 4, none⟩) (by simp)).trans (cell_new _ rfl)
  have c5 : w1.cell? ⟨w.heap.size, 5, none⟩ = some (.int .i64 lo) := (hb.cell (p := ⟨w.heap.size, 5, none⟩) (by simp)).trans (cell_new _ rfl)
  have c6 : w1.cell? ⟨w.heap.size, 6, none⟩ = some (.int .i64 hi) := (hb.cell (p := ⟨w.heap.size, 6, none⟩) (by simp)).trans (cell_new _ rfl)
  have c7 : w1.cell? ⟨w.heap.size, 7, none⟩ = some (.int .i64 hd) := (hb.cell (p := ⟨w.heap.size, 7, none⟩) (by simp)).trans (cell_new _ rfl)
  have c8 : w1.cell? ⟨w.heap.size, 8, none⟩ = some (.int .i64 ca) := (hb.cell (p := ⟨w.heap.size, 8, none⟩) (by simp)).trans (cell_new _ rfl)
  have c9 : w1.cell? ⟨w.heap.size, 9, none⟩ = some (.int .i64 ut) := (hb.cell (p := ⟨w.heap.size, 9, none⟩) (by simp)).trans (cell_new _ rfl)
  have c10 : w1.cell? ⟨w.heap.size, 10, none⟩ = some (.int .i64 wk) := (hb.cell (p := ⟨w.heap.size, 10, none⟩) (by simp)).trans (cell_new _ rfl)
  have Hb := hide (((Below.refl w.heap.size w).alloc (Nat.le_refl _) _).trans (hb.mono (by simp)))
  clear hb
  go_wp2_with fail
  go_ret
  exact ⟨rfl, unhide Hb⟩
set_option maxHeartbeats 1000000 in
theorem shapeOf_wrong {st be rk my gu lo hi hd ca ut wk : Int} (hg : goneB (st, be, rk, my, gu, lo, hi, hd, ca, ut, wk) = false) (hp : presB (st, be, rk, my, gu, lo, hi, hd, ca, ut, wk) = false) (w : World) : Calls Tryz.prog 232 #[.agg #[.int .i64 st, .int .i64 be, .int .i64 rk, .int .i64 my, .int .i64 gu, .int .i64 lo, .int .i64 hi, .int .i64 hd, .int .i64 ca, .int .i64 ut, .int .i64 wk]] w fun e w' => e = .returned (.iface 250 (.agg #[])) ∧ Below w.heap.size w w' := by
  have hz : sameB (st, be, rk, my, gu, lo, hi, hd, ca, ut, wk) (0, 0, 0, 0, 0, 0, 0, 0, 0, 0, 0) = false := hg
  have Hp := hide hp
  clear hg hp
  go_enter Tryz.func232, Tryz.ntmps232
  go_wp2_with fail
  refine (isPresent_any st be rk my gu lo hi hd ca ut wk _).mono ?_
  rw [unhide Hp]
  rintro e w1 ⟨rfl, hb⟩
  have Hb := hide (((Below.refl w.heap.size w).alloc (Nat.le_refl _) _).trans (hb.mono (by simp)))
  clear hb
  go_wp2_with fail
  go_ret
  exact ⟨rfl, unhide Hb⟩

theorem m_gone (w : World) : (method 393 247 (.agg #[]) "loop.example/g00553/impl.isSmith").run Tryz.prog w = .ok (329, .agg #[]) w := by kernel_rfl
theorem m_wrong (w : World) : (method 393 250 (.agg #[]) "loop.example/g00553/impl.isSmith").run Tryz.prog w = .ok (331, .agg #[]) w := by kernel_rfl
theorem m_pres (st be rk my gu lo hi hd ca ut wk : Int) (w : World) : (method 393 249 (.agg #[.int .i64 st, .int .i64 be, .int .i64 rk, .int .i64 my, .int .i64 gu, .int .i64 lo, .int .i64 hi, .int .i64 hd, .int .i64 ca, .int .i64 ut, .int .i64 wk]) "loop.example/g00553/impl.isSmith").run Tryz.prog w = .ok (330, .agg #[.int .i64 st, .int .i64 be, .int .i64 rk, .int .i64 my, .int .i64 gu, .int .i64 lo, .int .i64 hi, .int .i64 hd, .int .i64 ca, .int .i64 ut, .int .i64 wk]) w := by kernel_rfl
theorem goneIs_any (w : World) : Calls Tryz.prog 329 #[.agg #[]] w fun e w' => e = .returned (.bool true) ∧ Below w.heap.size w w' := by
  go_enter Tryz.func329, Tryz.ntmps329
  go_wp2_with fail
  go_ret
  exact ⟨rfl, (Below.refl _ _).alloc (Nat.le_refl _) _⟩
theorem wrongIs_any (w : World) : Calls Tryz.prog 331 #[.agg #[]] w fun e w' => e = .returned (.bool false) ∧ Below w.heap.size w w' := by
  go_enter Tryz.func331, Tryz.ntmps331
  go_wp2_with fail
  go_ret
  exact ⟨rfl, (Below.refl _ _).alloc (Nat.le_refl _) _⟩
theorem presIs_any (st be rk my gu lo hi hd ca ut wk : Int) (w : World) : Calls Tryz.prog 330 #[.agg #[.int .i64 st, .int .i64 be, .int .i64 rk, .int .i64 my, .int .i64 gu, .int .i64 lo, .int .i64 hi, .int .i64 hd, .int .i64 ca, .int .i64 ut, .int .i64 wk]] w fun e w' => e = .returned (.bool true) ∧ Below w.heap.size w w' := by
  go_enter Tryz.func330, Tryz.ntmps330
  go_wp2_with fail
  go_ret
  exact ⟨rfl, (Below.refl _ _).alloc (Nat.le_refl _) _⟩

attribute [local go_sem] m_gone m_wrong m_pres
set_option maxHeartbeats 1000000 in
theorem implSmithOk_any (st be rk my gu lo hi hd ca ut wk : Int) (w : World) : Calls Tryz.prog 202 #[.agg #[.int .i64 st, .int .i64 be, .int .i64 rk, .int .i64 my, .int .i64 gu, .int .i64 lo, .int .i64 hi, .int .i64 hd, .int .i64 ca, .int .i64 ut, .int .i64 wk]] w fun e w' => e = .returned (.bool (smithB (st, be, rk, my, gu, lo, hi, hd, ca, ut, wk))) ∧ Below w.heap.size w w' := by
  unfold smithB
  cases hg : goneB (st, be, rk, my, gu, lo, hi, hd, ca, ut, wk)
  · cases hp : presB (st, be, rk, my, gu, lo, hi, hd, ca, ut, wk)
    · rw [show (false || false) = false from rfl]
      have Hg := hide hg
      have Hp := hide hp
      clear hg hp
      go_enter Tryz.func202, Tryz.ntmps202
      go_wp2_with fail
      refine (shapeOf_wrong (unhide Hg) (unhide Hp) _).mono ?_
      rintro e w1 ⟨rfl, hb⟩
      have B1 := hide (((Below.refl w.heap.size w).alloc (Nat.le_refl _) _).trans (hb.mono (by simp)))
      clear hb
      go_wp2_with fail
      refine (wrongIs_any _).mono ?_
      rintro e w2 ⟨rfl, hb⟩
      have B2 := hide ((unhide B1).trans (hb.mono (unhide B1).size))
      clear hb
      go_wp2_with fail
      go_ret
      exact ⟨rfl, unhide B2⟩
    · rw [show (false || true) = true from rfl]
      have Hg := hide hg
      have Hp := hide hp
      clear hg hp
      go_enter Tryz.func202, Tryz.ntmps202
      go_wp2_with fail
      refine (shapeOf_pres (unhide Hg) (unhide Hp) _).mono ?_
      rintro e w1 ⟨rfl, hb⟩
      have B1 := hide (((Below.refl w.heap.size w).alloc (Nat.le_refl _) _).trans (hb.mono (by simp)))
      clear hb
      go_wp2_with fail
      refine (presIs_any _ _ _ _ _ _ _ _ _ _ _ _).mono ?_
      rintro e w2 ⟨rfl, hb⟩
      have B2 := hide ((unhide B1).trans (hb.mono (unhide B1).size))
      clear hb
      go_wp2_with fail
      go_ret
      exact ⟨rfl, unhide B2⟩
  · rw [Bool.true_or]
    cases goneB_of hg
    clear hg
    go_enter Tryz.func202, Tryz.ntmps202
    go_wp2_with fail
    refine (shapeOf_gone _).mono ?_
    rintro e w1 ⟨rfl, hb⟩
    have B1 := hide (((Below.refl w.heap.size w).alloc (Nat.le_refl _) _).trans (hb.mono (by simp)))
    clear hb
    go_wp2_with fail
    refine (goneIs_any _).mono ?_
    rintro e w2 ⟨rfl, hb⟩
    have B2 := hide ((unhide B1).trans (hb.mono (unhide B1).size))
    clear hb
    go_wp2_with fail
    go_ret
    exact ⟨rfl, unhide B2⟩

end Go.Proofs.YtifolooecfebfaaGreat

