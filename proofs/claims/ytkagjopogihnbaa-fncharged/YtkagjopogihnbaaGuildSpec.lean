/- Contracts of chapter 8's models: each returns what the plain lists say and writes into no memory that was there. Condition: the slices can be read, and what a theorem names. -/
import Derived.Test.YtkagjopogihnbaaGuildFn
namespace Go.Proofs.Ytkagjopogihnbaa
open Go.ChangeShapes Go.WideShapes Go.ChangeAt Go.RowKit Go.Sort
set_option linter.unusedVariables false

theorem drewN_below {B : Nat} {w w' : World} (h : Below B w w') (n : Nat) : Below B w (w'.drewN n) := ⟨h.os, h.tape, h.output, h.size, h.block⟩

theorem guildForce_any (x : Int) (w : World) : Calls Try.prog 36 #[.int .i64 x] w fun e w' => e = .returned (.bool (inB x 0 1024)) ∧ w' = w := by
  go_enter Try.func36, Try.ntmps36
  go_wp2_with (go_at_call 30; refine (l1In_any _ _ _ _).mono ?_; rintro e w' ⟨rfl, rfl⟩)
  go_ret
  exact ⟨rfl, rfl⟩

theorem l8Pair_any (lo hi : Int) (w : World) : Calls Try.prog 34 #[.int .i64 lo, .int .i64 hi] w fun e w' => e = .returned (.bool (pairB lo hi)) ∧ w' = w := by
  cases h1 : inB lo 0 1024
  · have hp : pairB lo hi = false := by unfold pairB; rw [h1]; rfl
    rw [hp]; clear hp
    go_enter Try.func34, Try.ntmps34
    go_wp2_with (go_at_call 36; refine (guildForce_any _ _).mono ?_; rintro e w' ⟨rfl, rfl⟩)
    go_ret
    exact ⟨rfl, rfl⟩
  · cases h2 : inB hi 0 1024
    · have hp : pairB lo hi = false := by unfold pairB; rw [h1, h2]; rfl
      rw [hp]; clear hp
      go_enter Try.func34, Try.ntmps34
      go_wp2_with (go_at_call 36; refine (guildForce_any _ _).mono ?_; rintro e w' ⟨rfl, rfl⟩)
      go_ret
      exact ⟨rfl, rfl⟩
    · have hp : pairB lo hi = decide (lo ≤ hi) := by unfold pairB; rw [h1, h2]; rfl
      rw [hp]; clear hp
      by_cases h3 : lo ≤ hi
      all_goals
        go_enter Try.func34, Try.ntmps34
        go_wp2_with (go_at_call 36; refine (guildForce_any _ _).mono ?_; rintro e w' ⟨rfl, rfl⟩)
        go_ret
        exact ⟨ret_bool (by first | (simp; done) | (simp; omega)), rfl⟩






end Go.Proofs.Ytkagjopogihnbaa
