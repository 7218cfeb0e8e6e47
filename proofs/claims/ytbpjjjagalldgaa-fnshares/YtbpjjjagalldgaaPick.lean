/- The contract of the laws' choice by the bytes and a seed: a number from 0 to n less 1; memory stays. Conditions: the bytes can be read and are at most 4096; the seed is from 0 to 1000; n is above 0. -/
import Derived.Test.YtbpjjjagalldgaaDraw
namespace Go.Proofs.Ytbpjjjagalldgaa.Draw
open Go.ChangeShapes Go.WideShapes Go.ChangeAt Go.RowKit
set_option linter.unusedVariables false

set_option maxHeartbeats 400000 in
theorem pick_lt (a : Option Addr) (len cap : Nat) (s n : Int) (s0 : 0 ≤ s) (s1 : s ≤ 1000) (n0 : 0 < n) (n1 : n ≤ 4611686018427387904) (w : World) (hr : Row w.heap.size w a len) :
    Calls Try.prog 18 #[.slice a len cap, .int .i64 s, .int .i64 n] w fun e w' => ∃ x : Int, e = .returned (.int .i64 x) ∧ 0 ≤ x ∧ x < n ∧ w' = w := by
  obtain ⟨hl, hr⟩ := hr
  have Hc := hide hr
  clear hr
  go_enter Try.func18, Try.ntmps18
  go_wp2_with fail
  go_loop [7, 8] (fun t i => ∃ k : Nat, k ≤ len ∧ i = .int .i64 k ∧ ∃ x : Int, t = .int .i64 x ∧ 0 ≤ x ∧ x ≤ 10000000) (fun _ i => len - (intOf i).toNat)
  case atStart => exact ⟨0, Nat.zero_le _, rfl, _, rfl, by omega, by omega⟩
  case round =>
    obtain ⟨k, hk, rfl, x, rfl, x0, x1⟩ := hrel
    by_cases hlt : k < len
    · rcases unhide Hc with h0 | ⟨b, off, rfl, hb, hc⟩
      · omega
      obtain ⟨m, m0, m1, hm⟩ := hc k hlt
      clear hc
      go_wp2_with fail
      go_round
      case rel => exact ⟨k + 1, by omega, by go_num, _, rfl, by omega, by omega⟩
      case measure => simp [intOf]; omega
    · go_wp2_with fail
      go_ret
      exact ⟨_, rfl, Int.emod_nonneg _ (by omega), Int.emod_lt_of_pos _ n0, rfl⟩

end Go.Proofs.Ytbpjjjagalldgaa.Draw
