/- Contracts of chapter 2's small functions and of their models: whether a number is a set, and whether a bench is in it. No condition but those that a theorem names. -/
import Derived.Test.YtkagjopogihnbaaBase
namespace Go.Proofs.Ytkagjopogihnbaa
open Go.ChangeShapes Go.WideShapes Go.ChangeAt Go.RowKit
set_option linter.unusedVariables false



theorem implSetOk_any (s : Int) (w : World) : Calls Try.prog 55 #[.int .i64 s] w fun e w' => e = .returned (.bool (inB s 0 255)) ∧ w' = w := by
  by_cases h1 : 0 ≤ s
  · by_cases h2 : s ≤ 255
    all_goals
      go_enter Try.func55, Try.ntmps55
      go_wp2
      go_ret
      exact ⟨ret_bool (by first | exact (inB_t h1 h2).symm | exact (inB_f (by omega)).symm), rfl⟩
  · go_enter Try.func55, Try.ntmps55
    go_wp2
    go_ret
    exact ⟨ret_bool (inB_f (by omega)).symm, rfl⟩

theorem isBench_any (i : Int) (w : World) : Calls Try.prog 45 #[.int .i64 i] w fun e w' => e = .returned (.bool (inB i 0 7)) ∧ w' = w := by
  by_cases h1 : 0 ≤ i
  · by_cases h2 : i < 8
    all_goals
      go_enter Try.func45, Try.ntmps45
      go_wp2
      go_ret
      exact ⟨ret_bool (by first | exact (inB_t h1 (by omega)).symm | exact (inB_f (by omega)).symm), rfl⟩
  · go_enter Try.func45, Try.ntmps45
    go_wp2
    go_ret
    exact ⟨ret_bool (inB_f (by omega)).symm, rfl⟩

/-- Whether the bit i of s is set. -/
def bitB (s i : Int) : Bool := decide (s / 2 ^ i.toNat % 2 = 1)
/-- Whether the bench i is in the set s. -/
def memB (s i : Int) : Bool := inB s 0 255 && inB i 0 7 && bitB s i

theorem i64_and1 (n : Int) : bits .and .i64 n 1 = n % 2 := by
  have h1 : (BitVec.ofInt 64 1).toNat = 2 ^ 1 - 1 := by decide
  have key : (BitVec.ofInt 64 n &&& BitVec.ofInt 64 1).toNat = (n % ((2 ^ 64 : Nat) : Int)).toNat % 2 ^ 1 := by
    rw [BitVec.toNat_and, BitVec.toNat_ofInt, h1, Nat.and_two_pow_sub_one_eq_mod]
  show IntKind.i64.wrap ((BitVec.ofInt 64 n &&& BitVec.ofInt 64 1).toNat : Nat) = n % 2
  rw [key, IntKind.wrap_i64]
  omega
theorem bit_eq (s i : Int) : (bits .and .i64 (s / 2 ^ i.toNat) 1 == 1) = bitB s i := by rw [i64_and1]; unfold bitB; rfl
theorem memB_f {s i : Int} (h : inB s 0 255 = false ∨ inB i 0 7 = false) : memB s i = false := by unfold memB; rcases h with h | h <;> simp [h]
theorem memB_t {s i : Int} (hs : inB s 0 255 = true) (hi : inB i 0 7 = true) : memB s i = bitB s i := by unfold memB; simp [hs, hi]


theorem implInSet_any (s i : Int) (w : World) : Calls Try.prog 54 #[.int .i64 s, .int .i64 i] w fun e w' => e = .returned (.bool (memB s i)) ∧ w' = w := by
  by_cases hb : inB s 0 255 = true
  · obtain ⟨hs, hs2⟩ := inB_of hb
    by_cases hc : inB i 0 7 = true
    · obtain ⟨hi, hi2⟩ := inB_of hc
      go_enter Try.func54, Try.ntmps54
      go_wp2_with (first | (go_at_call 55; refine (implSetOk_any _ _).mono ?_; rintro e w' ⟨rfl, rfl⟩) | (go_at_call 45; refine (isBench_any _ _).mono ?_; rintro e w' ⟨rfl, rfl⟩))
      go_ret
      exact ⟨ret_bool ((bit_eq s i).trans (memB_t hb hc).symm), rfl⟩
    · have hc' : inB i 0 7 = false := by simpa using hc
      go_enter Try.func54, Try.ntmps54
      go_wp2_with (first | (go_at_call 55; refine (implSetOk_any _ _).mono ?_; rintro e w' ⟨rfl, rfl⟩) | (go_at_call 45; refine (isBench_any _ _).mono ?_; rintro e w' ⟨rfl, rfl⟩))
      go_ret
      exact ⟨ret_bool (memB_f (.inr hc')).symm, rfl⟩
  · have hb' : inB s 0 255 = false := by simpa using hb
    go_enter Try.func54, Try.ntmps54
    go_wp2_with (first | (go_at_call 55; refine (implSetOk_any _ _).mono ?_; rintro e w' ⟨rfl, rfl⟩) | (go_at_call 45; refine (isBench_any _ _).mono ?_; rintro e w' ⟨rfl, rfl⟩))
    go_ret
    exact ⟨ret_bool (memB_f (.inl hb')).symm, rfl⟩


end Go.Proofs.Ytkagjopogihnbaa
