/- Part 4 of what the proof rests on. No condition but those that a theorem names. -/
import Derived.Test.YtgdpaigcmoifbaaGreatXe01
namespace Go.Proofs.YtgdpaigcmoifbaaGreat
open Go.ChangeShapes Go.WideShapes Go.ChangeAt Go.RowKit Go.Proofs.Tryz
set_option linter.unusedVariables false
theorem implSetOk_any (s : Int) (w : World) : cE 200 #[.int .i64 s] w (.bool (inB s 0 255)) := by
 by_cases h1 : 0 ≤ s
 ·by_cases h2 : s ≤ 255
  all_goals
   go_enter func200, ntmps200
   go_wp2
   go_ret
   exact ⟨ret_bool (by first | exact (inB_t h1 h2).symm | exact (inB_f (by omega)).symm), rfl⟩
 ·go_enter func200, ntmps200
  go_wp2
  go_ret
  exact ⟨ret_bool (inB_f (by omega)).symm, rfl⟩
theorem isBench_any (i : Int) (w : World) : cE 201 #[.int .i64 i] w (.bool (inB i 0 7)) := by
 by_cases h1 : 0 ≤ i
 ·by_cases h2 : i < 8
  all_goals
   go_enter func201, ntmps201
   go_wp2
   go_ret
   exact ⟨ret_bool (by first | exact (inB_t h1 (by omega)).symm | exact (inB_f (by omega)).symm), rfl⟩
 ·go_enter func201, ntmps201
  go_wp2
  go_ret
  exact ⟨ret_bool (inB_f (by omega)).symm, rfl⟩
def bitB (s i : Int) : Bool := decide (s / 2 ^ i.toNat % 2 = 1)
def memB (s i : Int) : Bool := inB s 0 255 && inB i 0 7 && bitB s i
theorem i64_and1 (n : Int) : bits .and .i64 n 1 = n % 2 := by
 have h1 : (BitVec.ofInt 64 1).toNat = 2 ^ 1 - 1 := by decide
 have key : (BitVec.ofInt 64 n &&& BitVec.ofInt 64 1).toNat = (n % ((2 ^ 64 : Nat) : Int)).toNat % 2 ^ 1 := by
  rw [BitVec.toNat_and, BitVec.toNat_ofInt, h1, Nat.and_two_pow_sub_one_eq_mod]
 show IntKind.i64.wrap ((BitVec.ofInt 64 n &&& BitVec.ofInt 64 1).toNat : Nat) = n % 2
 rw [key, IntKind.wrap_i64]
 omega
theorem bit_eq (s i : Int) : (bits .and .i64 (s / 2 ^ i.toNat) 1 == 1) = bitB s i := by rw [i64_and1]; unfold bitB; rfl
theorem memB_f {s i : Int} (h : inB s 0 255 = false ∨ inB i 0 7 = false) : memB s i = false := by unfold memB; rcases h with h | h <;> simp [h]
theorem memB_t {s i : Int} (hs : inB s 0 255 = true) (hi : inB i 0 7 = true) : memB s i = bitB s i := by unfold memB; simp [hs, hi]
theorem l2Has_any (s i : Int) (w : World) (hs : 0 ≤ s) (hs2 : s ≤ 255) (hi : 0 ≤ i) (hi2 : i ≤ 7) : cE 135 #[.int .i64 s, .int .i64 i] w (.bool (bitB s i)) := by
 go_enter func135, ntmps135
 go_wp2
 go_ret
 exact ⟨ret_bool (bit_eq s i), rfl⟩
theorem implInSet_any (s i : Int) (w : World) : cE 142 #[.int .i64 s, .int .i64 i] w (.bool (memB s i)) := by
 by_cases hb : inB s 0 255 = true
 ·obtain ⟨hs, hs2⟩ := inB_of hb
  by_cases hc : inB i 0 7 = true
  ·obtain ⟨hi, hi2⟩ := inB_of hc
   go_enter func142, ntmps142
   go_wp2_with (first | (go_at_call 200; refine (implSetOk_any _ _).mono ?_; rintro e w' ⟨rfl, rfl⟩) | (go_at_call 201; refine (isBench_any _ _).mono ?_; rintro e w' ⟨rfl, rfl⟩))
   go_ret
   exact ⟨ret_bool ((bit_eq s i).trans (memB_t hb hc).symm), rfl⟩
  ·have hc' : inB i 0 7 = false := by simpa using hc
   go_enter func142, ntmps142
   go_wp2_with (first | (go_at_call 200; refine (implSetOk_any _ _).mono ?_; rintro e w' ⟨rfl, rfl⟩) | (go_at_call 201; refine (isBench_any _ _).mono ?_; rintro e w' ⟨rfl, rfl⟩))
   go_ret
   exact ⟨ret_bool (memB_f (.inr hc')).symm, rfl⟩
 ·have hb' : inB s 0 255 = false := by simpa using hb
  go_enter func142, ntmps142
  go_wp2_with (first | (go_at_call 200; refine (implSetOk_any _ _).mono ?_; rintro e w' ⟨rfl, rfl⟩) | (go_at_call 201; refine (isBench_any _ _).mono ?_; rintro e w' ⟨rfl, rfl⟩))
  go_ret
  exact ⟨ret_bool (memB_f (.inl hb')).symm, rfl⟩
end Go.Proofs.YtgdpaigcmoifbaaGreat
