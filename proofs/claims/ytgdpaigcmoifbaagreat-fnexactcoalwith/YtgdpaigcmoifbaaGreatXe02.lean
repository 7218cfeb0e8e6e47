/- Part 2 of what the proof rests on. No condition but those that a theorem names. -/
import Derived.Test.YtgdpaigcmoifbaaGreatXe01
set_option maxHeartbeats 8000000
set_option maxRecDepth 100000
namespace Go.Proofs.YtgdpaigcmoifbaaGreat
open Go.ChangeShapes Go.WideShapes Go.ChangeAt Go.RowKit Go.Proofs.Tryz
set_option linter.unusedVariables false
def lightT (k : Nat) : Int := [1024, 819, 655, 524, 419, 335].getD k 0
def heavyT (k : Nat) : Int := [1024, 1280, 1600, 2000, 2500, 3125].getD k 0
def weightV (r : Int) : Int := if inB r (-5) 5 then (if 0 ≤ r then lightT r.toNat else heavyT (-r).toNat) else 0
theorem lightT_all : ∀ k : Fin 5, lightT (k.val + 1) = lightT k.val * 4 / 5 ∧ 0 ≤ lightT k.val ∧ lightT k.val ≤ 1024 := by decide
theorem heavyT_all : ∀ k : Fin 5, heavyT (k.val + 1) = heavyT k.val * 5 / 4 ∧ 0 ≤ heavyT k.val ∧ heavyT k.val ≤ 3125 := by decide
theorem lightT_step {k : Nat} (h : k < 5) : lightT (k + 1) = lightT k * 4 / 5 ∧ 0 ≤ lightT k ∧ lightT k ≤ 1024 := lightT_all ⟨k, h⟩
theorem heavyT_step {k : Nat} (h : k < 5) : heavyT (k + 1) = heavyT k * 5 / 4 ∧ 0 ≤ heavyT k ∧ heavyT k ≤ 3125 := heavyT_all ⟨k, h⟩
theorem ranks {r : Int} (h : inB r (-5) 5 = true) : r = -5 ∨ r = -4 ∨ r = -3 ∨ r = -2 ∨ r = -1 ∨ r = 0 ∨ r = 1 ∨ r = 2 ∨ r = 3 ∨ r = 4 ∨ r = 5 := by
 have := inB_of h
 omega
theorem weightV_none {r : Int} (h : inB r (-5) 5 = false) : weightV r = 0 := by unfold weightV; simp [h]
theorem weightV_up {r : Int} (h : inB r (-5) 5 = true) (h0 : 0 ≤ r) : weightV r = lightT r.toNat := by unfold weightV; simp [h, h0]
theorem weightV_down {r : Int} (h : inB r (-5) 5 = true) (h0 : ¬ 0 ≤ r) : weightV r = heavyT (-r).toNat := by unfold weightV; simp [h, h0]
theorem l3Rank_any (x : Int) (w : World) : cE 194 #[.int .i64 x] w (.bool (inB x (-5) 5)) := by
 go_enter func194, ntmps194
 go_wp2_with (go_at_call 129; refine (l1In_any _ _ _ _).mono ?_; rintro e w' ⟨rfl, rfl⟩)
 go_ret
 exact ⟨rfl, rfl⟩
theorem specWeightOf_any (r : Int) (w : World) : cE 196 #[.int .i64 r] w (.int .i64 (weightV r)) := by
 cases hb : inB r (-5) 5
 ·rw [weightV_none hb]
  go_enter func196, ntmps196
  go_wp2_with (go_at_call 194; refine (l3Rank_any _ _).mono ?_; rintro e w' ⟨rfl, rfl⟩)
  go_ret
  exact ⟨rfl, rfl⟩
 ·obtain ⟨r0, r1⟩ := inB_of hb
  by_cases h0 : 0 ≤ r
  ·rw [weightV_up hb h0]
   obtain ⟨n, rfl⟩ := Int.eq_ofNat_of_zero_le h0
   rw [alInc]
   go_enter func196, ntmps196
   go_wp2_with (go_at_call 194; refine (l3Rank_any _ _).mono ?_; rintro e w' ⟨rfl, rfl⟩)
   go_loop [0, 3] (fun i s => ∃ k : Nat, k ≤ n ∧ i = .int .i64 ((n : Int) - k) ∧ s = .int .i64 (lightT k)) (fun i _ => (intOf i).toNat)
   case atStart => exact ⟨0, alNzl _, by simp, rfl⟩
   case round =>
    obtain ⟨k, hk, rfl, rfl⟩ := hrel
    by_cases hlt : k < n
    ·obtain ⟨hs, f1, f2⟩ := lightT_step (k := k) (by omega)
     have Hs := hide hs
     clear hs
     generalize lightT k = z at *
     go_wp2_with fail
     go_round
     case rel => exact ⟨k + 1, by omega, by go_num, by rw [uh Hs]⟩
     case measure => exact ms
    ·obtain rfl : k = n := by omega
     go_wp2_with fail
     go_loop [0, 3] (fun i s => i = .int .i64 0 ∧ s = .int .i64 (lightT k)) (fun _ _ => 0)
     case atStart => exact ⟨by simp, rfl⟩
     case round =>
      obtain ⟨rfl, rfl⟩ := hrel
      go_wp2_with fail
      go_ret
      exact ⟨rfl, rfl⟩
  ·rw [weightV_down hb h0]
   obtain ⟨n, hn⟩ := Int.eq_ofNat_of_zero_le (show 0 ≤ -r by omega)
   obtain rfl : r = -(n : Int) := by omega
   rw [show (-(-(n : Int))).toNat = n by omega]
   clear hn
   go_enter func196, ntmps196
   go_wp2_with (go_at_call 194; refine (l3Rank_any _ _).mono ?_; rintro e w' ⟨rfl, rfl⟩)
   go_loop [0, 3] (fun i s => i = .int .i64 (-(n : Int)) ∧ s = .int .i64 1024) (fun _ _ => 0)
   case atStart => exact ⟨rfl, rfl⟩
   case round =>
    obtain ⟨rfl, rfl⟩ := hrel
    go_wp2_with fail
    go_loop [0, 3] (fun i s => ∃ k : Nat, k ≤ n ∧ i = .int .i64 ((k : Int) - n) ∧ s = .int .i64 (heavyT k)) (fun i _ => (-(intOf i)).toNat)
    case atStart => exact ⟨0, alNzl _, by simp, rfl⟩
    case round =>
     obtain ⟨k, hk, rfl, rfl⟩ := hrel
     by_cases hlt : k < n
     ·obtain ⟨hs, f1, f2⟩ := heavyT_step (k := k) (by omega)
      have Hs := hide hs
      clear hs
      generalize heavyT k = z at *
      go_wp2_with fail
      go_round
      case rel => exact ⟨k + 1, by omega, by go_num, by rw [uh Hs]⟩
      case measure => exact ms
     ·obtain rfl : k = n := by omega
      go_wp2_with fail
      go_ret
      exact ⟨rfl, rfl⟩
theorem heavier_any {x y : Int} (h0 : 0 ≤ x) (h1 : x ≤ 100000) (h : x * 5 / 4 = y) (w : World) : cE 332 #[.int .i64 x] w (.int .i64 y) := by
 subst h
 go_enter func332, ntmps332
 go_wp2
 go_ret
 exact ⟨rfl, rfl⟩
theorem lighter_any {x y : Int} (h0 : 0 ≤ x) (h1 : x ≤ 100000) (h : x * 4 / 5 = y) (w : World) : cE 333 #[.int .i64 x] w (.int .i64 y) := by
 subst h
 go_enter func333, ntmps333
 go_wp2
 go_ret
 exact ⟨rfl, rfl⟩
theorem implWeightOf_any (r : Int) (w : World) : cE 331 #[.int .i64 r] w (.int .i64 (weightV r)) := by
 cases hb : inB r (-5) 5
 ·rw [weightV_none hb]
  have hr : r < -5 ∨ 5 < r := by
   by_cases h1 : -5 ≤ r
   ·by_cases h2 : r ≤ 5
    ·rw [inB_t h1 h2] at hb; cases hb
    ·omega
   ·omega
  have e1 : ¬ r = -5 := by omega
  have e2 : ¬ r = -4 := by omega
  have e3 : ¬ r = -3 := by omega
  have e4 : ¬ r = -2 := by omega
  have e5 : ¬ r = -1 := by omega
  have e6 : ¬ r = 0 := by omega
  have e7 : ¬ r = 5 := by omega
  have e8 : ¬ r = 4 := by omega
  have e9 : ¬ r = 3 := by omega
  have e10 : ¬ r = 2 := by omega
  have e11 : ¬ r = 1 := by omega
  clear hb hr
  go_enter func331, ntmps331
  go_wp2_with fail
  go_ret
  exact ⟨rfl, rfl⟩
 ·rcases ranks hb with rfl | rfl | rfl | rfl | rfl | rfl | rfl | rfl | rfl | rfl | rfl
  all_goals
   clear hb
   go_enter func331, ntmps331
   go_wp2_with (first
    | (go_at_call 332; refine (heavier_any (by decide) (by decide) rfl _).mono ?_; rintro e w' ⟨rfl, rfl⟩)
    | (go_at_call 333; refine (lighter_any (by decide) (by decide) rfl _).mono ?_; rintro e w' ⟨rfl, rfl⟩))
   go_ret
   exact ⟨rfl, rfl⟩
end Go.Proofs.YtgdpaigcmoifbaaGreat
