/- Contracts of Share and of its model: the two numbers that are defined here, at every argument of type int64; nothing that was in memory is changed. -/
import Derived.Test.YtkagjopogihnbaaBase
import Derived.Deep.QuietTactic
import Derived.BigQuiet
namespace Go.Proofs.Ytkagjopogihnbaa
open Go.ChangeShapes Go.WideShapes Go.ChangeAt Go.RowKit
set_option linter.unusedVariables false

def okShare (work weight carry : Int) : Bool := inB work 0 1000000000 && (inB weight 1 100000 && inB carry 0 (weight - 1))
def shareN (work weight carry : Int) : Int := if okShare work weight carry then (1024 * work + carry) / weight else -1
def shareL (work weight carry : Int) : Int := if okShare work weight carry then (1024 * work + carry) % weight else 0

theorem okShare_t {a b c : Int} (ha : inB a 0 1000000000 = true) (hb : inB b 1 100000 = true) (hc : inB c 0 (b - 1) = true) : okShare a b c = true := by unfold okShare; simp [ha, hb, hc]
theorem okShare_f {a b c : Int} (h : inB a 0 1000000000 = false ∨ inB b 1 100000 = false ∨ inB c 0 (b - 1) = false) : okShare a b c = false := by unfold okShare; rcases h with h | h | h <;> simp [h]
theorem okShare_of {a b c : Int} (h : okShare a b c = true) : 0 ≤ a ∧ a ≤ 1000000000 ∧ 1 ≤ b ∧ b ≤ 100000 ∧ 0 ≤ c ∧ c < b := by
  unfold okShare at h
  simp only [Bool.and_eq_true] at h
  obtain ⟨h1, h2, h3⟩ := h
  have := inB_of h1
  have := inB_of h2
  have := inB_of h3
  omega
theorem okShare_in {a b c : Int} (a0 : 0 ≤ a) (a1 : a ≤ 1000000000) (b0 : 1 ≤ b) (b1 : b ≤ 100000) (c0 : 0 ≤ c) (c1 : c < b) : okShare a b c = true := okShare_t (inB_t a0 a1) (inB_t b0 b1) (inB_t c0 (by omega))
theorem okShare_out {a b c : Int} (h : a < 0 ∨ 1000000000 < a ∨ b < 1 ∨ 100000 < b ∨ c < 0 ∨ b ≤ c) : okShare a b c = false := by
  cases h' : okShare a b c
  · rfl
  · have := okShare_of h'; omega
theorem share_no {a b c : Int} (h : okShare a b c = false) : shareN a b c = -1 ∧ shareL a b c = 0 := by unfold shareN shareL; simp [h]
theorem share_yes {a b c : Int} (h : okShare a b c = true) : shareN a b c = (1024 * a + c) / b ∧ shareL a b c = (1024 * a + c) % b := by unfold shareN shareL; simp [h]

set_option maxHeartbeats 400000 in
theorem canShare_any (a b c : Int) (w : World) : Calls Try.prog 40 #[.int .i64 a, .int .i64 b, .int .i64 c] w fun e w' => e = .returned (.bool (okShare a b c)) ∧ w' = w := by
  by_cases h1 : 0 ≤ a
  · by_cases h2 : a ≤ 1000000000
    · by_cases h3 : 1 ≤ b
      · by_cases h4 : b ≤ 100000
        · by_cases h5 : 0 ≤ c
          · by_cases h6 : c < b
            · rw [okShare_in h1 h2 h3 h4 h5 h6]
              go_enter Try.func40, Try.ntmps40
              go_wp2
              go_ret
              exact ⟨rfl, rfl⟩
            · rw [okShare_out (by omega)]
              go_enter Try.func40, Try.ntmps40
              go_wp2
              go_ret
              exact ⟨rfl, rfl⟩
          · rw [okShare_out (by omega)]
            go_enter Try.func40, Try.ntmps40
            go_wp2
            go_ret
            exact ⟨rfl, rfl⟩
        · rw [okShare_out (by omega)]
          go_enter Try.func40, Try.ntmps40
          go_wp2
          go_ret
          exact ⟨rfl, rfl⟩
      · rw [okShare_out (by omega)]
        go_enter Try.func40, Try.ntmps40
        go_wp2
        go_ret
        exact ⟨rfl, rfl⟩
    · rw [okShare_out (by omega)]
      go_enter Try.func40, Try.ntmps40
      go_wp2
      go_ret
      exact ⟨rfl, rfl⟩
  · rw [okShare_out (by omega)]
    go_enter Try.func40, Try.ntmps40
    go_wp2
    go_ret
    exact ⟨rfl, rfl⟩

theorem below_drewN (b : Nat) (w : World) (n : Nat) : Below b w (w.drewN n) := ⟨rfl, rfl, rfl, Nat.le_refl _, fun _ _ => rfl⟩

set_option maxHeartbeats 400000 in
theorem implShare_any (a b c : Int) (w : World) : Calls Try.prog 26 #[.int .i64 a, .int .i64 b, .int .i64 c] w fun e w' => e = .returned (.tuple #[.int .i64 (shareN a b c), .int .i64 (shareL a b c)]) ∧ Below w.heap.size w w' := by
  cases h : okShare a b c
  · obtain ⟨h1, h2⟩ := share_no h
    rw [h1, h2]
    go_enter Try.func26, Try.ntmps26
    go_wp2_with (go_at_call 40; refine (canShare_any _ _ _ _).mono ?_; rintro e w' ⟨rfl, rfl⟩)
    go_ret2
    exact ⟨rfl, Below.refl _ _⟩
  · obtain ⟨h1, h2⟩ := share_yes h
    rw [h1, h2]
    clear h1 h2
    obtain ⟨a0, a1, b0, b1, c0, c1⟩ := okShare_of h
    go_enter Try.func26, Try.ntmps26
    go_wp2_with (go_at_call 40; refine (canShare_any _ _ _ _).mono ?_; rintro e w' ⟨rfl, rfl⟩)
    go_quiet (fail)
    go_wp2_with fail
    go_ret2
    exact ⟨rfl, below_drewN _ _ _⟩

set_option maxHeartbeats 400000 in
theorem specShare_any (a b c : Int) (w : World) : Calls Try.prog 31 #[.int .i64 a, .int .i64 b, .int .i64 c] w fun e w' => e = .returned (.tuple #[.int .i64 (shareN a b c), .int .i64 (shareL a b c)]) ∧ Below w.heap.size w w' := by
  cases ha : inB a 0 1000000000
  · obtain ⟨h1, h2⟩ := share_no (c := c) (b := b) (okShare_f (.inl ha))
    rw [h1, h2]
    go_enter Try.func31, Try.ntmps31
    go_wp2_with (first | (go_at_call 43; refine (l1Big_any _ _).mono ?_; rintro e w' ⟨rfl, rfl⟩) | (go_at_call 30; refine (l1In_any _ _ _ _).mono ?_; rintro e w' ⟨rfl, rfl⟩))
    go_ret2
    exact ⟨rfl, Below.refl _ _⟩
  cases hb : inB b 1 100000
  · obtain ⟨h1, h2⟩ := share_no (a := a) (c := c) (okShare_f (.inr (.inl hb)))
    rw [h1, h2]
    go_enter Try.func31, Try.ntmps31
    go_wp2_with (first | (go_at_call 43; refine (l1Big_any _ _).mono ?_; rintro e w' ⟨rfl, rfl⟩) | (go_at_call 30; refine (l1In_any _ _ _ _).mono ?_; rintro e w' ⟨rfl, rfl⟩))
    go_ret2
    exact ⟨rfl, Below.refl _ _⟩
  obtain ⟨b0, b1⟩ := inB_of hb
  cases hc : inB c 0 (b - 1)
  · obtain ⟨h1, h2⟩ := share_no (a := a) (okShare_f (.inr (.inr hc)))
    rw [h1, h2]
    go_enter Try.func31, Try.ntmps31
    go_wp2_with (first | (go_at_call 43; refine (l1Big_any _ _).mono ?_; rintro e w' ⟨rfl, rfl⟩) | (go_at_call 30; refine (l1In_any _ _ _ _).mono ?_; rintro e w' ⟨rfl, rfl⟩))
    go_ret2
    exact ⟨rfl, Below.refl _ _⟩
  · obtain ⟨h1, h2⟩ := share_yes (okShare_t ha hb hc)
    rw [h1, h2]
    clear h1 h2
    obtain ⟨a0, a1⟩ := inB_of ha
    obtain ⟨c0, c1⟩ := inB_of hc
    go_enter Try.func31, Try.ntmps31
    go_wp2_with (first | (go_at_call 43; refine (l1Big_any _ _).mono ?_; rintro e w' ⟨rfl, rfl⟩) | (go_at_call 30; refine (l1In_any _ _ _ _).mono ?_; rintro e w' ⟨rfl, rfl⟩))
    go_quiet (fail)
    go_wp2_with fail
    go_ret2
    exact ⟨rfl, below_drewN _ _ _⟩

end Go.Proofs.Ytkagjopogihnbaa
