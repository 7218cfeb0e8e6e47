/- Contracts of Faded and FadedMany and of their models: each returns the plain number of the text Calc, at every argument of type int64; nothing that was in memory is changed. -/
import Derived.Test.YtfapfpinlkdcmaaCalc
namespace Go.Proofs.Ytfapfpinlkdcmaa
open Go.ChangeShapes Go.WideShapes Go.ChangeAt Go.RowKit
set_option linter.unusedVariables false

theorem pulls_any (x u : Int) (w : World) (h1 : 0 ≤ u) (h2 : u ≤ 1024) (h3 : 0 ≤ x) (h4 : x ≤ 1024) : Calls Try.prog 39 #[.int .i64 x, .int .i64 u] w fun e w' => e = .returned (.int .i64 ((31 * u + x) / 32)) ∧ w' = w := by
  go_enter Try.func39, Try.ntmps39
  go_wp2
  go_ret
  exact ⟨rfl, rfl⟩

set_option maxHeartbeats 400000 in
theorem repeated_any (x u : Int) (n : Nat) (w : World) (h1 : 0 ≤ u) (h2 : u ≤ 1024) (h3 : 0 ≤ x) (h4 : x ≤ 1024) (hn : n ≤ 1000) :
    Calls Try.prog 38 #[.func (Fn.func 39) #[.int .i64 x] #[], .int .i64 u, .int .i64 n] w fun e w' => e = .returned (.int .i64 (fadeN x n u)) ∧ w' = w := by
  go_enter Try.func38, Try.ntmps38
  go_wp2_with fail
  go_loop [1, 8] (fun s i => ∃ k : Nat, k ≤ n ∧ i = .int .i64 k ∧ s = .int .i64 (fadeN x k u)) (fun _ i => n - (intOf i).toNat)
  case atStart => exact ⟨0, Nat.zero_le _, rfl, rfl⟩
  case round =>
    obtain ⟨k, hk, rfl, rfl⟩ := hrel
    obtain ⟨f1, f2⟩ := fadeN_bd x h3 h4 k u h1 h2
    have Hs := hide (fadeN_succ x k u)
    generalize hz : fadeN x k u = z at *
    have Hz := hide hz
    clear hz
    by_cases hlt : k < n
    · go_wp2_with fail
      refine (pulls_any x z _ f1 f2 h3 h4).mono ?_
      rintro e w' ⟨rfl, rfl⟩
      go_wp2_with fail
      go_round
      case rel => exact ⟨k + 1, by omega, by go_num, by rw [unhide Hs]⟩
      case measure => simp [intOf]; omega
    · go_wp2_with fail
      go_ret
      exact ⟨ret_int (by rw [← unhide Hz, show k = n from by omega]), rfl⟩

set_option maxHeartbeats 400000 in
theorem implFadedMany_any (u x n : Int) (w : World) : Calls Try.prog 19 #[.int .i64 u, .int .i64 x, .int .i64 n] w fun e w' => e = .returned (.int .i64 (fadedManyV u x n)) ∧ Below w.heap.size w w' := by
  refine ways3 u x n 0 1024 0 1024 0 1000 ?_ ?_ ?_ ?_
  · intro ha
    have hv : fadedManyV u x n = -1 := by simp [fadedManyV, ha]
    rw [hv]; clear hv
    go_enter Try.func19, Try.ntmps19
    go_wp2_with fail
    refine (two_isUtil u x _ _ rfl).mono ?_
    rintro e w' ⟨rfl, rfl⟩
    go_wp2_with fail
    go_ret
    exact ⟨rfl, (Below.refl _ _).alloc (Nat.le_refl _) _⟩
  · intro ha hb
    have hv : fadedManyV u x n = -1 := by simp [fadedManyV, hb]
    rw [hv]; clear hv
    go_enter Try.func19, Try.ntmps19
    go_wp2_with fail
    refine (two_isUtil u x _ _ rfl).mono ?_
    rintro e w' ⟨rfl, rfl⟩
    go_wp2_with fail
    go_ret
    exact ⟨rfl, (Below.refl _ _).alloc (Nat.le_refl _) _⟩
  · intro ha hb hc
    have hv : fadedManyV u x n = -1 := by simp [fadedManyV, hc]
    rw [hv]; clear hv
    go_enter Try.func19, Try.ntmps19
    go_wp2_with fail
    refine (two_isUtil u x _ _ rfl).mono ?_
    rintro e w' ⟨rfl, rfl⟩
    go_wp2_with fail
    refine (one_isFadings n _ _ (by simp)).mono ?_
    rintro e w' ⟨rfl, rfl⟩
    go_wp2_with fail
    go_ret
    exact ⟨rfl, ((Below.refl _ _).alloc (Nat.le_refl _) _).alloc (by simp) _⟩
  · intro ha hb hc
    have hv : fadedManyV u x n = fadeN x n.toNat u := by simp [fadedManyV, ha, hb, hc]
    rw [hv]; clear hv
    obtain ⟨a0, a1⟩ := inB_of ha
    obtain ⟨b0, b1⟩ := inB_of hb
    obtain ⟨c0, c1⟩ := inB_of hc
    obtain ⟨m, rfl⟩ := Int.eq_ofNat_of_zero_le c0
    rw [Int.toNat_natCast]
    go_enter Try.func19, Try.ntmps19
    go_wp2_with fail
    refine (two_isUtil u x _ _ rfl).mono ?_
    rintro e w' ⟨rfl, rfl⟩
    go_wp2_with fail
    refine (one_isFadings m _ _ (by simp)).mono ?_
    rintro e w' ⟨rfl, rfl⟩
    go_wp2_with fail
    refine (repeated_any x u m _ a0 a1 b0 b1 (by omega)).mono ?_
    rintro e w' ⟨rfl, rfl⟩
    go_wp2_with fail
    go_ret
    exact ⟨rfl, ((Below.refl _ _).alloc (Nat.le_refl _) _).alloc (by simp) _⟩

theorem many_one (u x : Int) : fadedManyV u x 1 = fadedV u x := by
  have h : inB 1 0 1000 = true := inB_t (by omega) (by omega)
  unfold fadedManyV fadedV
  rw [h, Bool.and_true]
  rfl

theorem implFaded_any (u x : Int) (w : World) : Calls Try.prog 17 #[.int .i64 u, .int .i64 x] w fun e w' => e = .returned (.int .i64 (fadedV u x)) ∧ Below w.heap.size w w' := by
  rw [← many_one]
  go_enter Try.func17, Try.ntmps17
  go_wp2_with fail
  refine (implFadedMany_any u x 1 _).mono ?_
  rintro e w' ⟨rfl, hb⟩
  go_wp2_with fail
  go_ret
  exact ⟨rfl, hb⟩

theorem ways2 {P : Prop} (a b lo hi : Int) (k1 : inB a lo hi = false → P) (k2 : inB a lo hi = true → inB b lo hi = false → P) (k4 : inB a lo hi = true → inB b lo hi = true → P) : P := by
  cases ha : inB a lo hi
  · exact k1 ha
  · cases hb : inB b lo hi
    · exact k2 ha hb
    · exact k4 ha hb

set_option maxHeartbeats 400000 in
theorem specFaded_any (u x : Int) (w : World) : Calls Try.prog 20 #[.int .i64 u, .int .i64 x] w fun e w' => e = .returned (.int .i64 (fadedV u x)) ∧ w' = w := by
  refine ways2 u x 0 1024 ?_ ?_ ?_
  · intro ha
    have hv : fadedV u x = -1 := by simp [fadedV, ha]
    rw [hv]; clear hv
    go_enter Try.func20, Try.ntmps20
    go_wp2_with (go_at_call 40; refine (l1Force_any _ _).mono ?_; rintro e w' ⟨rfl, rfl⟩)
    go_ret
    exact ⟨rfl, rfl⟩
  · intro ha hb
    have hv : fadedV u x = -1 := by simp [fadedV, hb]
    rw [hv]; clear hv
    go_enter Try.func20, Try.ntmps20
    go_wp2_with (go_at_call 40; refine (l1Force_any _ _).mono ?_; rintro e w' ⟨rfl, rfl⟩)
    go_ret
    exact ⟨rfl, rfl⟩
  · intro ha hb
    have hv : fadedV u x = (31 * u + x) / 32 := by simp [fadedV, ha, hb]
    rw [hv]; clear hv
    obtain ⟨a0, a1⟩ := inB_of ha
    obtain ⟨b0, b1⟩ := inB_of hb
    go_enter Try.func20, Try.ntmps20
    go_wp2_with (go_at_call 40; refine (l1Force_any _ _).mono ?_; rintro e w' ⟨rfl, rfl⟩)
    go_ret
    exact ⟨rfl, rfl⟩

set_option maxHeartbeats 400000 in
theorem specFadedMany_any (u x n : Int) (w : World) : Calls Try.prog 21 #[.int .i64 u, .int .i64 x, .int .i64 n] w fun e w' => e = .returned (.int .i64 (fadedManyV u x n)) ∧ w' = w := by
  refine ways3 u x n 0 1024 0 1024 0 1000 ?_ ?_ ?_ ?_
  · intro ha
    have hv : fadedManyV u x n = -1 := by simp [fadedManyV, ha]
    rw [hv]; clear hv
    go_enter Try.func21, Try.ntmps21
    go_wp2_with (first | (go_at_call 40; refine (l1Force_any _ _).mono ?_; rintro e w' ⟨rfl, rfl⟩) | (go_at_call 30; refine (l1In_any _ _ _ _).mono ?_; rintro e w' ⟨rfl, rfl⟩))
    go_ret
    exact ⟨rfl, rfl⟩
  · intro ha hb
    have hv : fadedManyV u x n = -1 := by simp [fadedManyV, hb]
    rw [hv]; clear hv
    go_enter Try.func21, Try.ntmps21
    go_wp2_with (first | (go_at_call 40; refine (l1Force_any _ _).mono ?_; rintro e w' ⟨rfl, rfl⟩) | (go_at_call 30; refine (l1In_any _ _ _ _).mono ?_; rintro e w' ⟨rfl, rfl⟩))
    go_ret
    exact ⟨rfl, rfl⟩
  · intro ha hb hc
    have hv : fadedManyV u x n = -1 := by simp [fadedManyV, hc]
    rw [hv]; clear hv
    go_enter Try.func21, Try.ntmps21
    go_wp2_with (first | (go_at_call 40; refine (l1Force_any _ _).mono ?_; rintro e w' ⟨rfl, rfl⟩) | (go_at_call 30; refine (l1In_any _ _ _ _).mono ?_; rintro e w' ⟨rfl, rfl⟩))
    go_ret
    exact ⟨rfl, rfl⟩
  · intro ha hb hc
    have hv : fadedManyV u x n = fadeN x n.toNat u := by simp [fadedManyV, ha, hb, hc]
    rw [hv]; clear hv
    obtain ⟨a0, a1⟩ := inB_of ha
    obtain ⟨b0, b1⟩ := inB_of hb
    obtain ⟨c0, c1⟩ := inB_of hc
    obtain ⟨m, rfl⟩ := Int.eq_ofNat_of_zero_le c0
    rw [Int.toNat_natCast]
    go_enter Try.func21, Try.ntmps21
    go_wp2_with (first | (go_at_call 40; refine (l1Force_any _ _).mono ?_; rintro e w' ⟨rfl, rfl⟩) | (go_at_call 30; refine (l1In_any _ _ _ _).mono ?_; rintro e w' ⟨rfl, rfl⟩))
    go_loop [0, 2] (fun s i => ∃ k : Nat, k ≤ m ∧ i = .int .i64 ((m : Int) - k) ∧ s = .int .i64 (fadeN x k u)) (fun _ i => (intOf i).toNat)
    case atStart => exact ⟨0, Nat.zero_le _, by simp, rfl⟩
    case round =>
      obtain ⟨k, hk, rfl, rfl⟩ := hrel
      obtain ⟨f1, f2⟩ := fadeN_bd x b0 b1 k u a0 a1
      have Hs := hide (fadeN_succ x k u)
      generalize hz : fadeN x k u = z at *
      have Hz := hide hz
      clear hz
      by_cases hlt : k < m
      · go_wp2_with fail
        go_round
        case rel => exact ⟨k + 1, by omega, by go_num, by rw [unhide Hs]⟩
        case measure => simp [intOf]; omega
      · go_wp2_with fail
        go_ret
        exact ⟨ret_int (by rw [← unhide Hz, show k = m from by omega]), rfl⟩
end Go.Proofs.Ytfapfpinlkdcmaa
