/- The walk of the law FnFaded: at every row of bytes it returns true and changes nothing that was in memory; no condition but that the bytes can be read. -/
import Derived.Test.YtfapfpinlkdcmaaFade
import Derived.Test.YtfapfpinlkdcmaaDraw1
import Derived.Deep.DeepCutAuto
namespace Go.Proofs.Ytfapfpinlkdcmaa
open Go.ChangeShapes Go.WideShapes Go.ChangeAt Go.RowKit Draw
set_option linter.unusedVariables false

theorem implFaded_v {u x f : Int} (h : fadedV u x = f) (w : World) : Calls Try.prog 17 #[.int .i64 u, .int .i64 x] w fun e w' => e = .returned (.int .i64 f) ∧ Below w.heap.size w w' := by
  rw [← h]; exact implFaded_any u x w
theorem specFaded_v {u x f : Int} (h : fadedV u x = f) (w : World) : Calls Try.prog 20 #[.int .i64 u, .int .i64 x] w fun e w' => e = .returned (.int .i64 f) ∧ w' = w := by
  rw [← h]; exact specFaded_any u x w
theorem implFadedMany_v {u x n f : Int} (h : fadedManyV u x n = f) (w : World) : Calls Try.prog 19 #[.int .i64 u, .int .i64 x, .int .i64 n] w fun e w' => e = .returned (.int .i64 f) ∧ Below w.heap.size w w' := by
  rw [← h]; exact implFadedMany_any u x n w
theorem specFadedMany_v {u x n f : Int} (h : fadedManyV u x n = f) (w : World) : Calls Try.prog 21 #[.int .i64 u, .int .i64 x, .int .i64 n] w fun e w' => e = .returned (.int .i64 f) ∧ w' = w := by
  rw [← h]; exact specFadedMany_any u x n w

theorem notIn {x lo hi : Int} (h : inB x lo hi = false) : x < lo ∨ hi < x := by
  by_cases h1 : lo ≤ x
  · by_cases h2 : x ≤ hi
    · rw [inB_t h1 h2] at h; cases h
    · omega
  · omega

/-- FadedMany is below 0, or n is 0, or it is the one before, faded once more. -/
theorem manyWays (v y n : Int) : fadedManyV v y n = -1 ∨ (0 ≤ fadedManyV v y n ∧ n ≤ 0) ∨ (0 ≤ fadedManyV v y n ∧ 0 < n ∧ n ≤ 1000 ∧ fadedV (fadedManyV v y (n - 1)) y = fadedManyV v y n) := by
  cases ha : inB v 0 1024
  · exact .inl (by simp [fadedManyV, ha])
  cases hb : inB y 0 1024
  · exact .inl (by simp [fadedManyV, hb])
  cases hc : inB n 0 1000
  · exact .inl (by simp [fadedManyV, hc])
  obtain ⟨a0, a1⟩ := inB_of ha
  obtain ⟨b0, b1⟩ := inB_of hb
  obtain ⟨c0, c1⟩ := inB_of hc
  have hv : fadedManyV v y n = fadeN y n.toNat v := by simp [fadedManyV, ha, hb, hc]
  obtain ⟨f0, f1⟩ := fadeN_bd y b0 b1 n.toNat v a0 a1
  by_cases hn : n ≤ 0
  · exact .inr (.inl ⟨by rw [hv]; exact f0, hn⟩)
  · have hc' : inB (n - 1) 0 1000 = true := inB_t (by omega) (by omega)
    have hv' : fadedManyV v y (n - 1) = fadeN y (n - 1).toNat v := by simp [fadedManyV, ha, hb, hc']
    obtain ⟨g0, g1⟩ := fadeN_bd y b0 b1 (n - 1).toNat v a0 a1
    refine .inr (.inr ⟨by rw [hv]; exact f0, by omega, c1, ?_⟩)
    rw [hv, hv']
    have hs := fadeN_succ y (n - 1).toNat v
    rw [show (n - 1).toNat + 1 = n.toNat from by omega] at hs
    rw [hs]
    generalize fadeN y (n - 1).toNat v = g at *
    simp only [fadedV, inB_t g0 g1, hb, Bool.and_true, if_true]

theorem fadedWays (u x : Int) : (fadedV u x = -1 ∧ u < 0) ∨ (fadedV u x = -1 ∧ 0 ≤ u ∧ x < 0) ∨ (fadedV u x = -1 ∧ 0 ≤ u ∧ 0 ≤ x ∧ 1024 < u) ∨ (fadedV u x = -1 ∧ 0 ≤ u ∧ 0 ≤ x ∧ u ≤ 1024 ∧ 1024 < x)
    ∨ (0 ≤ fadedV u x ∧ u ≤ x ∧ u ≤ fadedV u x ∧ fadedV u x ≤ x) ∨ (0 ≤ fadedV u x ∧ x < u ∧ fadedV u x < u ∧ x ≤ fadedV u x) := by
  cases ha : inB u 0 1024
  · have hv : fadedV u x = -1 := by simp [fadedV, ha]
    have := notIn ha
    omega
  cases hb : inB x 0 1024
  · have hv : fadedV u x = -1 := by simp [fadedV, hb]
    have := notIn hb
    omega
  obtain ⟨a0, a1⟩ := inB_of ha
  obtain ⟨b0, b1⟩ := inB_of hb
  have hv : fadedV u x = (31 * u + x) / 32 := by simp [fadedV, ha, hb]
  omega

set_option maxRecDepth 100000 in
set_option maxHeartbeats 2000000 in
theorem walkFnFaded (a0 : Option Addr) (len0 cap0 : Nat) (z0 : List Int) (w : World) (w0 : IsRow .u8 w a0 len0 cap0 z0) :
    Calls Try.prog 4 #[.slice a0 len0 cap0] w fun e w' => e = .returned (.bool true) ∧ Below w.heap.size w w' := by
  by_cases hbig : 4096 < len0
  · go_enter Try.func4, Try.ntmps4
    go_wp2_with fail
    refine (big_yes _ _ _ _ hbig).mono ?_
    rintro e w' ⟨rfl, rfl⟩
    go_wp2_with fail
    go_ret
    exact ⟨rfl, Below.refl _ _⟩
  have Hr := hide (row_of w0 (by omega))
  clear w0
  go_enter Try.func4, Try.ntmps4
  go_wp2_with fail
  refine (big_no _ _ _ _ (by omega)).mono ?_
  rintro e w' ⟨rfl, hw⟩
  subst w'
  go_wp2_with fail
  refine (DrawFaded_any _ _ _ _ (unhide Hr)).mono ?_
  rintro e w1 ⟨u, x, rfl, b1⟩
  have Hb1 := hide b1
  clear b1
  obtain ⟨f, hf⟩ : ∃ f, fadedV u x = f := ⟨_, rfl⟩
  have Hf := hide hf
  clear hf
  go_wp2_with fail
  refine (implFaded_v (unhide Hf) _).mono ?_
  rintro e w2 ⟨rfl, b2⟩
  have Hb2 := hide ((unhide Hb1).trans (b2.mono (unhide Hb1).size))
  clear b2 Hb1
  go_wp2_with fail
  refine (DrawFadedMany_any _ _ _ _ (row_later (unhide Hr) (unhide Hb2))).mono ?_
  rintro e w3 ⟨v, y, n, rfl, b3⟩
  have Hb3 := hide ((unhide Hb2).trans (b3.mono (unhide Hb2).size))
  clear b3 Hb2
  obtain ⟨g, hg⟩ : ∃ g, fadedManyV v y n = g := ⟨_, rfl⟩
  have Hg := hide hg
  clear hg
  go_wp2_with fail
  refine (implFadedMany_v (unhide Hg) _).mono ?_
  rintro e w4 ⟨rfl, b4⟩
  have Hb4 := hide ((unhide Hb3).trans (b4.mono (unhide Hb3).size))
  clear b4 Hb3
  go_wp2_with fail
  refine (specFaded_v (unhide Hf) _).mono ?_
  rintro e w' ⟨rfl, hw⟩
  subst w'
  go_wp2_with fail
  refine (specFadedMany_v (unhide Hg) _).mono ?_
  rintro e w' ⟨rfl, hw⟩
  subst w'
  have hm := manyWays v y n
  have hq := fadedWays u x
  rw [unhide Hf] at hq
  rw [unhide Hg] at hm
  have HM := hide hm
  have HQ := hide hq
  clear hm hq Hr
  go_upto_region 9 with fail
  go_cut [59] (fun s wc => s = .bool false ∧ Below w.heap.size w wc)
  case first =>
    rcases unhide HM with rfl | ⟨m1, m2⟩ | ⟨m1, m2, m3, m4⟩
    · go_wp2_with fail
      go_meet
      exact ⟨rfl, unhide Hb4⟩
    · go_wp2_with fail
      go_meet
      exact ⟨rfl, unhide Hb4⟩
    · have HG := hide m4
      clear m4
      obtain ⟨t, ht⟩ : ∃ t, fadedManyV v y (n - 1) = t := ⟨_, rfl⟩
      have Ht := hide ht
      clear ht
      have HG' : Hid (fadedV t y = g) := by unfold Hid; rw [← unhide Ht]; exact unhide HG
      clear HG
      go_wp2_with fail
      refine (implFadedMany_v (unhide Ht) _).mono ?_
      rintro e w5 ⟨rfl, b5⟩
      have Hb5 := hide ((unhide Hb4).trans (b5.mono (unhide Hb4).size))
      clear b5
      go_wp2_with fail
      refine (implFaded_v (unhide HG') _).mono ?_
      rintro e w6 ⟨rfl, b6⟩
      have Hb6 := hide ((unhide Hb5).trans (b6.mono (unhide Hb5).size))
      clear b6
      go_wp2_with fail
      go_meet
      exact ⟨rfl, unhide Hb6⟩
  case rest =>
    obtain ⟨rfl, hwc⟩ := hcut
    have Hw := hide hwc
    clear hwc HM
    rcases unhide HQ with ⟨rfl, q1⟩ | ⟨rfl, q1, q2⟩ | ⟨rfl, q1, q2, q3⟩ | ⟨rfl, q1, q2, q3, q4⟩ | ⟨q1, q2, q3, q4⟩ | ⟨q1, q2, q3, q4⟩
    all_goals
      clear HQ
      go_wp2_with fail
      go_ret
      exact ⟨rfl, unhide Hw⟩
end Go.Proofs.Ytfapfpinlkdcmaa
