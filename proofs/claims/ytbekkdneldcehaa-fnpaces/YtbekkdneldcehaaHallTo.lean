/- Contracts of the laws' own helpers over rooms and halls: how big they are, their copies in memory of their own, and that two that read alike are alike. Conditions: the slices can be read; what is copied is no longer than 2^20. -/
import Derived.Test.YtbekkdneldcehaaHallSpec
namespace Go.Proofs.Ytbekkdneldcehaa
open Go.ChangeShapes Go.WideShapes Go.ChangeAt Go.RowKit Go.Sort
set_option linter.unusedVariables false

/-! ### How big -/
theorem szPaceS_any (a : Option Addr) (n cap : Nat) (left : Int) (hn : n ≤ 9223372036854775807) (h0 : 0 ≤ left) (h1 : left ≤ 1048576) (w : World) :
    Calls Try.prog 44 #[.slice a n cap, .int .i64 left] w fun e w' => e = .returned (.int .i64 (szV n left)) ∧ w' = w := by
  by_cases h : left - n < 0
  all_goals
    go_enter Try.func44, Try.ntmps44
    go_wp2
    go_ret
    exact ⟨ret_int (by first | exact (szV_f (by omega)).symm | exact (szV_t (by omega)).symm), rfl⟩

theorem szRoom_any (b : Int) (a : Option Addr) (n cap : Nat) (left : Int) (hn : n ≤ 9223372036854775807) (h0 : 0 ≤ left) (h1 : left ≤ 1048576) (w : World) :
    Calls Try.prog 19 #[.agg #[.int .i64 b, .slice a n cap], .int .i64 left] w fun e w' => e = .returned (.int .i64 (szV n left)) ∧ Below w.heap.size w w' := by
  by_cases h : left - n < 0
  · go_enter Try.func19, Try.ntmps19
    go_wp2_with fail
    refine (szPaceS_any _ _ _ _ hn h0 h1 _).mono ?_
    rw [szV_f (by omega)]
    rintro e w' ⟨rfl, rfl⟩
    go_wp2_with fail
    go_ret
    exact ⟨ret_int (szV_f (by omega)).symm, (Below.refl _ _).alloc (Nat.le_refl _) _⟩
  · go_enter Try.func19, Try.ntmps19
    go_wp2_with fail
    refine (szPaceS_any _ _ _ _ hn h0 h1 _).mono ?_
    rw [szV_t (by omega)]
    rintro e w' ⟨rfl, rfl⟩
    go_wp2_with fail
    go_ret
    exact ⟨ret_int (szV_t (by omega)).symm, (Below.refl _ _).alloc (Nat.le_refl _) _⟩


/-! ### Two that read alike -/
set_option maxHeartbeats 1000000 in
theorem eqPace_yes (f c : Int) (w : World) :
    Calls Try.prog 57 #[.agg #[.int .i64 f, .int .i64 c], .agg #[.int .i64 f, .int .i64 c]] w fun e w' => e = .returned (.bool true) ∧ Below w.heap.size w w' := by
  go_enter Try.func57, Try.ntmps57
  go_wp2_with fail
  go_ret
  exact ⟨rfl, ((Below.refl _ _).alloc (Nat.le_refl _) _).alloc (by simp) _⟩

set_option maxHeartbeats 1000000 in
theorem eqPaceS_yes {w : World} {v u : Value} {ps : List PaceV} (hv : IsPaces w v ps) (hu : IsPaces w u ps) :
    Calls Try.prog 46 #[v, u] w fun e w' => e = .returned (.bool true) ∧ Below w.heap.size w w' := by
  obtain ⟨a, cap, rfl, hc, hm, hr⟩ := hv
  obtain ⟨a', cap', rfl, hc', hm', hr'⟩ := hu
  have Hr := hide hr
  have Hr' := hide hr'
  clear hr hr'
  go_enter Try.func46, Try.ntmps46
  go_wp2_with fail
  go_loopw [5] (fun i wr => ∃ k : Nat, k ≤ ps.length ∧ i = .int .i64 k ∧ Below w.heap.size w wr) (fun i _ => ps.length - (intOf i).toNat)
  case atStart => exact ⟨0, Nat.zero_le _, rfl, Below.refl _ _⟩
  case round =>
    obtain ⟨k, hk, rfl, hb⟩ := hrel
    have Hb := hide hb
    by_cases hlt : k < ps.length
    · rcases unhide Hr with h0 | ⟨b, off, rfl, hbw, hcl⟩
      · rw [h0] at hlt; simp at hlt
      rcases unhide Hr' with h0 | ⟨b', off', rfl, hbw', hcl'⟩
      · rw [h0] at hlt; simp at hlt
      obtain ⟨c0, c1⟩ := hcl k hlt
      obtain ⟨d0, d1⟩ := hcl' k hlt
      rw [← hb.cell (p := ⟨b, off + k * 2, none⟩) hbw] at c0
      rw [← hb.cell (p := ⟨b, off + k * 2 + 1, none⟩) hbw] at c1
      rw [← hb.cell (p := ⟨b', off' + k * 2, none⟩) hbw'] at d0
      rw [← hb.cell (p := ⟨b', off' + k * 2 + 1, none⟩) hbw'] at d1
      generalize (paceAt ps k).1 = f at *
      generalize (paceAt ps k).2 = c at *
      have k0 := cell_regrown c0
      have k1 := cell_regrown c1
      have k2 := cell_regrown d0
      have k3 := cell_regrown d1
      clear hcl hcl' hb c0 c1 d0 d1
      go_wp2_with fail
      refine wp_region_quiet_below (by kernel_rfl) (by kernel_rfl) ?_
      repeat (go_big_quiet_step (exact Calls.regrown_of (eqPace_yes _ _ _)))
      refine wpQuiet_nil ?_
      intro _ hw'
      obtain ⟨⟨dq, osq⟩, hw''⟩ := hw'
      subst hw''
      go_wp2_with fail
      go_roundw
      case rel => exact ⟨k + 1, by omega, by go_num, (unhide Hb).trans ((below_regrown _ _ _).mono (unhide Hb).size)⟩
      case measure => simp [intOf]; omega
    · go_wp2_with fail
      go_ret
      exact ⟨rfl, hb⟩

set_option maxHeartbeats 1000000 in
theorem eqRoom_yes {w : World} {v u : Value} {ps : List PaceV} (rb : Int) (hv : IsPaces w v ps) (hu : IsPaces w u ps) :
    Calls Try.prog 21 #[.agg #[.int .i64 rb, v], .agg #[.int .i64 rb, u]] w fun e w' => e = .returned (.bool true) ∧ Below w.heap.size w w' := by
  have Hv := hide hv
  have Hu := hide hu
  obtain ⟨a, cap, rfl, hc, hm, hr⟩ := hv
  obtain ⟨a', cap', rfl, hc', hm', hr'⟩ := hu
  clear hr hr'
  go_enter Try.func21, Try.ntmps21
  go_wp2_with fail
  refine (eqPaceS_yes ((unhide Hv).below (((Below.refl _ _).alloc (Nat.le_refl _) _).alloc (by simp) _)) ((unhide Hu).below (((Below.refl _ _).alloc (Nat.le_refl _) _).alloc (by simp) _))).mono ?_
  rintro e w1 ⟨rfl, hb⟩
  have Hb := hide hb
  clear hb
  go_wp2_with fail
  go_ret
  exact ⟨rfl, (((Below.refl _ _).alloc (Nat.le_refl _) _).alloc (by simp) _).trans ((unhide Hb).mono (by simp; omega))⟩


end Go.Proofs.Ytbekkdneldcehaa
