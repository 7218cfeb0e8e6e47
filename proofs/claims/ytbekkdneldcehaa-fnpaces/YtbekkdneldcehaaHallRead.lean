/- Contracts of RoomOk and HallOk, the program's and the model's, and of what they call: each returns what the lists say and writes into no memory that was there. Condition: the slices can be read. -/
import Derived.Test.YtbekkdneldcehaaOwnKit
import Derived.Lib.QuietBelow
namespace Go.Proofs.Ytbekkdneldcehaa
open Go.ChangeShapes Go.WideShapes Go.ChangeAt Go.RowKit Go.Sort
set_option linter.unusedVariables false

theorem isPace_any (f c : Int) (w : World) : Calls Try.prog 59 #[.agg #[.int .i64 f, .int .i64 c]] w fun e w' => e = .returned (.bool (paceB (f, c))) ∧ Below w.heap.size w w' := by
  cases h1 : inB f 1 1024
  · go_enter Try.func59, Try.ntmps59
    go_wp2_with fail
    refine (liesFrom_any _ _ _ _).mono ?_
    rintro e w' ⟨rfl, rfl⟩
    go_wp2_with fail
    go_ret
    exact ⟨ret_bool (by unfold paceB; simp [h1]), (Below.refl _ _).alloc (Nat.le_refl _) _⟩
  · go_enter Try.func59, Try.ntmps59
    go_wp2_with fail
    refine (liesFrom_any _ _ _ _).mono ?_
    rintro e w' ⟨rfl, rfl⟩
    go_wp2_with fail
    refine (liesFrom_any _ _ _ _).mono ?_
    rintro e w' ⟨rfl, rfl⟩
    go_wp2_with fail
    go_ret
    exact ⟨ret_bool (by unfold paceB; simp [h1]), (Below.refl _ _).alloc (Nat.le_refl _) _⟩

theorem isAbove_any (f c f' c' : Int) (w : World) : Calls Try.prog 60 #[.agg #[.int .i64 f, .int .i64 c], .agg #[.int .i64 f', .int .i64 c']] w fun e w' => e = .returned (.bool (aboveB (f, c) (f', c'))) ∧ Below w.heap.size w w' := by
  by_cases h1 : f' < f
  · go_enter Try.func60, Try.ntmps60
    go_wp2_with fail
    all_goals
      go_ret
      exact ⟨ret_bool (by unfold aboveB; simp [h1]), ((Below.refl _ _).alloc (Nat.le_refl _) _).alloc (by simp) _⟩
  · go_enter Try.func60, Try.ntmps60
    go_wp2_with fail
    all_goals
      go_ret
      exact ⟨ret_bool (by unfold aboveB; simp; omega), ((Below.refl _ _).alloc (Nat.le_refl _) _).alloc (by simp) _⟩

theorem stepB_p {ps : List PaceV} {k : Nat} {p : PaceV} (hp : paceAt ps k = p) (h : paceB p = false) : stepB ps k = false := by unfold stepB; rw [hp]; simp [h]
theorem stepB_0 {ps : List PaceV} {p : PaceV} (hp : paceAt ps 0 = p) (h : paceB p = true) : stepB ps 0 = true := by unfold stepB; rw [hp]; simp [h]
theorem stepB_s {ps : List PaceV} {k : Nat} {p q : PaceV} (hp : paceAt ps (k + 1) = p) (hq : paceAt ps k = q) (h : paceB p = true) : stepB ps (k + 1) = aboveB p q := by unfold stepB; simp [hp, hq, h]

set_option maxHeartbeats 1000000 in
theorem pacesOk_any {w : World} {v : Value} {ps : List PaceV} (h : IsPaces w v ps) :
    Calls Try.prog 51 #[v] w fun e w' => e = .returned (.bool (pacesB ps)) ∧ Below w.heap.size w w' := by
  obtain ⟨a, cap, rfl, hc, hm, hr⟩ := h
  have Hr := hide hr
  clear hr
  go_enter Try.func51, Try.ntmps51
  go_wp2_with fail
  go_loopw [7] (fun i wr => ∃ k : Nat, k ≤ ps.length ∧ i = .int .i64 k ∧ (∀ j, j < k → stepB ps j = true) ∧ Below w.heap.size w wr) (fun i _ => ps.length - (intOf i).toNat)
  case atStart => exact ⟨0, Nat.zero_le _, rfl, fun j hj => by omega, Below.refl _ _⟩
  case round =>
    obtain ⟨k, hk, rfl, hst, hb⟩ := hrel
    have Hst := hide hst
    have Hb := hide hb
    clear hst
    by_cases hlt : k < ps.length
    · rcases unhide Hr with h0 | ⟨b, off, rfl, hbw, hcl⟩
      · rw [h0] at hlt; simp at hlt
      have hbr : b < wr.heap.size := Nat.lt_of_lt_of_le hbw hb.size
      have hne : b ≠ wr.heap.size := Nat.ne_of_lt hbr
      obtain ⟨c0, c1⟩ := hcl k hlt
      rw [← hb.cell (p := ⟨b, off + k * 2, none⟩) hbw] at c0
      rw [← hb.cell (p := ⟨b, off + k * 2 + 1, none⟩) hbw] at c1
      generalize hp : paceAt ps k = p at c0 c1
      have Hp := hide hp
      clear hp
      obtain ⟨f, c⟩ := p
      simp only at c0 c1
      have d0 : (wr.alloc (.cells #[.int .i64 f, .int .i64 c] 34)).cell? ⟨wr.heap.size, 0, none⟩ = some (.int .i64 f) := by simp
      have d1 : (wr.alloc (.cells #[.int .i64 f, .int .i64 c] 34)).cell? ⟨wr.heap.size, 1, none⟩ = some (.int .i64 c) := by simp
      have k0 := cell_regrown d0
      have k1 := cell_regrown d1
      clear d0 d1
      cases hpb : paceB (f, c)
      · clear hcl
        go_wp2_with fail
        refine wp_region_quiet_below (by kernel_rfl) (by kernel_rfl) ?_
        repeat (go_big_quiet_step (first | exact Calls.regrown_of (isPace_any _ _ _) | exact Calls.regrown_of (isAbove_any _ _ _ _ _)))
        refine wpQuiet_nil ?_
        intro _ hw'
        obtain ⟨⟨dq, osq⟩, hw''⟩ := hw'
        subst hw''
        go_wp2_with fail
        go_ret
        exact ⟨ret_bool (pacesB_f hlt (stepB_p (unhide Hp) hpb)).symm, (unhide Hb).trans (((Below.refl _ _).alloc (unhide Hb).size _).trans ((below_regrown _ _ _).mono (by simp; have := (unhide Hb).size; omega)))⟩
      · by_cases hz : 0 < k
        · have hd : decide (0 < k) = true := decide_eq_true hz
          obtain ⟨e0, e1⟩ := hcl (k - 1) (by omega)
          rw [← hb.cell (p := ⟨b, off + (k - 1) * 2, none⟩) hbw] at e0
          rw [← hb.cell (p := ⟨b, off + (k - 1) * 2 + 1, none⟩) hbw] at e1
          generalize hq : paceAt ps (k - 1) = q at e0 e1
          have Hq := hide hq
          clear hq
          obtain ⟨f', c'⟩ := q
          simp only at e0 e1
          have m0 := cell_regrown (w := wr.alloc (.cells #[.int .i64 f, .int .i64 c] 34)) (a := ⟨b, off + (k - 1) * 2, none⟩) (v := .int .i64 f') (by rw [World.cell?_alloc_old _ _ _ hne]; exact e0)
          have m1 := cell_regrown (w := wr.alloc (.cells #[.int .i64 f, .int .i64 c] 34)) (a := ⟨b, off + (k - 1) * 2 + 1, none⟩) (v := .int .i64 c') (by rw [World.cell?_alloc_old _ _ _ hne]; exact e1)
          clear hcl e0 e1
          cases hab : aboveB (f, c) (f', c')
          all_goals
            go_wp2_with fail
            refine wp_region_quiet_below (by kernel_rfl) (by kernel_rfl) ?_
            repeat (go_big_quiet_step (first | exact Calls.regrown_of (isPace_any _ _ _) | exact Calls.regrown_of (isAbove_any _ _ _ _ _)))
            refine wpQuiet_nil ?_
            intro _ hw'
            obtain ⟨⟨dq, osq⟩, hw''⟩ := hw'
            subst hw''
            go_wp2_with fail
          · go_ret
            exact ⟨ret_bool (pacesB_f hlt (by obtain ⟨m, rfl⟩ : ∃ m, k = m + 1 := ⟨k - 1, by omega⟩; rw [stepB_s (unhide Hp) (unhide Hq) hpb]; exact hab)).symm, (unhide Hb).trans (((Below.refl _ _).alloc (unhide Hb).size _).trans ((below_regrown _ _ _).mono (by simp; have := (unhide Hb).size; omega)))⟩
          · have hs : stepB ps k = true := by obtain ⟨m, rfl⟩ : ∃ m, k = m + 1 := ⟨k - 1, by omega⟩; rw [stepB_s (unhide Hp) (unhide Hq) hpb]; exact hab
            go_roundw
            case rel => exact ⟨k + 1, by omega, by go_num, next_all (unhide Hst) hs, (unhide Hb).trans (((Below.refl _ _).alloc (unhide Hb).size _).trans ((below_regrown _ _ _).mono (by simp; have := (unhide Hb).size; omega)))⟩
            case measure => simp [intOf]; omega
        · obtain rfl : k = 0 := by omega
          simp only [Nat.zero_mul, Nat.add_zero] at c0 c1
          clear hcl hz
          go_wp2_with fail
          refine wp_region_quiet_below (by kernel_rfl) (by kernel_rfl) ?_
          repeat (go_big_quiet_step (first | exact Calls.regrown_of (isPace_any _ _ _) | exact Calls.regrown_of (isAbove_any _ _ _ _ _)))
          refine wpQuiet_nil ?_
          intro _ hw'
          obtain ⟨⟨dq, osq⟩, hw''⟩ := hw'
          subst hw''
          go_wp2_with fail
          go_roundw
          case rel => exact ⟨1, by omega, by go_num, next_all (unhide Hst) (stepB_0 (unhide Hp) hpb), (unhide Hb).trans (((Below.refl _ _).alloc (unhide Hb).size _).trans ((below_regrown _ _ _).mono (by simp; have := (unhide Hb).size; omega)))⟩
          case measure => simp [intOf]; omega
    · obtain rfl : k = ps.length := by omega
      go_wp2_with fail
      go_ret
      exact ⟨ret_bool (pacesB_t (unhide Hst)).symm, hb⟩

end Go.Proofs.Ytbekkdneldcehaa
