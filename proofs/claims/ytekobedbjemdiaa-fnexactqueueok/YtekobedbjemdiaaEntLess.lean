/- The exact laws on EntryLess and QueueOk: whatever is handed in, the program answers as its model and leaves it as it was. No condition but that what is handed in can be read. -/
import Derived.Test.YtekobedbjemdiaaEntTo
import Derived.Test.YtekobedbjemdiaaEntFirst
namespace Go.Proofs.Ytekobedbjemdiaa
open Go.ChangeShapes Go.WideShapes Go.ChangeAt Go.RowKit Go.Sort
set_option linter.unusedVariables false

set_option maxHeartbeats 4000000 in
theorem walkFnExactEntryLess (a b c d : Int) (w : World) :
    Calls Try.prog 5 #[.agg #[.int .i64 a, .int .i64 b], .agg #[.int .i64 c, .int .i64 d]] w fun e w' => e = .returned (.bool true) ∧ Below w.heap.size w w' := by
  generalize hW : (w.alloc (.cells #[.int .i64 a, .int .i64 b] 42)).alloc (.cells #[.int .i64 c, .int .i64 d] 42) = W
  have d0 : W.cell? ⟨w.heap.size, 0, none⟩ = some (.int .i64 a) := by rw [← hW]; simp
  have d1 : W.cell? ⟨w.heap.size, 1, none⟩ = some (.int .i64 b) := by rw [← hW]; simp
  have d2 : W.cell? ⟨w.heap.size + 1, 0, none⟩ = some (.int .i64 c) := by rw [← hW]; simp
  have d3 : W.cell? ⟨w.heap.size + 1, 1, none⟩ = some (.int .i64 d) := by rw [← hW]; simp
  have HB : Hid (Below w.heap.size w W) := hide (by rw [← hW]; exact ((Below.refl _ _).alloc (Nat.le_refl _) _).alloc (by simp) _)
  have hsz : W.heap.size = w.heap.size + 2 := by rw [← hW]; simp
  have HW := hide hW
  clear hW
  have k0 := cell_regrown d0
  have k1 := cell_regrown d1
  have k2 := cell_regrown d2
  have k3 := cell_regrown d3
  generalize hl : ltB (a, b) (c, d) = l
  have hL1 : ∀ w, Calls Try.prog 21 #[.agg #[.int .i64 a, .int .i64 b], .agg #[.int .i64 c, .int .i64 d]] w fun e w' => e = .returned (.bool l) ∧ Below w.heap.size w w' := fun w => by rw [← hl]; exact specLess_any a b c d w
  have hL2 : ∀ w, Calls Try.prog 20 #[.agg #[.int .i64 a, .int .i64 b], .agg #[.int .i64 c, .int .i64 d]] w fun e w' => e = .returned (.bool l) ∧ Below w.heap.size w w' := fun w => by rw [← hl]; exact implLess_any a b c d w
  have H1 := hide hL1
  have H2 := hide hL2
  clear hL1 hL2 hl
  go_enter Try.func5, Try.ntmps5
  go_wp2_with fail
  rw [unhide HW]
  refine wp_region_quiet_below (by kernel_rfl) (by kernel_rfl) ?_
  repeat (go_big_quiet_step (first | exact Calls.regrown_of (toEntry_any _ _ _) | exact Calls.regrown_of (unhide H1 _)))
  refine wpQuiet_nil ?_
  intro _ hw'
  obtain ⟨⟨dq, osq⟩, hw''⟩ := hw'
  have HB1 : Hid (Below w.heap.size w (grow (redrawn W dq) osq)) := hide ((unhide HB).trans ((below_regrown _ _ _).mono (by omega)))
  have g0 := k0 dq osq
  have g1 := k1 dq osq
  have g2 := k2 dq osq
  have g3 := k3 dq osq
  simp only at hw''
  rw [← hw''] at HB1 g0 g1 g2 g3
  have hsz1 := (unhide HB1).size
  clear k0 k1 k2 k3 hw'' d0 d1 d2 d3
  have k0 := cell_regrown g0
  have k1 := cell_regrown g1
  have k2 := cell_regrown g2
  have k3 := cell_regrown g3
  go_wp2_with fail
  refine wp_region_quiet_below (by kernel_rfl) (by kernel_rfl) ?_
  repeat (go_big_quiet_step (first | exact Calls.regrown_of (toEntry_any _ _ _) | exact Calls.regrown_of (unhide H2 _)))
  refine wpQuiet_nil ?_
  intro _ hw'
  obtain ⟨⟨dr, osr⟩, hw''⟩ := hw'
  subst hw''
  cases l
  all_goals
    go_wp2_with fail
    go_ret
    exact ⟨rfl, (unhide HB1).trans ((below_regrown _ _ _).mono hsz1)⟩

set_option maxHeartbeats 4000000 in
theorem walkFnExactQueueOk (v : Value) (ps : List PaceV) (w : World) (h : IsPaces w v ps) :
    Calls Try.prog 6 #[v] w fun e w' => e = .returned (.bool true) ∧ Below w.heap.size w w' := by
  have Hv := hide h
  obtain ⟨a, cap, rfl, hc, hm, hr⟩ := h
  clear hr
  go_enter Try.func6, Try.ntmps6
  go_wp2_with fail
  refine (szEntryS_any _ _ _ _ (by omega) (by omega) (by omega) _).mono ?_
  by_cases hx : (1048576 : Int) - ps.length < 0
  · rw [szV_f hx]
    rintro e w1 ⟨rfl, rfl⟩
    go_wp2_with fail
    go_ret
    exact ⟨rfl, Below.refl _ _⟩
  rw [szV_t hx]
  rintro e w1 ⟨rfl, h1⟩
  subst w1
  go_wp2_with fail
  refine (toEntryS_any (unhide Hv) (by omega)).mono ?_
  rintro e w2 ⟨v1, rfl, hi1, hb2⟩
  obtain ⟨a1, cap1, rfl⟩ := hi1.shape
  have Hi1 := hide hi1
  have B2 := hide hb2
  clear hi1 hb2
  go_wp2_with fail
  refine (specQueueOk_any (unhide Hi1).paces).mono ?_
  rintro e w3 ⟨rfl, hb3⟩
  have B3 := hide ((unhide B2).trans (hb3.mono (unhide B2).size))
  clear hb3 B2 Hi1
  go_wp2_with fail
  refine (toEntryS_any ((unhide Hv).below (unhide B3)) (by omega)).mono ?_
  rintro e w4 ⟨v2, rfl, hi2, hb4⟩
  obtain ⟨a2, cap2, rfl⟩ := hi2.shape
  have Hi2 := hide hi2
  have B4 := hide ((unhide B3).trans (hb4.mono (unhide B3).size))
  clear hi2 hb4 B3
  go_wp2_with fail
  refine (implQueueOk_any (unhide Hi2).paces).mono ?_
  rintro e w5 ⟨rfl, hb5⟩
  have Hi5 := hide ((unhide Hi2).later hb5)
  have B5 := hide ((unhide B4).trans (hb5.mono (unhide B4).size))
  clear hb5 B4 Hi2
  generalize queueB ps = q
  cases q
  all_goals
    go_wp2_with fail
    refine (toEntryS_any ((unhide Hv).below (unhide B5)) (by omega)).mono ?_
    rintro e w6 ⟨v3, rfl, hi6, hb6⟩
    obtain ⟨a3, cap3, rfl⟩ := hi6.shape
    have Hi6 := hide hi6
    have Hi7 := hide ((unhide Hi5).later hb6)
    have B6 := hide ((unhide B5).trans (hb6.mono (unhide B5).size))
    clear hi6 hb6 Hi5 B5
    go_wp2_with fail
    refine (eqEntryS_yes (unhide Hi7).paces (unhide Hi6).paces).mono ?_
    rintro e w7 ⟨rfl, hb7⟩
    have B7 := hide ((unhide B6).trans (hb7.mono (unhide B6).size))
    clear hb7 B6
    go_wp2_with fail
    go_ret
    exact ⟨rfl, unhide B7⟩

end Go.Proofs.Ytekobedbjemdiaa
