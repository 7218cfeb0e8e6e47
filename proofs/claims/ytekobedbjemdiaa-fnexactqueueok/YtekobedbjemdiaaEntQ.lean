/- Contracts of QueueOk and FirstIn, the program's and the model's: each returns what the lists say and writes into no memory that was there. Condition: the slices can be read. -/
import Derived.Test.YtekobedbjemdiaaEntRead
namespace Go.Proofs.Ytekobedbjemdiaa
open Go.ChangeShapes Go.WideShapes Go.ChangeAt Go.RowKit Go.Sort
set_option linter.unusedVariables false

theorem stepQ_e {ps : List PaceV} {k : Nat} {p : PaceV} (hp : paceAt ps k = p) (h : entB p = false) : stepQ ps k = false := by unfold stepQ; rw [hp]; simp [h]
theorem stepQ_l {ps : List PaceV} {k : Nat} {p q : PaceV} (hz : 0 < k) (hp : paceAt ps k = p) (hq : paceAt ps (k - 1) = q) (h : ltB q p = false) : stepQ ps k = false := by unfold stepQ; rw [hp, hq]; simp [h]; omega
theorem stepQ_w {ps : List PaceV} {k : Nat} {f z : Int} (hp : paceAt ps k = (f, z)) (h : 0 ≤ findV (ps.take k) z) : stepQ ps k = false := by unfold stepQ; rw [hp]; simp; intros; exact h
theorem stepQ_y {ps : List PaceV} {k : Nat} {f z : Int} {q : PaceV} (hz : 0 < k) (hp : paceAt ps k = (f, z)) (hq : paceAt ps (k - 1) = q) (h1 : entB (f, z) = true) (h2 : ltB q (f, z) = true) (h : findV (ps.take k) z < 0) : stepQ ps k = true := by unfold stepQ; rw [hp, hq]; simp [h1, h2, h]
theorem stepQ_0 {ps : List PaceV} {p : PaceV} (hp : paceAt ps 0 = p) (h : entB p = true) : stepQ ps 0 = true := by unfold stepQ; rw [hp]; simp [h, findV]

theorem l6Find_q {w : World} {v : Value} {ps : List PaceV} {who F : Int} (hF : findV ps who = F) (h : IsPaces w v ps) :
    Calls Try.prog 45 #[v, .int .i64 who] w fun e w' => e = .returned (.int .i64 F) ∧ Below w.heap.size w w' := by
  subst hF
  exact (l6Find_any who h).mono fun _ _ ⟨h1, h2⟩ => ⟨h1, h2 ▸ Below.refl _ _⟩
theorem placeOf_q {w : World} {v : Value} {ps : List PaceV} {who F : Int} (hF : findV ps who = F) (h : IsPaces w v ps) :
    Calls Try.prog 39 #[v, .int .i64 who] w fun e w' => e = .returned (.int .i64 F) ∧ Below w.heap.size w w' := by
  subst hF
  exact placeOf_any who h

set_option maxHeartbeats 4000000 in
theorem specQueueOk_any {w : World} {v : Value} {ps : List PaceV} (h : IsPaces w v ps) :
    Calls Try.prog 18 #[v] w fun e w' => e = .returned (.bool (queueB ps)) ∧ Below w.heap.size w w' := by
  have Hr2 := hide h
  obtain ⟨a, cap, rfl, hc, hm, hr⟩ := h
  have Hr := hide hr
  clear hr
  go_enter Try.func18, Try.ntmps18
  go_wp2_with fail
  go_loopw [3] (fun i wr => ∃ k : Nat, k ≤ ps.length ∧ i = .int .i64 k ∧ (∀ j, j < k → stepQ ps j = true) ∧ Below w.heap.size w wr) (fun i _ => ps.length - (intOf i).toNat)
  case atStart => exact ⟨0, Nat.zero_le _, rfl, fun j hj => by omega, Below.refl _ _⟩
  case round =>
    obtain ⟨k, hk, rfl, hst, hb⟩ := hrel
    have Hst := hide hst
    have Hb := hide hb
    clear hst
    by_cases hlt : k < ps.length
    · rcases unhide Hr with h0 | ⟨b, off, rfl, hbw, hcl⟩
      · rw [h0] at hlt; simp at hlt
      have hbr : b < wr.heap.size := Nat.lt_of_lt_of_le hbw hb.size
      have hne : b ≠ wr.heap.size := Nat.ne_of_lt hbr
      obtain ⟨c0, c1⟩ := hcl k hlt
      rw [← hb.cell (p := ⟨b, off + k * 2, none⟩) hbw] at c0
      rw [← hb.cell (p := ⟨b, off + k * 2 + 1, none⟩) hbw] at c1
      generalize hp : paceAt ps k = p at c0 c1
      have Hp := hide hp
      clear hp
      obtain ⟨f, z⟩ := p
      simp only at c0 c1
      have Hip := hide (((unhide Hr2).below hb).cut (n := k) (by omega))
      have k0 := cell_regrown c0
      have k1 := cell_regrown c1
      obtain ⟨F, hF⟩ : ∃ F, findV (ps.take k) z = F := ⟨_, rfl⟩
      have hFb := findV_bd (ps.take k) z
      rw [hF] at hFb
      have HF := hide hF
      clear hF
      cases hpb : entB (f, z)
      · clear hcl
        go_wp2_with fail
        refine wp_region_quiet_below (by kernel_rfl) (by kernel_rfl) ?_
        repeat (go_big_quiet_step (first | exact Calls.regrown_of (l6Entry_any _ _ _) | exact Calls.regrown_of (specLess_any _ _ _ _ _) | exact Calls.regrown_of (l6Find_q (unhide HF) ((unhide Hip).below (below_regrown _ _ _)))))
        refine wpQuiet_nil ?_
        intro _ hw'
        obtain ⟨⟨dq, osq⟩, hw''⟩ := hw'
        subst hw''
        go_wp2_with fail
        go_ret
        exact ⟨ret_bool (queueB_f hlt (stepQ_e (unhide Hp) hpb)).symm, (unhide Hb).trans ((below_regrown _ _ _).mono (unhide Hb).size)⟩
      · by_cases hz : 0 < k
        · have hd : decide (0 < k) = true := decide_eq_true hz
          obtain ⟨e0, e1⟩ := hcl (k - 1) (by omega)
          rw [← hb.cell (p := ⟨b, off + (k - 1) * 2, none⟩) hbw] at e0
          rw [← hb.cell (p := ⟨b, off + (k - 1) * 2 + 1, none⟩) hbw] at e1
          generalize hq : paceAt ps (k - 1) = q at e0 e1
          have Hq := hide hq
          clear hq
          obtain ⟨f', z'⟩ := q
          simp only at e0 e1
          have m0 := cell_regrown e0
          have m1 := cell_regrown e1
          clear hcl e0 e1
          cases hab : ltB (f', z') (f, z)
          · go_wp2_with fail
            refine wp_region_quiet_below (by kernel_rfl) (by kernel_rfl) ?_
            repeat (go_big_quiet_step (first | exact Calls.regrown_of (l6Entry_any _ _ _) | exact Calls.regrown_of (specLess_any _ _ _ _ _) | exact Calls.regrown_of (l6Find_q (unhide HF) ((unhide Hip).below (below_regrown _ _ _)))))
            refine wpQuiet_nil ?_
            intro _ hw'
            obtain ⟨⟨dq, osq⟩, hw''⟩ := hw'
            subst hw''
            go_wp2_with fail
            go_ret
            exact ⟨ret_bool (queueB_f hlt (stepQ_l hz (unhide Hp) (unhide Hq) hab)).symm, (unhide Hb).trans ((below_regrown _ _ _).mono (unhide Hb).size)⟩
          · by_cases hF0 : F = -1
            · subst hF0
              go_wp2_with fail
              refine wp_region_quiet_below (by kernel_rfl) (by kernel_rfl) ?_
              repeat (go_big_quiet_step (first | exact Calls.regrown_of (l6Entry_any _ _ _) | exact Calls.regrown_of (specLess_any _ _ _ _ _) | exact Calls.regrown_of (l6Find_q (unhide HF) ((unhide Hip).below (below_regrown _ _ _)))))
              refine wpQuiet_nil ?_
              intro _ hw'
              obtain ⟨⟨dq, osq⟩, hw''⟩ := hw'
              subst hw''
              go_wp2_with fail
              go_roundw
              case rel => exact ⟨k + 1, by omega, by go_num, next_all (unhide Hst) (stepQ_y hz (unhide Hp) (unhide Hq) hpb hab (by rw [unhide HF]; omega)), (unhide Hb).trans ((below_regrown _ _ _).mono (unhide Hb).size)⟩
              case measure => simp [intOf]; omega
            · have hF1 : 0 ≤ F := by omega
              have hF2 : (F == -1) = false := by simpa using hF0
              have hF3 : (F != -1) = true := by simpa using hF0
              clear hF0
              go_wp2_with fail
              refine wp_region_quiet_below (by kernel_rfl) (by kernel_rfl) ?_
              repeat (go_big_quiet_step (first | exact Calls.regrown_of (l6Entry_any _ _ _) | exact Calls.regrown_of (specLess_any _ _ _ _ _) | exact Calls.regrown_of (l6Find_q (unhide HF) ((unhide Hip).below (below_regrown _ _ _)))))
              refine wpQuiet_nil ?_
              intro _ hw'
              obtain ⟨⟨dq, osq⟩, hw''⟩ := hw'
              subst hw''
              go_wp2_with fail
              go_ret
              exact ⟨ret_bool (queueB_f hlt (stepQ_w (unhide Hp) (by rw [unhide HF]; exact hF1))).symm, (unhide Hb).trans ((below_regrown _ _ _).mono (unhide Hb).size)⟩
        · obtain rfl : k = 0 := by omega
          obtain rfl : F = -1 := by simp at hFb; omega
          simp only [Nat.zero_mul, Nat.add_zero] at c0 c1 k0 k1
          clear hcl hz
          go_wp2_with fail
          refine wp_region_quiet_below (by kernel_rfl) (by kernel_rfl) ?_
          repeat (go_big_quiet_step (first | exact Calls.regrown_of (l6Entry_any _ _ _) | exact Calls.regrown_of (specLess_any _ _ _ _ _) | exact Calls.regrown_of (l6Find_q (unhide HF) ((unhide Hip).below (below_regrown _ _ _)))))
          refine wpQuiet_nil ?_
          intro _ hw'
          obtain ⟨⟨dq, osq⟩, hw''⟩ := hw'
          subst hw''
          go_wp2_with fail
          go_roundw
          case rel => exact ⟨1, by omega, by go_num, next_all (unhide Hst) (stepQ_0 (unhide Hp) hpb), (unhide Hb).trans ((below_regrown _ _ _).mono (unhide Hb).size)⟩
          case measure => simp [intOf]; omega
    · obtain rfl : k = ps.length := by omega
      by_cases hbig : ps.length ≤ 100
      all_goals
        go_wp2_with fail
        go_ret
        exact ⟨ret_bool (by first | (rw [queueB_t (by omega) (unhide Hst)]; simp; omega) | (rw [queueB_big (by omega)]; simp; omega)), hb⟩

set_option maxHeartbeats 4000000 in
theorem implQueueOk_any {w : World} {v : Value} {ps : List PaceV} (h : IsPaces w v ps) :
    Calls Try.prog 17 #[v] w fun e w' => e = .returned (.bool (queueB ps)) ∧ Below w.heap.size w w' := by
  have Hr2 := hide h
  obtain ⟨a, cap, rfl, hc, hm, hr⟩ := h
  have Hr := hide hr
  clear hr
  by_cases hbig : 100 < ps.length
  · go_enter Try.func17, Try.ntmps17
    go_wp2_with fail
    go_ret
    exact ⟨ret_bool (queueB_big hbig).symm, Below.refl _ _⟩
  go_enter Try.func17, Try.ntmps17
  go_wp2_with fail
  go_loopw [10] (fun i wr => ∃ k : Nat, k ≤ ps.length ∧ i = .int .i64 k ∧ (∀ j, j < k → stepQ ps j = true) ∧ Below w.heap.size w wr) (fun i _ => ps.length - (intOf i).toNat)
  case atStart => exact ⟨0, Nat.zero_le _, rfl, fun j hj => by omega, Below.refl _ _⟩
  case round =>
    obtain ⟨k, hk, rfl, hst, hb⟩ := hrel
    have Hst := hide hst
    have Hb := hide hb
    clear hst
    by_cases hlt : k < ps.length
    · rcases unhide Hr with h0 | ⟨b, off, rfl, hbw, hcl⟩
      · rw [h0] at hlt; simp at hlt
      have hbr : b < wr.heap.size := Nat.lt_of_lt_of_le hbw hb.size
      have hne : b ≠ wr.heap.size := Nat.ne_of_lt hbr
      obtain ⟨c0, c1⟩ := hcl k hlt
      rw [← hb.cell (p := ⟨b, off + k * 2, none⟩) hbw] at c0
      rw [← hb.cell (p := ⟨b, off + k * 2 + 1, none⟩) hbw] at c1
      generalize hp : paceAt ps k = p at c0 c1
      have Hp := hide hp
      clear hp
      obtain ⟨f, z⟩ := p
      simp only at c0 c1
      have Hip := hide ((((unhide Hr2).below hb).cut (n := k) (by omega)).below ((Below.refl _ _).alloc (Nat.le_refl _) (.cells #[.int .i64 f, .int .i64 z] 26)))
      have d0 : (wr.alloc (.cells #[.int .i64 f, .int .i64 z] 26)).cell? ⟨wr.heap.size, 0, none⟩ = some (.int .i64 f) := by simp
      have d1 : (wr.alloc (.cells #[.int .i64 f, .int .i64 z] 26)).cell? ⟨wr.heap.size, 1, none⟩ = some (.int .i64 z) := by simp
      have k0 := cell_regrown d0
      have k1 := cell_regrown d1
      clear d0 d1
      obtain ⟨F, hF⟩ : ∃ F, findV (ps.take k) z = F := ⟨_, rfl⟩
      have hFb := findV_bd (ps.take k) z
      rw [hF] at hFb
      have HF := hide hF
      clear hF
      cases hpb : entB (f, z)
      · clear hcl
        go_wp2_with fail
        refine wp_region_quiet_below (by kernel_rfl) (by kernel_rfl) ?_
        repeat (go_big_quiet_step (first | exact Calls.regrown_of (isEntry_any _ _ _) | exact Calls.regrown_of (implLess_any _ _ _ _ _) | exact Calls.regrown_of (placeOf_q (unhide HF) ((unhide Hip).below (below_regrown _ _ _)))))
        refine wpQuiet_nil ?_
        intro _ hw'
        obtain ⟨⟨dq, osq⟩, hw''⟩ := hw'
        subst hw''
        go_wp2_with fail
        go_ret
        exact ⟨ret_bool (queueB_f hlt (stepQ_e (unhide Hp) hpb)).symm, (unhide Hb).trans (((Below.refl _ _).alloc (unhide Hb).size _).trans ((below_regrown _ _ _).mono (by simp; have := (unhide Hb).size; omega)))⟩
      · by_cases hz : 0 < k
        · have hd : decide (0 < k) = true := decide_eq_true hz
          obtain ⟨e0, e1⟩ := hcl (k - 1) (by omega)
          rw [← hb.cell (p := ⟨b, off + (k - 1) * 2, none⟩) hbw] at e0
          rw [← hb.cell (p := ⟨b, off + (k - 1) * 2 + 1, none⟩) hbw] at e1
          generalize hq : paceAt ps (k - 1) = q at e0 e1
          have Hq := hide hq
          clear hq
          obtain ⟨f', z'⟩ := q
          simp only at e0 e1
          have m0 := cell_regrown (w := wr.alloc (.cells #[.int .i64 f, .int .i64 z] 26)) (a := ⟨b, off + (k - 1) * 2, none⟩) (v := .int .i64 f') (by rw [World.cell?_alloc_old _ _ _ hne]; exact e0)
          have m1 := cell_regrown (w := wr.alloc (.cells #[.int .i64 f, .int .i64 z] 26)) (a := ⟨b, off + (k - 1) * 2 + 1, none⟩) (v := .int .i64 z') (by rw [World.cell?_alloc_old _ _ _ hne]; exact e1)
          clear hcl e0 e1
          cases hab : ltB (f', z') (f, z)
          · go_wp2_with fail
            refine wp_region_quiet_below (by kernel_rfl) (by kernel_rfl) ?_
            repeat (go_big_quiet_step (first | exact Calls.regrown_of (isEntry_any _ _ _) | exact Calls.regrown_of (implLess_any _ _ _ _ _) | exact Calls.regrown_of (placeOf_q (unhide HF) ((unhide Hip).below (below_regrown _ _ _)))))
            refine wpQuiet_nil ?_
            intro _ hw'
            obtain ⟨⟨dq, osq⟩, hw''⟩ := hw'
            subst hw''
            go_wp2_with fail
            go_ret
            exact ⟨ret_bool (queueB_f hlt (stepQ_l hz (unhide Hp) (unhide Hq) hab)).symm, (unhide Hb).trans (((Below.refl _ _).alloc (unhide Hb).size _).trans ((below_regrown _ _ _).mono (by simp; have := (unhide Hb).size; omega)))⟩
          · by_cases hF0 : F = -1
            · subst hF0
              go_wp2_with fail
              refine wp_region_quiet_below (by kernel_rfl) (by kernel_rfl) ?_
              repeat (go_big_quiet_step (first | exact Calls.regrown_of (isEntry_any _ _ _) | exact Calls.regrown_of (implLess_any _ _ _ _ _) | exact Calls.regrown_of (placeOf_q (unhide HF) ((unhide Hip).below (below_regrown _ _ _)))))
              refine wpQuiet_nil ?_
              intro _ hw'
              obtain ⟨⟨dq, osq⟩, hw''⟩ := hw'
              subst hw''
              go_wp2_with fail
              go_roundw
              case rel => exact ⟨k + 1, by omega, by go_num, next_all (unhide Hst) (stepQ_y hz (unhide Hp) (unhide Hq) hpb hab (by rw [unhide HF]; omega)), (unhide Hb).trans (((Below.refl _ _).alloc (unhide Hb).size _).trans ((below_regrown _ _ _).mono (by simp; have := (unhide Hb).size; omega)))⟩
              case measure => simp [intOf]; omega
            · have hF1 : 0 ≤ F := by omega
              have hF2 : (F == -1) = false := by simpa using hF0
              have hF3 : (F != -1) = true := by simpa using hF0
              clear hF0
              go_wp2_with fail
              refine wp_region_quiet_below (by kernel_rfl) (by kernel_rfl) ?_
              repeat (go_big_quiet_step (first | exact Calls.regrown_of (isEntry_any _ _ _) | exact Calls.regrown_of (implLess_any _ _ _ _ _) | exact Calls.regrown_of (placeOf_q (unhide HF) ((unhide Hip).below (below_regrown _ _ _)))))
              refine wpQuiet_nil ?_
              intro _ hw'
              obtain ⟨⟨dq, osq⟩, hw''⟩ := hw'
              subst hw''
              go_wp2_with fail
              go_ret
              exact ⟨ret_bool (queueB_f hlt (stepQ_w (unhide Hp) (by rw [unhide HF]; exact hF1))).symm, (unhide Hb).trans (((Below.refl _ _).alloc (unhide Hb).size _).trans ((below_regrown _ _ _).mono (by simp; have := (unhide Hb).size; omega)))⟩
        · obtain rfl : k = 0 := by omega
          obtain rfl : F = -1 := by simp at hFb; omega
          simp only [Nat.zero_mul, Nat.add_zero] at c0 c1 k0 k1
          clear hcl hz
          go_wp2_with fail
          refine wp_region_quiet_below (by kernel_rfl) (by kernel_rfl) ?_
          repeat (go_big_quiet_step (first | exact Calls.regrown_of (isEntry_any _ _ _) | exact Calls.regrown_of (implLess_any _ _ _ _ _) | exact Calls.regrown_of (placeOf_q (unhide HF) ((unhide Hip).below (below_regrown _ _ _)))))
          refine wpQuiet_nil ?_
          intro _ hw'
          obtain ⟨⟨dq, osq⟩, hw''⟩ := hw'
          subst hw''
          go_wp2_with fail
          go_roundw
          case rel => exact ⟨1, by omega, by go_num, next_all (unhide Hst) (stepQ_0 (unhide Hp) hpb), (unhide Hb).trans (((Below.refl _ _).alloc (unhide Hb).size _).trans ((below_regrown _ _ _).mono (by simp; have := (unhide Hb).size; omega)))⟩
          case measure => simp [intOf]; omega
    · obtain rfl : k = ps.length := by omega
      go_wp2_with fail
      go_ret
      exact ⟨ret_bool (queueB_t (by omega) (unhide Hst)).symm, hb⟩

end Go.Proofs.Ytekobedbjemdiaa
