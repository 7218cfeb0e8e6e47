/- Contracts of the laws' own helpers over entries: how many, their copies in memory of their own, that two that read alike are alike, marks. Conditions: the slices can be read; what is copied is no longer than 2^20. -/
import Derived.Test.YtekobedbjemdiaaEntMem
namespace Go.Proofs.Ytekobedbjemdiaa
open Go.ChangeShapes Go.WideShapes Go.ChangeAt Go.RowKit Go.Sort
set_option linter.unusedVariables false

theorem szEntryS_any (a : Option Addr) (n cap : Nat) (left : Int) (hn : n ≤ 9223372036854775807) (h0 : 0 ≤ left) (h1 : left ≤ 1048576) (w : World) :
    Calls Try.prog 26 #[.slice a n cap, .int .i64 left] w fun e w' => e = .returned (.int .i64 (szV n left)) ∧ w' = w := by
  by_cases h : left - n < 0
  all_goals
    go_enter Try.func26, Try.ntmps26
    go_wp2
    go_ret
    exact ⟨ret_int (by first | exact (szV_f (by omega)).symm | exact (szV_t (by omega)).symm), rfl⟩

set_option maxHeartbeats 1000000 in
theorem eqEntry_yes (f c : Int) (w : World) :
    Calls Try.prog 47 #[.agg #[.int .i64 f, .int .i64 c], .agg #[.int .i64 f, .int .i64 c]] w fun e w' => e = .returned (.bool true) ∧ Below w.heap.size w w' := by
  go_enter Try.func47, Try.ntmps47
  go_wp2_with fail
  go_ret
  exact ⟨rfl, ((Below.refl _ _).alloc (Nat.le_refl _) _).alloc (by simp) _⟩

set_option maxHeartbeats 1000000 in
theorem eqEntryS_yes {w : World} {v u : Value} {ps : List PaceV} (hv : IsPaces w v ps) (hu : IsPaces w u ps) :
    Calls Try.prog 28 #[v, u] w fun e w' => e = .returned (.bool true) ∧ Below w.heap.size w w' := by
  obtain ⟨a, cap, rfl, hc, hm, hr⟩ := hv
  obtain ⟨a', cap', rfl, hc', hm', hr'⟩ := hu
  have Hr := hide hr
  have Hr' := hide hr'
  clear hr hr'
  go_enter Try.func28, Try.ntmps28
  go_wp2_with fail
  go_loopw [5] (fun i wr => ∃ k : Nat, k ≤ ps.length ∧ i = .int .i64 k ∧ Below w.heap.size w wr) (fun i _ => ps.length - (intOf i).toNat)
  case atStart => exact ⟨0, Nat.zero_le _, rfl, Below.refl _ _⟩
  case round =>
    obtain ⟨k, hk, rfl, hb⟩ := hrel
    have Hb := hide hb
    by_cases hlt : k < ps.length
    · rcases unhide Hr with h0 | ⟨b, off, rfl, hbw, hcl⟩
      · rw [h0] at hlt; simp at hlt
      rcases unhide Hr' with h0 | ⟨b', off', rfl, hbw', hcl'⟩
      · rw [h0] at hlt; simp at hlt
      obtain ⟨c0, c1⟩ := hcl k hlt
      obtain ⟨d0, d1⟩ := hcl' k hlt
      rw [← hb.cell (p := ⟨b, off + k * 2, none⟩) hbw] at c0
      rw [← hb.cell (p := ⟨b, off + k * 2 + 1, none⟩) hbw] at c1
      rw [← hb.cell (p := ⟨b', off' + k * 2, none⟩) hbw'] at d0
      rw [← hb.cell (p := ⟨b', off' + k * 2 + 1, none⟩) hbw'] at d1
      generalize (paceAt ps k).1 = f at *
      generalize (paceAt ps k).2 = c at *
      have k0 := cell_regrown c0
      have k1 := cell_regrown c1
      have k2 := cell_regrown d0
      have k3 := cell_regrown d1
      clear hcl hcl' hb c0 c1 d0 d1
      go_wp2_with fail
      refine wp_region_quiet_below (by kernel_rfl) (by kernel_rfl) ?_
      repeat (go_big_quiet_step (exact Calls.regrown_of (eqEntry_yes _ _ _)))
      refine wpQuiet_nil ?_
      intro _ hw'
      obtain ⟨⟨dq, osq⟩, hw''⟩ := hw'
      subst hw''
      go_wp2_with fail
      go_roundw
      case rel => exact ⟨k + 1, by omega, by go_num, (unhide Hb).trans ((below_regrown _ _ _).mono (unhide Hb).size)⟩
      case measure => simp [intOf]; omega
    · go_wp2_with fail
      go_ret
      exact ⟨rfl, hb⟩

theorem toEntry_any (f c : Int) (w : World) :
    Calls Try.prog 25 #[.agg #[.int .i64 f, .int .i64 c]] w fun e w' => e = .returned (.agg #[.int .i64 f, .int .i64 c]) ∧ Below w.heap.size w w' := by
  go_enter Try.func25, Try.ntmps25
  go_wp2_with fail
  exact bodyPost_ret (v := .agg #[.int .i64 f, .int .i64 c]) (by simp [results, Try.results25, go_sem]) rfl ⟨rfl, (((Below.refl _ _).alloc (Nat.le_refl _) _).alloc (by simp) _).alloc (by simp; omega) _⟩

set_option maxHeartbeats 2000000 in
theorem toEntryS_any {w : World} {v : Value} {ps : List PaceV} (h : IsPaces w v ps) (hs : ps.length ≤ 1048576) :
    Calls Try.prog 27 #[v] w fun e w' => ∃ v', e = .returned v' ∧ EntsAt w.heap.size w' v' ps ∧ Below w.heap.size w w' := by
  obtain ⟨a, cap, rfl, hc, hm, hr⟩ := h
  have Hr := hide hr
  clear hr
  obtain ⟨i0, hi, hz0, hz1, hz2⟩ := info_parts infoEntry
  go_enter Try.func27, Try.ntmps27
  go_wp2_with (at_make; refine wpList_make_full _ rfl _ _ 24 rfl w.heap.size 26 i0 (.agg #[.int .i64 0, .int .i64 0]) 2 Try.underlying24 hi hz0 hz1 _ _ _ _ ps.length rfl rfl rfl rfl (by rw [hz2]; omega) (by unfold maxLen; omega) (Nat.le_refl _) ?_; intro w0 hown hgrow)
  have Hown := hide hown
  have Hgr := hide hgrow
  clear hown hgrow
  go_loopw [4] (fun i wr => ∃ k : Nat, k ≤ ps.length ∧ i = .int .i64 k ∧ ∃ xs, wr.ownsRow w.heap.size 26 2 (.slice (some ⟨w.heap.size, 0, none⟩) ps.length ps.length) ps.length xs ∧ Pairs xs (isPaceOf ps) k ∧ Below w.heap.size w wr) (fun i _ => ps.length - (intOf i).toNat)
  case atStart => exact ⟨0, Nat.zero_le _, rfl, _, unhide Hown, fun j hj => by omega, (Below.refl _ _).grown (unhide Hgr) (Nat.le_refl _) (fun k e => by cases e)⟩
  case round =>
    obtain ⟨k, hk, rfl, xs, hown, hpr, hb⟩ := hrel
    have Hb := hide hb
    by_cases hlt : k < ps.length
    · rcases unhide Hr with h0 | ⟨b, off, rfl, hbw, hcl⟩
      · rw [h0] at hlt; simp at hlt
      obtain ⟨c0, c1⟩ := hcl k hlt
      rw [← hb.cell (p := ⟨b, off + k * 2, none⟩) hbw] at c0
      rw [← hb.cell (p := ⟨b, off + k * 2 + 1, none⟩) hbw] at c1
      have hxs : xs.length = ps.length * 2 := hown.1
      have Ho := hide hown
      have Hpr := hide hpr
      generalize hp : paceAt ps k = p at c0 c1
      obtain ⟨f, c⟩ := p
      simp only at c0 c1
      have Hp := hide hp
      clear hcl hb hown hpr hp
      go_wp2_with fail
      refine (toEntry_any _ _ _).mono ?_
      rintro e w1 ⟨rfl, hb1⟩
      have ho1 := own_later (unhide Ho) hb1
      obtain ⟨⟨x0, y0⟩, z0⟩ := own_cell ho1 (j := k * 2) (by omega)
      obtain ⟨⟨x1, y1⟩, z1⟩ := own_cell ho1 (j := k * 2 + 1) (by omega)
      have Hp2 := hide (own_pair ho1 (k * 2) (.int .i64 f) (.int .i64 c))
      have Hb1 := hide hb1
      have hsz := hb1.size
      have hsz0 := (unhide Hb).size
      clear ho1 hb1
      go_wp2_with fail
      go_roundw
      case rel => exact ⟨k + 1, by omega, by go_num, _, (unhide Hp2).1, (unhide Hpr).next (by omega) ⟨by rw [unhide Hp], by rw [unhide Hp]⟩, ((unhide Hb).trans ((unhide Hb1).mono hsz0)).trans (below_grown (unhide Hp2).2 (Nat.le_refl _) (by omega))⟩
      case measure => simp [intOf]; omega
    · obtain rfl : k = ps.length := by omega
      go_wp2_with fail
      go_ret
      exact ⟨_, rfl, by unfold EntsAt; rw [← pcells_of hown.1 hpr]; exact hown, hb⟩

set_option maxRecDepth 100000 in
set_option maxHeartbeats 2000000 in
theorem markEntryS_any {n₀ : Nat} {w : World} {v : Value} {ps : List PaceV} (k : Int) (h : EntsAt n₀ w v ps) (hk0 : 0 ≤ k) (hk1 : k ≤ 1000000000) (hl : ps.length ≤ 1000000000) :
    Calls Try.prog 29 #[v, .int .i64 k] w fun e w' => e = .returned (.int .i64 (k + 2 * (ps.length : Int))) ∧ EntsAt n₀ w' v (mps k ps.length) ∧ w.grownBy w' v.ownBlock := by
  have Hv := hide h
  obtain ⟨a, cap, rfl⟩ := h.shape
  clear h
  go_enter Try.func29, Try.ntmps29
  go_wp2_with fail
  go_loopw [5, 1] (fun i q wr => ∃ j : Nat, j ≤ ps.length ∧ i = .int .i64 j ∧ q = .int .i64 (k + 2 * (j : Int)) ∧ EntsAt n₀ wr (.slice a ps.length cap) (mpd ps k j) ∧ w.grownBy wr (Value.ownBlock (.slice a ps.length cap))) (fun i _ _ => ps.length - (intOf i).toNat)
  case atStart => exact ⟨0, Nat.zero_le _, rfl, by simp, by simpa [mpd, mps] using unhide Hv, grown_refl _ _⟩
  case round =>
    obtain ⟨j, hj, rfl, rfl, hin, hgr⟩ := hrel
    by_cases hlt : j < ps.length
    · unfold EntsAt at hin
      rw [mpd_len hj] at hin
      obtain ⟨g, rfl⟩ : ∃ g, a = some ⟨g, 0, none⟩ := by
        rcases hin.2 with ⟨h9, h8⟩ | ⟨g, c', cur, h9, _⟩
        · omega
        · cases h9; exact ⟨g, rfl⟩
      have hcell := fun (o : Nat) (ho : o < ps.length * 2) => World.ownsRow.cellAt hin o (by omega)
      have hpl : (pcells (mpd ps k j)).length = ps.length * 2 := by unfold pcells; rw [pairs_len, mpd_len hj]
      obtain ⟨c0, hc0⟩ : ∃ c, wr.cell? ⟨g, j * 2, none⟩ = some c := ⟨_, (hcell (j * 2) (by omega)).trans (List.getElem?_eq_getElem (by omega))⟩
      obtain ⟨c1, hc1⟩ : ∃ c, wr.cell? ⟨g, j * 2 + 1, none⟩ = some c := ⟨_, (hcell (j * 2 + 1) (by omega)).trans (List.getElem?_eq_getElem (by omega))⟩
      have f0 := World.ownsRow.frozenAt hin (j * 2)
      have f1 := World.ownsRow.frozenAt hin (j * 2 + 1)
      obtain ⟨s1, s2⟩ := World.ownsRow.stored hin (j * 2) (.int .i64 (k + 2 * (j : Int)))
      obtain ⟨t1, t2⟩ := World.ownsRow.stored s1 (j * 2 + 1) (.int .i64 (k + 2 * (j : Int) + 1))
      rw [pput _ _ _ _ (by rw [mpd_len hj]; exact hlt), mpd_succ hlt] at t1
      have H1 : Hid (EntsAt n₀ ((wr.setCell ⟨g, j * 2, none⟩ (.int .i64 (k + 2 * (j : Int)))).setCell ⟨g, j * 2 + 1, none⟩ (.int .i64 (k + 2 * (j : Int) + 1))) (.slice (some ⟨g, 0, none⟩) ps.length cap) (mpd ps k (j + 1))) := hide (by unfold EntsAt; rw [mpd_len hlt]; exact t1)
      have H2 := hide (grown_trans hgr (grown_trans s2 t2))
      have hc1' : (wr.setCell ⟨g, j * 2, none⟩ (.int .i64 (k + 2 * (j : Int)))).cell? ⟨g, j * 2 + 1, none⟩ = some c1 := by rw [World.cell?_setCell_other _ _ _ _ (by simp)]; exact hc1
      have f1' : (wr.setCell ⟨g, j * 2, none⟩ (.int .i64 (k + 2 * (j : Int)))).frozen? ⟨g, j * 2 + 1, none⟩ = false := by rw [World.frozen?_setCell]; exact f1
      clear hin hgr s1 s2 t1 t2 hcell hpl
      go_wp2_with fail
      go_roundw
      case rel => exact ⟨j + 1, by omega, by go_num, by go_num, unhide H1, unhide H2⟩
      case measure => simp [intOf]; omega
    · obtain rfl : j = ps.length := by omega
      rw [mpd_all] at hin
      go_wp2_with fail
      go_ret
      exact ⟨rfl, hin, hgr⟩

set_option maxRecDepth 100000 in
set_option maxHeartbeats 2000000 in
theorem heldEntryS_yes {w : World} {v : Value} (k : Int) (n : Nat) (h : IsPaces w v (mps k n)) (hk0 : 0 ≤ k) (hk1 : k ≤ 1000000000) (hl : n ≤ 1000000000) :
    Calls Try.prog 30 #[v, .int .i64 k] w fun e w' => e = .returned (.int .i64 (k + 2 * (n : Int))) ∧ w' = w := by
  obtain ⟨a, cap, rfl, hc, hm, hrow⟩ := h
  rw [mps_len] at *
  have Hrow := hide hrow
  clear hrow
  go_enter Try.func30, Try.ntmps30
  go_wp2_with fail
  go_loop [5, 1] (fun i q => ∃ j : Nat, j ≤ n ∧ i = .int .i64 j ∧ q = .int .i64 (k + 2 * (j : Int))) (fun i _ => n - (intOf i).toNat)
  case atStart => exact ⟨0, Nat.zero_le _, rfl, by simp⟩
  case round =>
    obtain ⟨j, hj, rfl, rfl⟩ := hrel
    by_cases hlt : j < n
    · rcases unhide Hrow with h0 | ⟨bk, off, rfl, hbw, hcl⟩
      · have := congrArg List.length h0; rw [mps_len] at this; simp at this; omega
      obtain ⟨c0, c1⟩ := hcl j hlt
      rw [mps_at k n j hlt] at c0 c1
      simp only at c0 c1
      clear hcl
      go_wp2_with fail
      go_round
      case rel => exact ⟨j + 1, by omega, by go_num, by go_num⟩
      case measure => simp [intOf]; omega
    · obtain rfl : j = n := by omega
      go_wp2_with fail
      go_ret
      exact ⟨rfl, rfl⟩

end Go.Proofs.Ytekobedbjemdiaa
