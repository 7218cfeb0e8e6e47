/- Contracts of CoalFor and LeastCoal, the program's and the model's, at whatever room can be read and whatever numbers: each returns what the lists say and writes into no memory that was there. No other condition. -/
import Derived.Test.YtbekkdneldcehaaPaceFn
namespace Go.Proofs.Ytbekkdneldcehaa
open Go.ChangeShapes Go.WideShapes Go.ChangeAt Go.RowKit Go.Sort
set_option linter.unusedVariables false

set_option maxHeartbeats 2000000 in
theorem implCoalFor_any {w : World} {v : Value} {ps : List PaceV} (b pace work : Int) (h : IsPaces w v ps) :
    Calls Try.prog 13 #[.agg #[.int .i64 b, v], .int .i64 pace, .int .i64 work] w fun e w' => e = .returned (.int .i64 (coalForV (b, ps) pace work)) ∧ Below w.heap.size w w' := by
  have Hv := hide h
  obtain ⟨a, cap, rfl, hc, hm, hrow⟩ := h
  clear hrow
  have hl : (ps.length : Int) ≤ 9223372036854775807 := by omega
  cases hr : roomB (b, ps)
  · rw [coalForV_f1 hr]
    go_enter Try.func13, Try.ntmps13
    go_wp2_with fail
    refine (implRoomOk_any b ((unhide Hv).below ((Below.refl _ _).alloc (Nat.le_refl _) _))).mono ?_
    rintro e w1 ⟨rfl, hb⟩
    have B1 : Hid (Below w.heap.size w w1) := hide (((Below.refl _ _).alloc (Nat.le_refl _) _).trans (hb.mono (by simp)))
    clear hb
    go_wp2_with fail
    go_ret
    exact ⟨rfl, unhide B1⟩
  by_cases hp0 : pace < 0
  · rw [coalForV_f3 (inB_f (by omega))]
    go_enter Try.func13, Try.ntmps13
    go_wp2_with fail
    refine (implRoomOk_any b ((unhide Hv).below ((Below.refl _ _).alloc (Nat.le_refl _) _))).mono ?_
    rintro e w1 ⟨rfl, hb⟩
    have B1 : Hid (Below w.heap.size w w1) := hide (((Below.refl _ _).alloc (Nat.le_refl _) _).trans (hb.mono (by simp)))
    clear hb
    go_wp2_with fail
    go_ret
    exact ⟨rfl, unhide B1⟩
  by_cases hp1 : (ps.length : Int) ≤ pace
  · rw [coalForV_f3 (inB_f (by simp only; omega))]
    go_enter Try.func13, Try.ntmps13
    go_wp2_with fail
    refine (implRoomOk_any b ((unhide Hv).below ((Below.refl _ _).alloc (Nat.le_refl _) _))).mono ?_
    rintro e w1 ⟨rfl, hb⟩
    have x1 : w1.cell? ⟨w.heap.size, 1, none⟩ = some (.slice a ps.length cap) := (hb.cell (p := ⟨w.heap.size, 1, none⟩) (by simp)).trans (by simp)
    have B1 : Hid (Below w.heap.size w w1) := hide (((Below.refl _ _).alloc (Nat.le_refl _) _).trans (hb.mono (by simp)))
    clear hb
    go_wp2_with fail
    go_ret
    exact ⟨rfl, unhide B1⟩
  cases hn : inB work 0 1000000
  · rw [coalForV_f2 hn]
    go_enter Try.func13, Try.ntmps13
    go_wp2_with fail
    refine (implRoomOk_any b ((unhide Hv).below ((Below.refl _ _).alloc (Nat.le_refl _) _))).mono ?_
    rintro e w1 ⟨rfl, hb⟩
    have x1 : w1.cell? ⟨w.heap.size, 1, none⟩ = some (.slice a ps.length cap) := (hb.cell (p := ⟨w.heap.size, 1, none⟩) (by simp)).trans (by simp)
    have B1 : Hid (Below w.heap.size w w1) := hide (((Below.refl _ _).alloc (Nat.le_refl _) _).trans (hb.mono (by simp)))
    clear hb
    go_wp2_with (go_at_call 37; refine (liesFrom_any _ _ _ _).mono ?_; rintro e w' ⟨rfl, rfl⟩)
    go_ret
    exact ⟨rfl, unhide B1⟩
  rw [coalForV_t hr hn (inB_t (by omega) (by simp only; omega))]
  obtain ⟨k, rfl⟩ := Int.eq_ofNat_of_zero_le (show 0 ≤ pace by omega)
  have hk : k < ps.length := by omega
  rw [Int.toNat_natCast]
  simp only
  generalize hpk : paceAt ps k = p
  have Hpk := hide hpk
  clear hpk
  obtain ⟨f, c⟩ := p
  simp only
  have Hn := hide hn
  go_enter Try.func13, Try.ntmps13
  go_wp2_with fail
  refine (implRoomOk_any b ((unhide Hv).below ((Below.refl _ _).alloc (Nat.le_refl _) _))).mono ?_
  rintro e w1 ⟨rfl, hb⟩
  have x1 : w1.cell? ⟨w.heap.size, 1, none⟩ = some (.slice a ps.length cap) := (hb.cell (p := ⟨w.heap.size, 1, none⟩) (by simp)).trans (by simp)
  have B1 : Hid (Below w.heap.size w w1) := hide (((Below.refl _ _).alloc (Nat.le_refl _) _).trans (hb.mono (by simp)))
  have hz1 : w.heap.size + 1 ≤ w1.heap.size := by have := hb.size; simpa using this
  clear hb
  have hv1 := (unhide Hv).below (unhide B1)
  obtain ⟨a', cap', he, _, _, hrow⟩ := hv1
  cases he
  rcases hrow with h0 | ⟨bk, off, rfl, hbw, hcl⟩
  · rw [h0] at hk; simp at hk
  obtain ⟨c0, c1⟩ := hcl k hk
  clear hcl
  rw [unhide Hpk] at c0 c1
  simp only at c0 c1
  go_wp2_with (go_at_call 37; refine (liesFrom_any _ _ _ _).mono ?_; rintro e w' ⟨rfl, rfl⟩)
  refine (implMulDiv_any c work f _).mono ?_
  rintro e w2 ⟨rfl, hb2⟩
  have Hb2 := hide hb2
  clear hb2
  go_wp2_with fail
  go_ret
  exact ⟨rfl, (unhide B1).trans (((Below.refl _ _).alloc (unhide B1).size _).trans ((unhide Hb2).mono (by simp; omega)))⟩

set_option maxHeartbeats 2000000 in
theorem specCoalFor_any {w : World} {v : Value} {ps : List PaceV} (b pace work : Int) (h : IsPaces w v ps) :
    Calls Try.prog 17 #[.agg #[.int .i64 b, v], .int .i64 pace, .int .i64 work] w fun e w' => e = .returned (.int .i64 (coalForV (b, ps) pace work)) ∧ Below w.heap.size w w' := by
  have Hv := hide h
  obtain ⟨a, cap, rfl, hc, hm, hrow⟩ := h
  clear hrow
  have hl : (ps.length : Int) ≤ 9223372036854775807 := by omega
  cases hr : roomB (b, ps)
  · rw [coalForV_f1 hr]
    go_enter Try.func17, Try.ntmps17
    go_wp2_with fail
    refine (specRoomOk_any b ((unhide Hv).below ((Below.refl _ _).alloc (Nat.le_refl _) _))).mono ?_
    rintro e w1 ⟨rfl, hb⟩
    have B1 : Hid (Below w.heap.size w w1) := hide (((Below.refl _ _).alloc (Nat.le_refl _) _).trans (hb.mono (by simp)))
    clear hb
    go_wp2_with fail
    go_ret
    exact ⟨rfl, unhide B1⟩
  cases hn : inB work 0 1000000
  · rw [coalForV_f2 hn]
    go_enter Try.func17, Try.ntmps17
    go_wp2_with fail
    refine (specRoomOk_any b ((unhide Hv).below ((Below.refl _ _).alloc (Nat.le_refl _) _))).mono ?_
    rintro e w1 ⟨rfl, hb⟩
    have B1 : Hid (Below w.heap.size w w1) := hide (((Below.refl _ _).alloc (Nat.le_refl _) _).trans (hb.mono (by simp)))
    clear hb
    go_wp2_with (go_at_call 41; refine (l5Work_any _ _).mono ?_; rintro e w' ⟨rfl, rfl⟩)
    go_ret
    exact ⟨rfl, unhide B1⟩
  cases hp : inB pace 0 ((ps.length : Int) - 1)
  · rw [coalForV_f3 hp]
    go_enter Try.func17, Try.ntmps17
    go_wp2_with fail
    refine (specRoomOk_any b ((unhide Hv).below ((Below.refl _ _).alloc (Nat.le_refl _) _))).mono ?_
    rintro e w1 ⟨rfl, hb⟩
    have x1 : w1.cell? ⟨w.heap.size, 1, none⟩ = some (.slice a ps.length cap) := (hb.cell (p := ⟨w.heap.size, 1, none⟩) (by simp)).trans (by simp)
    have B1 : Hid (Below w.heap.size w w1) := hide (((Below.refl _ _).alloc (Nat.le_refl _) _).trans (hb.mono (by simp)))
    clear hb
    go_wp2_with (first | (go_at_call 41; refine (l5Work_any _ _).mono ?_; rintro e w' ⟨rfl, rfl⟩) | (go_at_call 42; refine (l1In_any _ _ _ _).mono ?_; rintro e w' ⟨rfl, rfl⟩))
    go_ret
    exact ⟨rfl, unhide B1⟩
  rw [coalForV_t hr hn hp]
  have hpp := inB_of hp
  obtain ⟨hp0, hp1⟩ := hpp
  obtain ⟨k, rfl⟩ := Int.eq_ofNat_of_zero_le hp0
  have hk : k < ps.length := by omega
  rw [Int.toNat_natCast]
  simp only
  generalize hpk : paceAt ps k = p
  have Hpk := hide hpk
  clear hpk
  obtain ⟨f, c⟩ := p
  simp only
  go_enter Try.func17, Try.ntmps17
  go_wp2_with fail
  refine (specRoomOk_any b ((unhide Hv).below ((Below.refl _ _).alloc (Nat.le_refl _) _))).mono ?_
  rintro e w1 ⟨rfl, hb⟩
  have x1 : w1.cell? ⟨w.heap.size, 1, none⟩ = some (.slice a ps.length cap) := (hb.cell (p := ⟨w.heap.size, 1, none⟩) (by simp)).trans (by simp)
  have B1 : Hid (Below w.heap.size w w1) := hide (((Below.refl _ _).alloc (Nat.le_refl _) _).trans (hb.mono (by simp)))
  clear hb
  have hv1 := (unhide Hv).below (unhide B1)
  obtain ⟨a', cap', he, _, _, hrow⟩ := hv1
  cases he
  rcases hrow with h0 | ⟨bk, off, rfl, hbw, hcl⟩
  · rw [h0] at hk; simp at hk
  obtain ⟨c0, c1⟩ := hcl k hk
  clear hcl
  rw [unhide Hpk] at c0 c1
  simp only at c0 c1
  go_wp2_with (first | (go_at_call 41; refine (l5Work_any _ _).mono ?_; rintro e w' ⟨rfl, rfl⟩) | (go_at_call 42; refine (l1In_any _ _ _ _).mono ?_; rintro e w' ⟨rfl, rfl⟩))
  go_quiet (exact Calls.quiet_of_same (specMulDiv_any _ _ _ _))
  go_wp2_with fail
  go_ret
  exact ⟨rfl, below_drewN (unhide B1) _⟩

set_option maxHeartbeats 1000000 in
theorem implLeastCoal_any {w : World} {v : Value} {ps : List PaceV} (b need work : Int) (h : IsPaces w v ps) :
    Calls Try.prog 15 #[.agg #[.int .i64 b, v], .int .i64 need, .int .i64 work] w fun e w' => e = .returned (.int .i64 (leastV (b, ps) need work)) ∧ Below w.heap.size w w' := by
  have Hv := hide h
  obtain ⟨a, cap, rfl, hc, hm, hrow⟩ := h
  clear hrow
  have k0 := cell_regrown (w := w.alloc (.cells #[.int .i64 b, .slice a ps.length cap] 26)) (a := ⟨w.heap.size, 0, none⟩) (v := .int .i64 b) (by simp)
  have k1 := cell_regrown (w := w.alloc (.cells #[.int .i64 b, .slice a ps.length cap] 26)) (a := ⟨w.heap.size, 1, none⟩) (v := .slice a ps.length cap) (by simp)
  have Ha : Hid (IsPaces (w.alloc (.cells #[.int .i64 b, .slice a ps.length cap] 26)) (.slice a ps.length cap) ps) := hide ((unhide Hv).below ((Below.refl _ _).alloc (Nat.le_refl _) _))
  go_enter Try.func15, Try.ntmps15
  go_wp2_with fail
  refine wp_region_quiet_below (by kernel_rfl) (by kernel_rfl) ?_
  repeat (go_big_quiet_step (first | exact Calls.regrown_of (implPaceFor_any b need ((unhide Ha).below (below_regrown _ _ _))) | exact Calls.regrown_of (implCoalFor_any b _ work ((unhide Ha).below (below_regrown _ _ _)))))
  refine wpQuiet_nil ?_
  intro _ hw'
  obtain ⟨⟨dq, osq⟩, hw''⟩ := hw'
  subst hw''
  go_wp2_with fail
  go_ret
  exact ⟨rfl, ((Below.refl _ _).alloc (Nat.le_refl _) _).trans ((below_regrown _ _ _).mono (by simp))⟩

set_option maxHeartbeats 1000000 in
theorem specLeastCoal_any {w : World} {v : Value} {ps : List PaceV} (b need work : Int) (h : IsPaces w v ps) :
    Calls Try.prog 18 #[.agg #[.int .i64 b, v], .int .i64 need, .int .i64 work] w fun e w' => e = .returned (.int .i64 (leastV (b, ps) need work)) ∧ Below w.heap.size w w' := by
  have Hv := hide h
  obtain ⟨a, cap, rfl, hc, hm, hrow⟩ := h
  clear hrow
  have k0 := cell_regrown (w := w.alloc (.cells #[.int .i64 b, .slice a ps.length cap] 26)) (a := ⟨w.heap.size, 0, none⟩) (v := .int .i64 b) (by simp)
  have k1 := cell_regrown (w := w.alloc (.cells #[.int .i64 b, .slice a ps.length cap] 26)) (a := ⟨w.heap.size, 1, none⟩) (v := .slice a ps.length cap) (by simp)
  have Ha : Hid (IsPaces (w.alloc (.cells #[.int .i64 b, .slice a ps.length cap] 26)) (.slice a ps.length cap) ps) := hide ((unhide Hv).below ((Below.refl _ _).alloc (Nat.le_refl _) _))
  go_enter Try.func18, Try.ntmps18
  go_wp2_with fail
  refine wp_region_quiet_below (by kernel_rfl) (by kernel_rfl) ?_
  repeat (go_big_quiet_step (first | exact Calls.regrown_of (specPaceFor_any b need ((unhide Ha).below (below_regrown _ _ _))) | exact Calls.regrown_of (specCoalFor_any b _ work ((unhide Ha).below (below_regrown _ _ _)))))
  refine wpQuiet_nil ?_
  intro _ hw'
  obtain ⟨⟨dq, osq⟩, hw''⟩ := hw'
  subst hw''
  go_wp2_with fail
  go_ret
  exact ⟨rfl, ((Below.refl _ _).alloc (Nat.le_refl _) _).trans ((below_regrown _ _ _).mono (by simp))⟩

end Go.Proofs.Ytbekkdneldcehaa
