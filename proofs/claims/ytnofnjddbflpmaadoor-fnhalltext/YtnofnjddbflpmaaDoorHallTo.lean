/- Contracts of the laws' own helpers over rooms and halls: how big they are, their copies in memory of their own, and that two that read alike are alike. Conditions: the slices can be read; what is copied is no longer than 2^20. -/
import Derived.Test.YtnofnjddbflpmaaDoorHallSpec
namespace Go.Proofs.YtnofnjddbflpmaaDoor
open Go.ChangeShapes Go.WideShapes Go.ChangeAt Go.RowKit Go.Sort
set_option linter.unusedVariables false

/-! ### How big -/
def szV (n : Nat) (left : Int) : Int := if left - n < 0 then -1 else left - n
theorem szV_f {n : Nat} {left : Int} (h : left - n < 0) : szV n left = -1 := by unfold szV; rw [if_pos h]
theorem szV_t {n : Nat} {left : Int} (h : ¬ left - n < 0) : szV n left = left - n := by unfold szV; rw [if_neg h]

theorem szPaceS_any (a : Option Addr) (n cap : Nat) (left : Int) (hn : n ≤ 9223372036854775807) (h0 : 0 ≤ left) (h1 : left ≤ 1048576) (w : World) :
    Calls Tryd.prog 74 #[.slice a n cap, .int .i64 left] w fun e w' => e = .returned (.int .i64 (szV n left)) ∧ w' = w := by
  by_cases h : left - n < 0
  all_goals
    go_enter Tryd.func74, Tryd.ntmps74
    go_wp2
    go_ret
    exact ⟨ret_int (by first | exact (szV_f (by omega)).symm | exact (szV_t (by omega)).symm), rfl⟩

theorem szRoom_any (b : Int) (a : Option Addr) (n cap : Nat) (left : Int) (hn : n ≤ 9223372036854775807) (h0 : 0 ≤ left) (h1 : left ≤ 1048576) (w : World) :
    Calls Tryd.prog 60 #[.agg #[.int .i64 b, .slice a n cap], .int .i64 left] w fun e w' => e = .returned (.int .i64 (szV n left)) ∧ Below w.heap.size w w' := by
  by_cases h : left - n < 0
  · go_enter Tryd.func60, Tryd.ntmps60
    go_wp2_with fail
    refine (szPaceS_any _ _ _ _ hn h0 h1 _).mono ?_
    rw [szV_f (by omega)]
    rintro e w' ⟨rfl, rfl⟩
    go_wp2_with fail
    go_ret
    exact ⟨ret_int (szV_f (by omega)).symm, (Below.refl _ _).alloc (Nat.le_refl _) _⟩
  · go_enter Tryd.func60, Tryd.ntmps60
    go_wp2_with fail
    refine (szPaceS_any _ _ _ _ hn h0 h1 _).mono ?_
    rw [szV_t (by omega)]
    rintro e w' ⟨rfl, rfl⟩
    go_wp2_with fail
    go_ret
    exact ⟨ret_int (szV_t (by omega)).symm, (Below.refl _ _).alloc (Nat.le_refl _) _⟩

/-- Nothing in it is longer than 2^20. -/
def Small (rs : List RoomV) : Prop := rs.length ≤ 1048576 ∧ ∀ j, j < rs.length → (roomAt rs j).2.length ≤ 1048576

set_option maxHeartbeats 1000000 in
theorem szRoomS_any {w : World} {v : Value} {rs : List RoomV} (h : IsRooms w v rs) (left : Int) (h0 : 0 ≤ left) (h1 : left ≤ 1048576) :
    Calls Tryd.prog 42 #[v, .int .i64 left] w fun e w' => ∃ x : Int, e = .returned (.int .i64 x) ∧ x ≤ 1048576 ∧ (0 ≤ x → Small rs) ∧ Below w.heap.size w w' := by
  obtain ⟨a, cap, rfl, hc, hm, hr⟩ := h
  have Hr := hide hr
  clear hr
  by_cases hn : left - rs.length < 0
  · go_enter Tryd.func42, Tryd.ntmps42
    go_wp2_with fail
    go_ret
    exact ⟨-1, rfl, by omega, fun h => by omega, Below.refl _ _⟩
  · go_enter Tryd.func42, Tryd.ntmps42
    go_wp2_with fail
    go_loopw [1, 5] (fun l i wr => ∃ (k : Nat) (y : Int), k ≤ rs.length ∧ i = .int .i64 k ∧ l = .int .i64 y ∧ 0 ≤ y ∧ y ≤ 1048576 ∧ (∀ j, j < k → (roomAt rs j).2.length ≤ 1048576) ∧ Below w.heap.size w wr) (fun _ i _ => rs.length - (intOf i).toNat)
    case atStart => exact ⟨0, _, Nat.zero_le _, rfl, rfl, by omega, by omega, fun j hj => by omega, Below.refl _ _⟩
    case round =>
      obtain ⟨k, y, hk, rfl, rfl, y0, y1, hst, hb⟩ := hrel
      have Hst := hide hst
      have Hb := hide hb
      clear hst
      by_cases hlt : k < rs.length
      · rcases unhide Hr with h0 | ⟨b, off, rfl, hbw, hcl⟩
        · rw [h0] at hlt; simp at hlt
        obtain ⟨c0, pv, c1, hip⟩ := hcl k hlt
        rw [← hb.cell (p := ⟨b, off + k * 2, none⟩) hbw] at c0
        rw [← hb.cell (p := ⟨b, off + k * 2 + 1, none⟩) hbw] at c1
        obtain ⟨pa, pcap, rfl, hpc, hpm, _⟩ := hip
        generalize hp : (roomAt rs k).2.length = n at *
        generalize (roomAt rs k).1 = rb at *
        have Hp := hide hp
        clear hp hcl hb
        by_cases hy : y - n < 0
        · go_wp2_with fail
          refine (szRoom_any _ _ _ _ _ (by omega) y0 y1 _).mono ?_
          rw [szV_f (by omega)]
          rintro e w1 ⟨rfl, hb1⟩
          have Hb1 := hide hb1
          clear hb1
          go_wp2_with fail
          go_ret
          exact ⟨-1, rfl, by omega, fun h => by omega, (unhide Hb).trans ((unhide Hb1).mono (unhide Hb).size)⟩
        · go_wp2_with fail
          refine (szRoom_any _ _ _ _ _ (by omega) y0 y1 _).mono ?_
          rw [szV_t (by omega)]
          rintro e w1 ⟨rfl, hb1⟩
          have Hb1 := hide hb1
          clear hb1
          go_wp2_with fail
          go_roundw
          case rel => exact ⟨k + 1, y - n, by omega, by go_num, rfl, by omega, by omega, next_all (unhide Hst) (by rw [unhide Hp]; omega), (unhide Hb).trans ((unhide Hb1).mono (unhide Hb).size)⟩
          case measure => simp [intOf]; omega
      · obtain rfl : k = rs.length := by omega
        go_wp2_with fail
        go_ret
        exact ⟨y, rfl, by omega, fun h => ⟨by omega, unhide Hst⟩, hb⟩

set_option maxHeartbeats 1000000 in
theorem szHall_any {w : World} {v : Value} {rs : List RoomV} (h : IsRooms w v rs) (left : Int) (h0 : 0 ≤ left) (h1 : left ≤ 1048576) :
    Calls Tryd.prog 18 #[.agg #[v], .int .i64 left] w fun e w' => ∃ x : Int, e = .returned (.int .i64 x) ∧ (0 ≤ x → Small rs) ∧ Below w.heap.size w w' := by
  have Hv := hide h
  obtain ⟨a, cap, rfl, hc, hm, hr⟩ := h
  clear hr
  go_enter Tryd.func18, Tryd.ntmps18
  go_wp2_with fail
  refine (szRoomS_any ((unhide Hv).alloc _) left h0 h1).mono ?_
  rintro e w1 ⟨x, rfl, x1, hx, hb⟩
  have Hx := hide hx
  have Hb := hide hb
  clear hx hb
  by_cases hx0 : x < 0
  · go_wp2_with fail
    go_ret
    exact ⟨-1, rfl, fun h => by omega, ((Below.refl _ _).alloc (Nat.le_refl _) _).trans ((unhide Hb).mono (by simp))⟩
  · go_wp2_with fail
    go_ret
    exact ⟨x, rfl, unhide Hx, ((Below.refl _ _).alloc (Nat.le_refl _) _).trans ((unhide Hb).mono (by simp))⟩

/-! ### Two that read alike -/
set_option maxHeartbeats 1000000 in
theorem eqPace_yes (f c : Int) (w : World) :
    Calls Tryd.prog 88 #[.agg #[.int .i64 f, .int .i64 c], .agg #[.int .i64 f, .int .i64 c]] w fun e w' => e = .returned (.bool true) ∧ Below w.heap.size w w' := by
  go_enter Tryd.func88, Tryd.ntmps88
  go_wp2_with fail
  go_ret
  exact ⟨rfl, ((Below.refl _ _).alloc (Nat.le_refl _) _).alloc (by simp) _⟩

set_option maxHeartbeats 1000000 in
theorem eqPaceS_yes {w : World} {v u : Value} {ps : List PaceV} (hv : IsPaces w v ps) (hu : IsPaces w u ps) :
    Calls Tryd.prog 73 #[v, u] w fun e w' => e = .returned (.bool true) ∧ Below w.heap.size w w' := by
  obtain ⟨a, cap, rfl, hc, hm, hr⟩ := hv
  obtain ⟨a', cap', rfl, hc', hm', hr'⟩ := hu
  have Hr := hide hr
  have Hr' := hide hr'
  clear hr hr'
  go_enter Tryd.func73, Tryd.ntmps73
  go_wp2_with fail
  go_loopw [5] (fun i wr => ∃ k : Nat, k ≤ ps.length ∧ i = .int .i64 k ∧ Below w.heap.size w wr) (fun i _ => ps.length - (intOf i).toNat)
  case atStart => exact ⟨0, Nat.zero_le _, rfl, Below.refl _ _⟩
  case round =>
    obtain ⟨k, hk, rfl, hb⟩ := hrel
    have Hb := hide hb
    by_cases hlt : k < ps.length
    · rcases unhide Hr with h0 | ⟨b, off, rfl, hbw, hcl⟩
      · rw [h0] at hlt; simp at hlt
      rcases unhide Hr' with h0 | ⟨b', off', rfl, hbw', hcl'⟩
      · rw [h0] at hlt; simp at hlt
      obtain ⟨c0, c1⟩ := hcl k hlt
      obtain ⟨d0, d1⟩ := hcl' k hlt
      rw [← hb.cell (p := ⟨b, off + k * 2, none⟩) hbw] at c0
      rw [← hb.cell (p := ⟨b, off + k * 2 + 1, none⟩) hbw] at c1
      rw [← hb.cell (p := ⟨b', off' + k * 2, none⟩) hbw'] at d0
      rw [← hb.cell (p := ⟨b', off' + k * 2 + 1, none⟩) hbw'] at d1
      generalize (paceAt ps k).1 = f at *
      generalize (paceAt ps k).2 = c at *
      have k0 := cell_regrown c0
      have k1 := cell_regrown c1
      have k2 := cell_regrown d0
      have k3 := cell_regrown d1
      clear hcl hcl' hb c0 c1 d0 d1
      go_wp2_with fail
      refine wp_region_quiet_below (by kernel_rfl) (by kernel_rfl) ?_
      repeat (go_big_quiet_step (exact Calls.regrown_of (eqPace_yes _ _ _)))
      refine wpQuiet_nil ?_
      intro _ hw'
      obtain ⟨⟨dq, osq⟩, hw''⟩ := hw'
      subst hw''
      go_wp2_with fail
      go_roundw
      case rel => exact ⟨k + 1, by omega, by go_num, (unhide Hb).trans ((below_regrown _ _ _).mono (unhide Hb).size)⟩
      case measure => simp [intOf]; omega
    · go_wp2_with fail
      go_ret
      exact ⟨rfl, hb⟩

set_option maxHeartbeats 1000000 in
theorem eqRoom_yes {w : World} {v u : Value} {ps : List PaceV} (rb : Int) (hv : IsPaces w v ps) (hu : IsPaces w u ps) :
    Calls Tryd.prog 57 #[.agg #[.int .i64 rb, v], .agg #[.int .i64 rb, u]] w fun e w' => e = .returned (.bool true) ∧ Below w.heap.size w w' := by
  have Hv := hide hv
  have Hu := hide hu
  obtain ⟨a, cap, rfl, hc, hm, hr⟩ := hv
  obtain ⟨a', cap', rfl, hc', hm', hr'⟩ := hu
  clear hr hr'
  go_enter Tryd.func57, Tryd.ntmps57
  go_wp2_with fail
  refine (eqPaceS_yes ((unhide Hv).below (((Below.refl _ _).alloc (Nat.le_refl _) _).alloc (by simp) _)) ((unhide Hu).below (((Below.refl _ _).alloc (Nat.le_refl _) _).alloc (by simp) _))).mono ?_
  rintro e w1 ⟨rfl, hb⟩
  have Hb := hide hb
  clear hb
  go_wp2_with fail
  go_ret
  exact ⟨rfl, (((Below.refl _ _).alloc (Nat.le_refl _) _).alloc (by simp) _).trans ((unhide Hb).mono (by simp; omega))⟩

set_option maxHeartbeats 1000000 in
theorem eqRoomS_yes {w : World} {v u : Value} {rs : List RoomV} (hv : IsRooms w v rs) (hu : IsRooms w u rs) :
    Calls Tryd.prog 39 #[v, u] w fun e w' => e = .returned (.bool true) ∧ Below w.heap.size w w' := by
  obtain ⟨a, cap, rfl, hc, hm, hr⟩ := hv
  obtain ⟨a', cap', rfl, hc', hm', hr'⟩ := hu
  have Hr := hide hr
  have Hr' := hide hr'
  clear hr hr'
  go_enter Tryd.func39, Tryd.ntmps39
  go_wp2_with fail
  go_loopw [5] (fun i wr => ∃ k : Nat, k ≤ rs.length ∧ i = .int .i64 k ∧ Below w.heap.size w wr) (fun i _ => rs.length - (intOf i).toNat)
  case atStart => exact ⟨0, Nat.zero_le _, rfl, Below.refl _ _⟩
  case round =>
    obtain ⟨k, hk, rfl, hb⟩ := hrel
    have Hb := hide hb
    by_cases hlt : k < rs.length
    · rcases unhide Hr with h0 | ⟨b, off, rfl, hbw, hcl⟩
      · rw [h0] at hlt; simp at hlt
      rcases unhide Hr' with h0 | ⟨b', off', rfl, hbw', hcl'⟩
      · rw [h0] at hlt; simp at hlt
      obtain ⟨c0, pv, c1, hip⟩ := hcl k hlt
      obtain ⟨d0, pu, d1, hiu⟩ := hcl' k hlt
      rw [← hb.cell (p := ⟨b, off + k * 2, none⟩) hbw] at c0
      rw [← hb.cell (p := ⟨b, off + k * 2 + 1, none⟩) hbw] at c1
      rw [← hb.cell (p := ⟨b', off' + k * 2, none⟩) hbw'] at d0
      rw [← hb.cell (p := ⟨b', off' + k * 2 + 1, none⟩) hbw'] at d1
      have Hip := hide (hip.below hb)
      have Hiu := hide (hiu.below hb)
      obtain ⟨pa, pcap, rfl, _⟩ := hip
      obtain ⟨pa', pcap', rfl, _⟩ := hiu
      generalize (roomAt rs k).1 = f at *
      generalize (roomAt rs k).2 = ps at *
      have k0 := cell_regrown c0
      have k1 := cell_regrown c1
      have k2 := cell_regrown d0
      have k3 := cell_regrown d1
      clear hcl hcl' hb c0 c1 d0 d1
      go_wp2_with fail
      refine wp_region_quiet_below (by kernel_rfl) (by kernel_rfl) ?_
      repeat (go_big_quiet_step (exact Calls.regrown_of (eqRoom_yes _ ((unhide Hip).below (below_regrown _ _ _)) ((unhide Hiu).below (below_regrown _ _ _)))))
      refine wpQuiet_nil ?_
      intro _ hw'
      obtain ⟨⟨dq, osq⟩, hw''⟩ := hw'
      subst hw''
      go_wp2_with fail
      go_roundw
      case rel => exact ⟨k + 1, by omega, by go_num, (unhide Hb).trans ((below_regrown _ _ _).mono (unhide Hb).size)⟩
      case measure => simp [intOf]; omega
    · go_wp2_with fail
      go_ret
      exact ⟨rfl, hb⟩

set_option maxHeartbeats 1000000 in
theorem eqHall_yes {w : World} {v u : Value} {rs : List RoomV} (hv : IsRooms w v rs) (hu : IsRooms w u rs) :
    Calls Tryd.prog 15 #[.agg #[v], .agg #[u]] w fun e w' => e = .returned (.bool true) ∧ Below w.heap.size w w' := by
  have Hv := hide hv
  have Hu := hide hu
  obtain ⟨a, cap, rfl, hc, hm, hr⟩ := hv
  obtain ⟨a', cap', rfl, hc', hm', hr'⟩ := hu
  clear hr hr'
  go_enter Tryd.func15, Tryd.ntmps15
  go_wp2_with fail
  refine (eqRoomS_yes ((unhide Hv).below (((Below.refl _ _).alloc (Nat.le_refl _) _).alloc (by simp) _)) ((unhide Hu).below (((Below.refl _ _).alloc (Nat.le_refl _) _).alloc (by simp) _))).mono ?_
  rintro e w1 ⟨rfl, hb⟩
  have Hb := hide hb
  clear hb
  go_wp2_with fail
  go_ret
  exact ⟨rfl, (((Below.refl _ _).alloc (Nat.le_refl _) _).alloc (by simp) _).trans ((unhide Hb).mono (by simp; omega))⟩

end Go.Proofs.YtnofnjddbflpmaaDoor
