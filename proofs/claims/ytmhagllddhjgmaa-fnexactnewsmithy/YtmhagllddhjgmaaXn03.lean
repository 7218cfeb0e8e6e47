/- What the proof rests on, part 3: lists and numbers, how they lie in memory, and contracts of the calls. No condition but those that a theorem names. -/
import Derived.Test.YtmhagllddhjgmaaXn01
import Derived.Test.YtmhagllddhjgmaaXn02
import Derived.WalkKit
import Derived.ProofKit
import Derived.OpenShut
import Derived.Outline
import Derived.Deep.QuietTactic
import Derived.BigQuiet
import Derived.Laws.OwnMore
import Derived.OwnWalk
import Derived.Lib.QuietBelow
import Derived.Maps.AppendAt
/- Contracts of the model's HallOk, of its count of benches and of its BenchesIn, and of the program's BenchesIn, at whatever hall can be read. No other condition but that what is counted can be added up. -/
namespace Go.Proofs.Ytmhagllddhjgmaa
open Go.ChangeShapes Go.WideShapes Go.ChangeAt Go.RowKit Go.Sort
set_option linter.unusedVariables false

def benchesV (rs : List RoomV) : Int := if hallB rs = true then benchSum rs else -1
theorem benchesV_t {rs : List RoomV} (h : hallB rs = true) : benchesV rs = benchSum rs := by unfold benchesV; rw [if_pos h]
theorem benchesV_f {rs : List RoomV} (h : hallB rs = false) : benchesV rs = -1 := by unfold benchesV; rw [h]; rfl
theorem adds_hall {rs : List RoomV} (h : hallB rs = true) : Adds rs := adds_of (hallB_of h).2.2.1 (hallB_of h).2.1

set_option maxHeartbeats 1000000 in
theorem implBenchesIn_any {w : World} {v : Value} {rs : List RoomV} (h : IsRooms w v rs) :
    Calls Try.prog 20 #[.agg #[v]] w fun e w' => e = .returned (.int .i64 (benchesV rs)) ∧ Below w.heap.size w w' := by
  have Hv := hide h
  obtain ⟨a, cap, rfl, hc, hm, hr⟩ := h
  clear hr
  cases h1 : hallB rs
  · have H1 := hide h1
    clear h1
    go_enter Try.func20, Try.ntmps20
    go_wp2_with fail
    refine (implHallOk_any ((unhide Hv).alloc _)).mono ?_
    rw [unhide H1]
    rintro e w1 ⟨rfl, hb⟩
    go_wp2_with fail
    go_ret
    exact ⟨ret_int (benchesV_f (unhide H1)).symm, ((Below.refl _ _).alloc (Nat.le_refl _) _).trans (hb.mono (by simp))⟩
  · have H1 := hide h1
    clear h1
    go_enter Try.func20, Try.ntmps20
    go_wp2_with fail
    refine (implHallOk_any ((unhide Hv).alloc _)).mono ?_
    rw [unhide H1]
    rintro e w1 ⟨rfl, hb⟩
    have hz : w.heap.size + 1 ≤ w1.heap.size := by have := hb.size; simpa using this
    have hbox : w1.cell? ⟨w.heap.size, 0, none⟩ = some (.slice a rs.length cap) := by rw [hb.cell (p := ⟨w.heap.size, 0, none⟩) (by simp)]; simp
    have hw1 := hide (((unhide Hv).alloc _).below hb)
    have Hb := hide hb
    clear hb
    go_wp2_with fail
    refine (benchesOf_any (unhide hw1) (adds_hall (unhide H1))).mono ?_
    rintro e w2 ⟨rfl, hb2⟩
    have Hb2 := hide hb2
    clear hb2
    go_wp2_with fail
    go_ret
    exact ⟨ret_int (benchesV_t (unhide H1)).symm, ((Below.refl _ _).alloc (Nat.le_refl _) _).trans (((unhide Hb).trans ((unhide Hb2).mono (unhide Hb).size)).mono (by simp))⟩

set_option maxHeartbeats 1000000 in
theorem l4Count_any {w : World} {v : Value} {rs : List RoomV} (h : IsRooms w v rs) (ha : Adds rs) :
    Calls Try.prog 16 #[.agg #[v]] w fun e w' => e = .returned (.int .i64 (benchSum rs)) ∧ Below w.heap.size w w' := by
  obtain ⟨a, cap, rfl, hc, hm, hr⟩ := h
  have Hr := hide hr
  have Ha := hide ha
  clear hr ha
  go_enter Try.func16, Try.ntmps16
  go_wp2_with fail
  go_loop [3, 4] (fun s i => ∃ k : Nat, k ≤ rs.length ∧ i = .int .i64 k ∧ s = .int .i64 (benchSum (rs.take k))) (fun _ i => rs.length - (intOf i).toNat)
  case atStart => exact ⟨0, Nat.zero_le _, rfl, rfl⟩
  case round =>
    obtain ⟨k, hk, rfl, rfl⟩ := hrel
    by_cases hlt : k < rs.length
    · rcases unhide Hr with h0 | ⟨b, off, rfl, hbw, hcl⟩
      · rw [h0] at hlt; simp at hlt
      obtain ⟨c0, pv, c1, hip⟩ := hcl k hlt
      have hne : b ≠ w.heap.size := Nat.ne_of_lt hbw
      have hs0 := unhide Ha k hk
      have hs1 := unhide Ha (k + 1) hlt
      have Hs := hide (benchSum_take rs hlt)
      rw [benchSum_take rs hlt] at hs1
      generalize benchSum (rs.take k) = s at *
      generalize (roomAt rs k).1 = rb at *
      obtain ⟨s0, s1⟩ := hs0
      obtain ⟨s2, s3⟩ := hs1
      clear hcl hip
      go_wp2_with fail
      go_round
      case rel => exact ⟨k + 1, by omega, by go_num, by rw [unhide Hs]⟩
      case measure => simp [intOf]; omega
    · obtain rfl : k = rs.length := by omega
      go_wp2_with fail
      go_ret
      exact ⟨ret_int (by first | rfl | rw [benchSum_all]), (Below.refl _ _).alloc (Nat.le_refl _) _⟩

set_option maxHeartbeats 1000000 in
theorem specHallOk_any {w : World} {v : Value} {rs : List RoomV} (h : IsRooms w v rs) :
    Calls Try.prog 14 #[.agg #[v]] w fun e w' => e = .returned (.bool (hallB rs)) ∧ Below w.heap.size w w' := by
  have Hv := hide h
  obtain ⟨a, cap, rfl, hc, hm, hr⟩ := h
  have Hr := hide hr
  clear hr
  have hl : (rs.length : Int) ≤ 9223372036854775807 := by omega
  go_enter Try.func14, Try.ntmps14
  go_wp2_with fail
  go_loopw [3] (fun i wr => ∃ k : Nat, k ≤ rs.length ∧ i = .int .i64 k ∧ (∀ j, j < k → roomB (roomAt rs j) = true) ∧ Below (w.heap.size + 1) (w.alloc (.cells #[.slice a rs.length cap] 28)) wr) (fun i _ => rs.length - (intOf i).toNat)
  case atStart => exact ⟨0, Nat.zero_le _, rfl, fun j hj => by omega, Below.refl _ _⟩
  case round =>
    obtain ⟨k, hk, rfl, hst, hb⟩ := hrel
    have Hst := hide hst
    have Hb := hide hb
    have hsz : w.heap.size + 1 ≤ wr.heap.size := by have := hb.size; simpa using this
    have hbox : wr.cell? ⟨w.heap.size, 0, none⟩ = some (.slice a rs.length cap) := by rw [hb.cell (p := ⟨w.heap.size, 0, none⟩) (by simp)]; simp
    have hbB : Below w.heap.size w wr := ((Below.refl _ _).alloc (Nat.le_refl _) _).trans (hb.mono (by omega))
    clear hst
    by_cases hlt : k < rs.length
    · rcases unhide Hr with h0 | ⟨b, off, rfl, hbw, hcl⟩
      · rw [h0] at hlt; simp at hlt
      obtain ⟨c0, pv, c1, hip⟩ := hcl k hlt
      rw [← hbB.cell (p := ⟨b, off + k * 2, none⟩) hbw] at c0
      rw [← hbB.cell (p := ⟨b, off + k * 2 + 1, none⟩) hbw] at c1
      have Hip := hide (hip.below hbB)
      obtain ⟨pa, pcap, rfl, _⟩ := hip
      generalize hp : roomAt rs k = p at *
      obtain ⟨rb, ps⟩ := p
      simp only at c0 c1
      have Hp := hide hp
      have HbB := hide hbB
      clear hp hcl hb hbB
      cases hrb : roomB (rb, ps)
      · go_wp2_with fail
        refine (specRoomOk_any rb (unhide Hip)).mono ?_
        rintro e w1 ⟨rfl, hb1⟩
        have Hb1 := hide hb1
        clear hb1
        go_wp2_with fail
        go_ret
        exact ⟨ret_bool (hallB_2 (allRooms_f hlt (by rw [unhide Hp]; exact hrb))).symm, (unhide HbB).trans ((unhide Hb1).mono (unhide HbB).size)⟩
      · go_wp2_with fail
        refine (specRoomOk_any rb (unhide Hip)).mono ?_
        rintro e w1 ⟨rfl, hb1⟩
        have Hb1 := hide hb1
        clear hb1
        go_wp2_with fail
        go_roundw
        case rel => exact ⟨k + 1, by omega, by go_num, next_all (unhide Hst) (by rw [unhide Hp]; exact hrb), (unhide Hb).trans ((unhide Hb1).mono hsz)⟩
        case measure => simp [intOf]; omega
    · obtain rfl : k = rs.length := by omega
      have h2 := allRooms_t (unhide Hst)
      have HbB := hide hbB
      have hw1 := hide ((unhide Hv).below hbB)
      clear hb hbB
      cases h1 : inB rs.length 1 3
      · have H2 := hide (hallB_1 h1)
        clear h2
        go_wp2_with fail
        refine (l1In_any _ _ _ _).mono ?_
        rintro e w' ⟨rfl, rfl⟩
        go_wp2_with fail
        go_ret
        exact ⟨ret_bool (unhide H2).symm, unhide HbB⟩
      · have H3 := hide (hallB_3 h1 h2)
        have Ha := hide (adds_of h2 (by have := inB_of h1; omega))
        clear h2
        go_wp2_with fail
        refine (l1In_any _ _ _ _).mono ?_
        rintro e w' ⟨rfl, rfl⟩
        go_wp2_with fail
        refine (l4Count_any (unhide hw1) (unhide Ha)).mono ?_
        rintro e w2 ⟨rfl, hb2⟩
        have Hb2 := hide hb2
        clear hb2
        go_wp2_with fail
        go_ret
        exact ⟨ret_bool (by rw [unhide H3]), (unhide HbB).trans ((unhide Hb2).mono (unhide HbB).size)⟩

end Go.Proofs.Ytmhagllddhjgmaa

/- Contracts of the laws' own helpers over rooms and halls: how big they are, their copies in memory of their own, and that two that read alike are alike. Conditions: the slices can be read; what is copied is no longer than 2^20. -/
namespace Go.Proofs.Ytmhagllddhjgmaa
open Go.ChangeShapes Go.WideShapes Go.ChangeAt Go.RowKit Go.Sort
set_option linter.unusedVariables false

/-! ### How big -/
theorem szPaceS_any (a : Option Addr) (n cap : Nat) (left : Int) (hn : n ≤ 9223372036854775807) (h0 : 0 ≤ left) (h1 : left ≤ 1048576) (w : World) :
    Calls Try.prog 50 #[.slice a n cap, .int .i64 left] w fun e w' => e = .returned (.int .i64 (szV n left)) ∧ w' = w := by
  by_cases h : left - n < 0
  all_goals
    go_enter Try.func50, Try.ntmps50
    go_wp2
    go_ret
    exact ⟨ret_int (by first | exact (szV_f (by omega)).symm | exact (szV_t (by omega)).symm), rfl⟩

theorem szRoom_any (b : Int) (a : Option Addr) (n cap : Nat) (left : Int) (hn : n ≤ 9223372036854775807) (h0 : 0 ≤ left) (h1 : left ≤ 1048576) (w : World) :
    Calls Try.prog 36 #[.agg #[.int .i64 b, .slice a n cap], .int .i64 left] w fun e w' => e = .returned (.int .i64 (szV n left)) ∧ Below w.heap.size w w' := by
  by_cases h : left - n < 0
  · go_enter Try.func36, Try.ntmps36
    go_wp2_with fail
    refine (szPaceS_any _ _ _ _ hn h0 h1 _).mono ?_
    rw [szV_f (by omega)]
    rintro e w' ⟨rfl, rfl⟩
    go_wp2_with fail
    go_ret
    exact ⟨ret_int (szV_f (by omega)).symm, (Below.refl _ _).alloc (Nat.le_refl _) _⟩
  · go_enter Try.func36, Try.ntmps36
    go_wp2_with fail
    refine (szPaceS_any _ _ _ _ hn h0 h1 _).mono ?_
    rw [szV_t (by omega)]
    rintro e w' ⟨rfl, rfl⟩
    go_wp2_with fail
    go_ret
    exact ⟨ret_int (szV_t (by omega)).symm, (Below.refl _ _).alloc (Nat.le_refl _) _⟩

/-- Nothing in it is longer than 2^20. -/
def Small (rs : List RoomV) : Prop := rs.length ≤ 1048576 ∧ ∀ j, j < rs.length → (roomAt rs j).2.length ≤ 1048576

set_option maxHeartbeats 1000000 in
theorem szRoomS_any {w : World} {v : Value} {rs : List RoomV} (h : IsRooms w v rs) (left : Int) (h0 : 0 ≤ left) (h1 : left ≤ 1048576) :
    Calls Try.prog 13 #[v, .int .i64 left] w fun e w' => ∃ x : Int, e = .returned (.int .i64 x) ∧ x ≤ 1048576 ∧ (0 ≤ x → Small rs) ∧ Below w.heap.size w w' := by
  obtain ⟨a, cap, rfl, hc, hm, hr⟩ := h
  have Hr := hide hr
  clear hr
  by_cases hn : left - rs.length < 0
  · go_enter Try.func13, Try.ntmps13
    go_wp2_with fail
    go_ret
    exact ⟨-1, rfl, by omega, fun h => by omega, Below.refl _ _⟩
  · go_enter Try.func13, Try.ntmps13
    go_wp2_with fail
    go_loopw [1, 5] (fun l i wr => ∃ (k : Nat) (y : Int), k ≤ rs.length ∧ i = .int .i64 k ∧ l = .int .i64 y ∧ 0 ≤ y ∧ y ≤ 1048576 ∧ (∀ j, j < k → (roomAt rs j).2.length ≤ 1048576) ∧ Below w.heap.size w wr) (fun _ i _ => rs.length - (intOf i).toNat)
    case atStart => exact ⟨0, _, Nat.zero_le _, rfl, rfl, by omega, by omega, fun j hj => by omega, Below.refl _ _⟩
    case round =>
      obtain ⟨k, y, hk, rfl, rfl, y0, y1, hst, hb⟩ := hrel
      have Hst := hide hst
      have Hb := hide hb
      clear hst
      by_cases hlt : k < rs.length
      · rcases unhide Hr with h0 | ⟨b, off, rfl, hbw, hcl⟩
        · rw [h0] at hlt; simp at hlt
        obtain ⟨c0, pv, c1, hip⟩ := hcl k hlt
        rw [← hb.cell (p := ⟨b, off + k * 2, none⟩) hbw] at c0
        rw [← hb.cell (p := ⟨b, off + k * 2 + 1, none⟩) hbw] at c1
        obtain ⟨pa, pcap, rfl, hpc, hpm, _⟩ := hip
        generalize hp : (roomAt rs k).2.length = n at *
        generalize (roomAt rs k).1 = rb at *
        have Hp := hide hp
        clear hp hcl hb
        by_cases hy : y - n < 0
        · go_wp2_with fail
          refine (szRoom_any _ _ _ _ _ (by omega) y0 y1 _).mono ?_
          rw [szV_f (by omega)]
          rintro e w1 ⟨rfl, hb1⟩
          have Hb1 := hide hb1
          clear hb1
          go_wp2_with fail
          go_ret
          exact ⟨-1, rfl, by omega, fun h => by omega, (unhide Hb).trans ((unhide Hb1).mono (unhide Hb).size)⟩
        · go_wp2_with fail
          refine (szRoom_any _ _ _ _ _ (by omega) y0 y1 _).mono ?_
          rw [szV_t (by omega)]
          rintro e w1 ⟨rfl, hb1⟩
          have Hb1 := hide hb1
          clear hb1
          go_wp2_with fail
          go_roundw
          case rel => exact ⟨k + 1, y - n, by omega, by go_num, rfl, by omega, by omega, next_all (unhide Hst) (by rw [unhide Hp]; omega), (unhide Hb).trans ((unhide Hb1).mono (unhide Hb).size)⟩
          case measure => simp [intOf]; omega
      · obtain rfl : k = rs.length := by omega
        go_wp2_with fail
        go_ret
        exact ⟨y, rfl, by omega, fun h => ⟨by omega, unhide Hst⟩, hb⟩

set_option maxHeartbeats 1000000 in
theorem szHall_any {w : World} {v : Value} {rs : List RoomV} (h : IsRooms w v rs) (left : Int) (h0 : 0 ≤ left) (h1 : left ≤ 1048576) :
    Calls Try.prog 4 #[.agg #[v], .int .i64 left] w fun e w' => ∃ x : Int, e = .returned (.int .i64 x) ∧ (0 ≤ x → Small rs) ∧ Below w.heap.size w w' := by
  have Hv := hide h
  obtain ⟨a, cap, rfl, hc, hm, hr⟩ := h
  clear hr
  go_enter Try.func4, Try.ntmps4
  go_wp2_with fail
  refine (szRoomS_any ((unhide Hv).alloc _) left h0 h1).mono ?_
  rintro e w1 ⟨x, rfl, x1, hx, hb⟩
  have Hx := hide hx
  have Hb := hide hb
  clear hx hb
  by_cases hx0 : x < 0
  · go_wp2_with fail
    go_ret
    exact ⟨-1, rfl, fun h => by omega, ((Below.refl _ _).alloc (Nat.le_refl _) _).trans ((unhide Hb).mono (by simp))⟩
  · go_wp2_with fail
    go_ret
    exact ⟨x, rfl, unhide Hx, ((Below.refl _ _).alloc (Nat.le_refl _) _).trans ((unhide Hb).mono (by simp))⟩

/-! ### Two that read alike -/
set_option maxHeartbeats 1000000 in
theorem eqPace_yes (f c : Int) (w : World) :
    Calls Try.prog 57 #[.agg #[.int .i64 f, .int .i64 c], .agg #[.int .i64 f, .int .i64 c]] w fun e w' => e = .returned (.bool true) ∧ Below w.heap.size w w' := by
  go_enter Try.func57, Try.ntmps57
  go_wp2_with fail
  go_ret
  exact ⟨rfl, ((Below.refl _ _).alloc (Nat.le_refl _) _).alloc (by simp) _⟩

set_option maxHeartbeats 1000000 in
theorem eqPaceS_yes {w : World} {v u : Value} {ps : List PaceV} (hv : IsPaces w v ps) (hu : IsPaces w u ps) :
    Calls Try.prog 53 #[v, u] w fun e w' => e = .returned (.bool true) ∧ Below w.heap.size w w' := by
  obtain ⟨a, cap, rfl, hc, hm, hr⟩ := hv
  obtain ⟨a', cap', rfl, hc', hm', hr'⟩ := hu
  have Hr := hide hr
  have Hr' := hide hr'
  clear hr hr'
  go_enter Try.func53, Try.ntmps53
  go_wp2_with fail
  go_loopw [5] (fun i wr => ∃ k : Nat, k ≤ ps.length ∧ i = .int .i64 k ∧ Below w.heap.size w wr) (fun i _ => ps.length - (intOf i).toNat)
  case atStart => exact ⟨0, Nat.zero_le _, rfl, Below.refl _ _⟩
  case round =>
    obtain ⟨k, hk, rfl, hb⟩ := hrel
    have Hb := hide hb
    by_cases hlt : k < ps.length
    · rcases unhide Hr with h0 | ⟨b, off, rfl, hbw, hcl⟩
      · rw [h0] at hlt; simp at hlt
      rcases unhide Hr' with h0 | ⟨b', off', rfl, hbw', hcl'⟩
      · rw [h0] at hlt; simp at hlt
      obtain ⟨c0, c1⟩ := hcl k hlt
      obtain ⟨d0, d1⟩ := hcl' k hlt
      rw [← hb.cell (p := ⟨b, off + k * 2, none⟩) hbw] at c0
      rw [← hb.cell (p := ⟨b, off + k * 2 + 1, none⟩) hbw] at c1
      rw [← hb.cell (p := ⟨b', off' + k * 2, none⟩) hbw'] at d0
      rw [← hb.cell (p := ⟨b', off' + k * 2 + 1, none⟩) hbw'] at d1
      generalize (paceAt ps k).1 = f at *
      generalize (paceAt ps k).2 = c at *
      have k0 := cell_regrown c0
      have k1 := cell_regrown c1
      have k2 := cell_regrown d0
      have k3 := cell_regrown d1
      clear hcl hcl' hb c0 c1 d0 d1
      go_wp2_with fail
      refine wp_region_quiet_below (by kernel_rfl) (by kernel_rfl) ?_
      repeat (go_big_quiet_step (exact Calls.regrown_of (eqPace_yes _ _ _)))
      refine wpQuiet_nil ?_
      intro _ hw'
      obtain ⟨⟨dq, osq⟩, hw''⟩ := hw'
      subst hw''
      go_wp2_with fail
      go_roundw
      case rel => exact ⟨k + 1, by omega, by go_num, (unhide Hb).trans ((below_regrown _ _ _).mono (unhide Hb).size)⟩
      case measure => simp [intOf]; omega
    · go_wp2_with fail
      go_ret
      exact ⟨rfl, hb⟩

set_option maxHeartbeats 1000000 in
theorem eqRoom_yes {w : World} {v u : Value} {ps : List PaceV} (rb : Int) (hv : IsPaces w v ps) (hu : IsPaces w u ps) :
    Calls Try.prog 47 #[.agg #[.int .i64 rb, v], .agg #[.int .i64 rb, u]] w fun e w' => e = .returned (.bool true) ∧ Below w.heap.size w w' := by
  have Hv := hide hv
  have Hu := hide hu
  obtain ⟨a, cap, rfl, hc, hm, hr⟩ := hv
  obtain ⟨a', cap', rfl, hc', hm', hr'⟩ := hu
  clear hr hr'
  go_enter Try.func47, Try.ntmps47
  go_wp2_with fail
  refine (eqPaceS_yes ((unhide Hv).below (((Below.refl _ _).alloc (Nat.le_refl _) _).alloc (by simp) _)) ((unhide Hu).below (((Below.refl _ _).alloc (Nat.le_refl _) _).alloc (by simp) _))).mono ?_
  rintro e w1 ⟨rfl, hb⟩
  have Hb := hide hb
  clear hb
  go_wp2_with fail
  go_ret
  exact ⟨rfl, (((Below.refl _ _).alloc (Nat.le_refl _) _).alloc (by simp) _).trans ((unhide Hb).mono (by simp; omega))⟩

set_option maxHeartbeats 1000000 in
theorem eqRoomS_yes {w : World} {v u : Value} {rs : List RoomV} (hv : IsRooms w v rs) (hu : IsRooms w u rs) :
    Calls Try.prog 25 #[v, u] w fun e w' => e = .returned (.bool true) ∧ Below w.heap.size w w' := by
  obtain ⟨a, cap, rfl, hc, hm, hr⟩ := hv
  obtain ⟨a', cap', rfl, hc', hm', hr'⟩ := hu
  have Hr := hide hr
  have Hr' := hide hr'
  clear hr hr'
  go_enter Try.func25, Try.ntmps25
  go_wp2_with fail
  go_loopw [5] (fun i wr => ∃ k : Nat, k ≤ rs.length ∧ i = .int .i64 k ∧ Below w.heap.size w wr) (fun i _ => rs.length - (intOf i).toNat)
  case atStart => exact ⟨0, Nat.zero_le _, rfl, Below.refl _ _⟩
  case round =>
    obtain ⟨k, hk, rfl, hb⟩ := hrel
    have Hb := hide hb
    by_cases hlt : k < rs.length
    · rcases unhide Hr with h0 | ⟨b, off, rfl, hbw, hcl⟩
      · rw [h0] at hlt; simp at hlt
      rcases unhide Hr' with h0 | ⟨b', off', rfl, hbw', hcl'⟩
      · rw [h0] at hlt; simp at hlt
      obtain ⟨c0, pv, c1, hip⟩ := hcl k hlt
      obtain ⟨d0, pu, d1, hiu⟩ := hcl' k hlt
      rw [← hb.cell (p := ⟨b, off + k * 2, none⟩) hbw] at c0
      rw [← hb.cell (p := ⟨b, off + k * 2 + 1, none⟩) hbw] at c1
      rw [← hb.cell (p := ⟨b', off' + k * 2, none⟩) hbw'] at d0
      rw [← hb.cell (p := ⟨b', off' + k * 2 + 1, none⟩) hbw'] at d1
      have Hip := hide (hip.below hb)
      have Hiu := hide (hiu.below hb)
      obtain ⟨pa, pcap, rfl, _⟩ := hip
      obtain ⟨pa', pcap', rfl, _⟩ := hiu
      generalize (roomAt rs k).1 = f at *
      generalize (roomAt rs k).2 = ps at *
      have k0 := cell_regrown c0
      have k1 := cell_regrown c1
      have k2 := cell_regrown d0
      have k3 := cell_regrown d1
      clear hcl hcl' hb c0 c1 d0 d1
      go_wp2_with fail
      refine wp_region_quiet_below (by kernel_rfl) (by kernel_rfl) ?_
      repeat (go_big_quiet_step (exact Calls.regrown_of (eqRoom_yes _ ((unhide Hip).below (below_regrown _ _ _)) ((unhide Hiu).below (below_regrown _ _ _)))))
      refine wpQuiet_nil ?_
      intro _ hw'
      obtain ⟨⟨dq, osq⟩, hw''⟩ := hw'
      subst hw''
      go_wp2_with fail
      go_roundw
      case rel => exact ⟨k + 1, by omega, by go_num, (unhide Hb).trans ((below_regrown _ _ _).mono (unhide Hb).size)⟩
      case measure => simp [intOf]; omega
    · go_wp2_with fail
      go_ret
      exact ⟨rfl, hb⟩

set_option maxHeartbeats 1000000 in
theorem eqHall_yes {w : World} {v u : Value} {rs : List RoomV} (hv : IsRooms w v rs) (hu : IsRooms w u rs) :
    Calls Try.prog 9 #[.agg #[v], .agg #[u]] w fun e w' => e = .returned (.bool true) ∧ Below w.heap.size w w' := by
  have Hv := hide hv
  have Hu := hide hu
  obtain ⟨a, cap, rfl, hc, hm, hr⟩ := hv
  obtain ⟨a', cap', rfl, hc', hm', hr'⟩ := hu
  clear hr hr'
  go_enter Try.func9, Try.ntmps9
  go_wp2_with fail
  refine (eqRoomS_yes ((unhide Hv).below (((Below.refl _ _).alloc (Nat.le_refl _) _).alloc (by simp) _)) ((unhide Hu).below (((Below.refl _ _).alloc (Nat.le_refl _) _).alloc (by simp) _))).mono ?_
  rintro e w1 ⟨rfl, hb⟩
  have Hb := hide hb
  clear hb
  go_wp2_with fail
  go_ret
  exact ⟨rfl, (((Below.refl _ _).alloc (Nat.le_refl _) _).alloc (by simp) _).trans ((unhide Hb).mono (by simp; omega))⟩

end Go.Proofs.Ytmhagllddhjgmaa

/- Contracts of the laws' copies of paces, rooms and halls: what is copied reads as what it was copied of, in memory of its own. Conditions: the slices can be read and are no longer than 2^20. -/
namespace Go.Proofs.Ytmhagllddhjgmaa
open Go.ChangeShapes Go.WideShapes Go.ChangeAt Go.RowKit Go.Sort
set_option linter.unusedVariables false

theorem infoPace : (Try.prog.info? 75).map (fun i => (i.zero, i.size, i.bytes)) = some (some (.agg #[.int .i64 0, .int .i64 0]), 2, 16) := by kernel_rfl
theorem infoRoom : (Try.prog.info? 67).map (fun i => (i.zero, i.size, i.bytes)) = some (some (.agg #[.int .i64 0, .slice none 0 0]), 2, 32) := by kernel_rfl

theorem toPace_any (f c : Int) (w : World) :
    Calls Try.prog 55 #[.agg #[.int .i64 f, .int .i64 c]] w fun e w' => e = .returned (.agg #[.int .i64 f, .int .i64 c]) ∧ Below w.heap.size w w' := by
  go_enter Try.func55, Try.ntmps55
  go_wp2_with fail
  exact bodyPost_ret (v := .agg #[.int .i64 f, .int .i64 c]) (by simp [results, Try.results55, go_sem]) rfl ⟨rfl, (((Below.refl _ _).alloc (Nat.le_refl _) _).alloc (by simp) _).alloc (by simp; omega) _⟩

set_option maxHeartbeats 2000000 in
theorem toPaceS_any {w : World} {v : Value} {ps : List PaceV} (h : IsPaces w v ps) (hs : ps.length ≤ 1048576) :
    Calls Try.prog 51 #[v] w fun e w' => ∃ v', e = .returned v' ∧ IsPaces w' v' ps ∧ (∀ k, v'.ownBlock = some k → w.heap.size ≤ k) ∧ Below w.heap.size w w' := by
  obtain ⟨a, cap, rfl, hc, hm, hr⟩ := h
  have Hr := hide hr
  clear hr
  obtain ⟨i0, hi, hz0, hz1, hz2⟩ := info_parts infoPace
  go_enter Try.func51, Try.ntmps51
  go_wp2_with (at_make; refine wpList_make_full _ rfl _ _ 65 rfl w.heap.size 75 i0 (.agg #[.int .i64 0, .int .i64 0]) 2 Try.underlying65 hi hz0 hz1 _ _ _ _ ps.length rfl rfl rfl rfl (by rw [hz2]; omega) (by unfold maxLen; omega) (Nat.le_refl _) ?_; intro w0 hown hgrow)
  have Hown := hide hown
  have Hgr := hide hgrow
  clear hown hgrow
  go_loopw [4] (fun i wr => ∃ k : Nat, k ≤ ps.length ∧ i = .int .i64 k ∧ ∃ xs, wr.ownsRow w.heap.size 75 2 (.slice (some ⟨w.heap.size, 0, none⟩) ps.length ps.length) ps.length xs ∧ Pairs xs (isPaceOf ps) k ∧ Below w.heap.size w wr) (fun i _ => ps.length - (intOf i).toNat)
  case atStart => exact ⟨0, Nat.zero_le _, rfl, _, unhide Hown, fun j hj => by omega, (Below.refl _ _).grown (unhide Hgr) (Nat.le_refl _) (fun k e => by cases e)⟩
  case round =>
    obtain ⟨k, hk, rfl, xs, hown, hpr, hb⟩ := hrel
    have Hb := hide hb
    by_cases hlt : k < ps.length
    · rcases unhide Hr with h0 | ⟨b, off, rfl, hbw, hcl⟩
      · rw [h0] at hlt; simp at hlt
      obtain ⟨c0, c1⟩ := hcl k hlt
      rw [← hb.cell (p := ⟨b, off + k * 2, none⟩) hbw] at c0
      rw [← hb.cell (p := ⟨b, off + k * 2 + 1, none⟩) hbw] at c1
      have hxs : xs.length = ps.length * 2 := hown.1
      have Ho := hide hown
      have Hpr := hide hpr
      generalize hp : paceAt ps k = p at c0 c1
      obtain ⟨f, c⟩ := p
      simp only at c0 c1
      have Hp := hide hp
      clear hcl hb hown hpr hp
      go_wp2_with fail
      refine (toPace_any _ _ _).mono ?_
      rintro e w1 ⟨rfl, hb1⟩
      have ho1 := own_later (unhide Ho) hb1
      obtain ⟨⟨x0, y0⟩, z0⟩ := own_cell ho1 (j := k * 2) (by omega)
      obtain ⟨⟨x1, y1⟩, z1⟩ := own_cell ho1 (j := k * 2 + 1) (by omega)
      have Hp2 := hide (own_pair ho1 (k * 2) (.int .i64 f) (.int .i64 c))
      have Hb1 := hide hb1
      have hsz := hb1.size
      have hsz0 := (unhide Hb).size
      clear ho1 hb1
      go_wp2_with fail
      go_roundw
      case rel => exact ⟨k + 1, by omega, by go_num, _, (unhide Hp2).1, (unhide Hpr).next (by omega) ⟨by rw [unhide Hp], by rw [unhide Hp]⟩, ((unhide Hb).trans ((unhide Hb1).mono hsz0)).trans (below_grown (unhide Hp2).2 (Nat.le_refl _) (by omega))⟩
      case measure => simp [intOf]; omega
    · obtain rfl : k = ps.length := by omega
      go_wp2_with fail
      go_ret
      exact ⟨_, rfl, IsPaces.of_row hown hpr rfl, fun k e => by cases e; exact Nat.le_refl _, hb⟩

end Go.Proofs.Ytmhagllddhjgmaa

