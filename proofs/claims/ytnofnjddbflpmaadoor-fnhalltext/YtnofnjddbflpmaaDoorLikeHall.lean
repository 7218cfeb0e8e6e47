/- The law's own comparison of two halls: at two that read alike it answers true and writes into no memory that was there. No other condition. -/
import Derived.Test.YtnofnjddbflpmaaDoorHallTo
namespace Go.Proofs.YtnofnjddbflpmaaDoor
open Go.ChangeShapes Go.WideShapes Go.ChangeAt Go.RowKit
set_option linter.unusedVariables false

set_option maxRecDepth 100000 in
set_option maxHeartbeats 8000000 in
theorem likeHall_yes {w : World} {v u : Value} {rs : List RoomV} (hv : IsRooms w v rs) (hu : IsRooms w u rs) :
    Calls Tryd.prog 12 #[.agg #[v], .agg #[u]] w fun e w' => e = .returned (.bool true) ∧ Below w.heap.size w w' := by
  have Hv := hide hv
  have Hu := hide hu
  obtain ⟨a, cap, rfl, hc, hm, hr⟩ := hv
  obtain ⟨a', cap', rfl, hc', hm', hr'⟩ := hu
  clear hr hr'
  go_enter Tryd.func12, Tryd.ntmps12
  go_wp2_with fail
  have B0 : Hid (Below w.heap.size w ((w.alloc (.cells #[.slice a rs.length cap] 26)).alloc (.cells #[.slice a' rs.length cap'] 26))) := hide (((Below.refl _ _).alloc (Nat.le_refl _) _).alloc (by simp) _)
  go_loopw [5] (fun i wr => ∃ k : Nat, k ≤ rs.length ∧ i = .int .i64 k ∧ Below (w.heap.size + 2) ((w.alloc (.cells #[.slice a rs.length cap] 26)).alloc (.cells #[.slice a' rs.length cap'] 26)) wr) (fun i _ => rs.length - (intOf i).toNat)
  case atStart => exact ⟨0, Nat.zero_le _, rfl, Below.refl _ _⟩
  case round =>
    obtain ⟨k, hk, rfl, hb⟩ := hrel
    have Hb := hide hb
    have hzr : w.heap.size + 2 ≤ wr.heap.size := by have := hb.size; simpa using this
    have c0 : wr.cell? ⟨w.heap.size, 0, none⟩ = some (.slice a rs.length cap) := (hb.cell (p := ⟨w.heap.size, 0, none⟩) (by show w.heap.size < w.heap.size + 2; omega)).trans (by simp)
    have c1 : wr.cell? ⟨w.heap.size + 1, 0, none⟩ = some (.slice a' rs.length cap') := (hb.cell (p := ⟨w.heap.size + 1, 0, none⟩) (by show w.heap.size + 1 < w.heap.size + 2; omega)).trans (by simp)
    have BW : Hid (Below w.heap.size w wr) := hide ((unhide B0).trans (hb.mono (by omega)))
    clear hb
    by_cases hlt : k < rs.length
    · obtain ⟨_, _, e1, _, _, hr⟩ := unhide Hv
      obtain ⟨_, _, e2, _, _, hr'⟩ := unhide Hu
      cases e1
      cases e2
      rcases hr with h0 | ⟨b, off, rfl, hbw, hcl⟩
      · rw [h0] at hlt; simp at hlt
      rcases hr' with h0 | ⟨b', off', rfl, hbw', hcl'⟩
      · rw [h0] at hlt; simp at hlt
      obtain ⟨d0, pv, d1, hip⟩ := hcl k hlt
      obtain ⟨d2, pu, d3, hiu⟩ := hcl' k hlt
      rw [← (unhide BW).cell (p := ⟨b, off + k * 2, none⟩) hbw] at d0
      rw [← (unhide BW).cell (p := ⟨b, off + k * 2 + 1, none⟩) hbw] at d1
      rw [← (unhide BW).cell (p := ⟨b', off' + k * 2, none⟩) hbw'] at d2
      rw [← (unhide BW).cell (p := ⟨b', off' + k * 2 + 1, none⟩) hbw'] at d3
      have Hip := hide (hip.below (unhide BW))
      have Hiu := hide (hiu.below (unhide BW))
      obtain ⟨pa, pcap, rfl, hpc, hpm, _⟩ := hip
      obtain ⟨pa', pcap', rfl, hpc', hpm', _⟩ := hiu
      generalize (roomAt rs k).1 = f at *
      generalize (roomAt rs k).2 = ps at *
      clear hcl hcl'
      have k0 := cell_regrown c0
      have k1 := cell_regrown c1
      have k2 := cell_regrown d0
      have k3 := cell_regrown d1
      have k4 := cell_regrown d2
      have k5 := cell_regrown d3
      go_wp2_with fail
      refine wp_region_quiet_below (by kernel_rfl) (by kernel_rfl) ?_
      repeat (go_big_quiet_step (fail))
      refine wpQuiet_nil ?_
      intro _ hw'
      obtain ⟨⟨dq, osq⟩, hw''⟩ := hw'
      subst hw''
      have Hbq := hide (below_regrown wr dq osq)
      have e0 := k0 dq osq
      have e1 := k1 dq osq
      have e2 := k2 dq osq
      have e3 := k3 dq osq
      have e4 := k4 dq osq
      have e5 := k5 dq osq
      clear k0 k1 k2 k3 k4 k5 c0 c1 d0 d1 d2 d3
      obtain ⟨w1, hw1⟩ : ∃ w1, w1 = Go.Sort.grow (Go.redrawn wr dq) osq := ⟨_, rfl⟩
      rw [← hw1] at Hbq e0 e1 e2 e3 e4 e5 ⊢
      clear hw1
      have HB1 := hide ((unhide BW).trans ((unhide Hbq).mono (unhide BW).size))
      go_wp2_with fail
      obtain ⟨wo, hwo⟩ : ∃ wo, wo = wr := ⟨wr, rfl⟩
      rw [← hwo] at *
      clear hwo
      go_loopw [6] (fun i wr => ∃ j : Nat, j ≤ ps.length ∧ i = .int .i64 j ∧ Below w1.heap.size w1 wr) (fun i _ => ps.length - (intOf i).toNat)
      case atStart => exact ⟨0, Nat.zero_le _, rfl, Below.refl _ _⟩
      case round =>
        obtain ⟨j, hj, rfl, hbr⟩ := hrel
        have Hbr := hide hbr
        have HBr := hide ((unhide HB1).trans (hbr.mono (unhide HB1).size))
        have hz1 := (unhide Hbq).size
        have f0 := (hbr.cell (World.block_lt_of_cell? _ _ e0)).trans e0
        have f1 := (hbr.cell (World.block_lt_of_cell? _ _ e1)).trans e1
        have f3 := (hbr.cell (World.block_lt_of_cell? _ _ e3)).trans e3
        have f5 := (hbr.cell (World.block_lt_of_cell? _ _ e5)).trans e5
        clear hbr
        by_cases hjl : j < ps.length
        · obtain ⟨_, _, g1, _, _, hr⟩ := (unhide Hip).below ((unhide Hbq).trans ((unhide Hbr).mono hz1))
          obtain ⟨_, _, g2, _, _, hr'⟩ := (unhide Hiu).below ((unhide Hbq).trans ((unhide Hbr).mono hz1))
          cases g1
          cases g2
          rcases hr with h0 | ⟨pb, poff, rfl, hpbw, hpl⟩
          · rw [h0] at hjl; simp at hjl
          rcases hr' with h0 | ⟨pb', poff', rfl, hpbw', hpl'⟩
          · rw [h0] at hjl; simp at hjl
          obtain ⟨c0, c1⟩ := hpl j hjl
          obtain ⟨d0, d1⟩ := hpl' j hjl
          generalize (paceAt ps j).1 = x at *
          generalize (paceAt ps j).2 = y at *
          have k0 := cell_regrown f0
          have k1 := cell_regrown f1
          have k3 := cell_regrown f3
          have k5 := cell_regrown f5
          have k6 := cell_regrown c0
          have k7 := cell_regrown c1
          have k8 := cell_regrown d0
          have k9 := cell_regrown d1
          clear hpl hpl' e0 e1 e2 e3 e4 e5
          go_wp2_with fail
          refine wp_region_quiet_below (by kernel_rfl) (by kernel_rfl) ?_
          repeat (go_big_quiet_step (fail))
          refine wpQuiet_nil ?_
          intro _ hw'
          obtain ⟨⟨dr, osr⟩, hw''⟩ := hw'
          subst hw''
          go_wp2_with fail
          go_roundw
          case rel => exact ⟨j + 1, by omega, by go_num, (unhide Hbr).trans ((below_regrown _ _ _).mono (unhide Hbr).size)⟩
          case measure => simp [intOf]; omega
        · go_wp2_with fail
          go_roundw
          case rel => exact ⟨k + 1, by omega, by go_num, (unhide Hb).trans (((unhide Hbq).trans ((unhide Hbr).mono hz1)).mono hzr)⟩
          case measure => simp [intOf]; omega
    · go_wp2_with fail
      go_ret
      exact ⟨rfl, unhide BW⟩

end Go.Proofs.YtnofnjddbflpmaaDoor
