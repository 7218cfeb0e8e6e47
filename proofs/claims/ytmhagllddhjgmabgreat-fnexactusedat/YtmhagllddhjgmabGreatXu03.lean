/- What the proof rests on, part 3: lists and numbers, how they lie in memory, and contracts of the calls. No condition but those that a theorem names. -/
import Derived.Test.YtmhagllddhjgmabGreatXu01
import Derived.Test.YtmhagllddhjgmabGreatXu02
import Derived.WalkKit
import Derived.ProofKit
import Derived.OpenShut
import Derived.Outline
import Derived.Deep.QuietTactic
import Derived.BigQuiet
import Derived.Laws.OwnMore
import Derived.OwnWalk
import Derived.Lib.QuietBelow
import Derived.Maps.AppendAt
/- Contracts of HallOk, of the count of benches and of BenchesIn, the program's and the model's, at whatever hall can be read. No other condition but that what is counted can be added up. -/
namespace Go.Proofs.YtmhagllddhjgmabGreat
open Go.ChangeShapes Go.WideShapes Go.ChangeAt Go.RowKit Go.Sort
set_option linter.unusedVariables false

/-- What adds up without overflow. -/
def Adds (rs : List RoomV) : Prop := ∀ k, k ≤ rs.length → 0 ≤ benchSum (rs.take k) ∧ benchSum (rs.take k) ≤ 1000000
theorem adds_of {rs : List RoomV} (h : rs.all roomB = true) (hl : rs.length ≤ 3) : Adds rs := fun k hk => by have := benchSum_bd h k hk; omega
set_option maxHeartbeats 1000000 in
theorem roomsOk_any {w : World} {v : Value} {rs : List RoomV} (h : IsRooms w v rs) :
    Calls Tryz.prog 118 #[v] w fun e w' => e = .returned (.bool (rs.all roomB)) ∧ Below w.heap.size w w' := by
  obtain ⟨a, cap, rfl, hc, hm, hr⟩ := h
  have Hr := hide hr
  clear hr
  go_enter Tryz.func118, Tryz.ntmps118
  go_wp2_with fail
  go_loopw [7] (fun i wr => ∃ k : Nat, k ≤ rs.length ∧ i = .int .i64 k ∧ (∀ j, j < k → roomB (roomAt rs j) = true) ∧ Below w.heap.size w wr) (fun i _ => rs.length - (intOf i).toNat)
  case atStart => exact ⟨0, Nat.zero_le _, rfl, fun j hj => by omega, Below.refl _ _⟩
  case round =>
    obtain ⟨k, hk, rfl, hst, hb⟩ := hrel
    have Hst := hide hst
    have Hb := hide hb
    have hsz := hb.size
    clear hst
    by_cases hlt : k < rs.length
    · rcases unhide Hr with h0 | ⟨b, off, rfl, hbw, hcl⟩
      · rw [h0] at hlt; simp at hlt
      obtain ⟨c0, pv, c1, hip⟩ := hcl k hlt
      rw [← hb.cell (p := ⟨b, off + k * 2, none⟩) hbw] at c0
      rw [← hb.cell (p := ⟨b, off + k * 2 + 1, none⟩) hbw] at c1
      have Hip := hide (hip.below hb)
      obtain ⟨pa, pcap, rfl, _⟩ := hip
      generalize hp : roomAt rs k = p at *
      obtain ⟨rb, ps⟩ := p
      simp only at c0 c1
      have Hp := hide hp
      clear hp hcl hb
      cases hrb : roomB (rb, ps)
      · go_wp2_with fail
        refine (implRoomOk_any rb ((unhide Hip).below ((Below.refl _ _).alloc (Nat.le_refl _) _))).mono ?_
        rintro e w1 ⟨rfl, hb1⟩
        go_wp2_with fail
        go_ret
        exact ⟨ret_bool (allRooms_f hlt (by rw [unhide Hp]; exact hrb)).symm, ((unhide Hb).alloc hsz _).trans (hb1.mono (by simp; omega))⟩
      · go_wp2_with fail
        refine (implRoomOk_any rb ((unhide Hip).below ((Below.refl _ _).alloc (Nat.le_refl _) _))).mono ?_
        rintro e w1 ⟨rfl, hb1⟩
        have Hb1 := hide hb1
        clear hb1
        go_wp2_with fail
        go_roundw
        case rel => exact ⟨k + 1, by omega, by go_num, next_all (unhide Hst) (by rw [unhide Hp]; exact hrb), ((unhide Hb).alloc hsz _).trans ((unhide Hb1).mono (by simp; omega))⟩
        case measure => simp [intOf]; omega
    · obtain rfl : k = rs.length := by omega
      go_wp2_with fail
      go_ret
      exact ⟨ret_bool (allRooms_t (unhide Hst)).symm, hb⟩

set_option maxHeartbeats 1000000 in
theorem benchesOf_any {w : World} {v : Value} {rs : List RoomV} (h : IsRooms w v rs) (ha : Adds rs) :
    Calls Tryz.prog 119 #[v] w fun e w' => e = .returned (.int .i64 (benchSum rs)) ∧ Below w.heap.size w w' := by
  obtain ⟨a, cap, rfl, hc, hm, hr⟩ := h
  have Hr := hide hr
  have Ha := hide ha
  clear hr ha
  go_enter Tryz.func119, Tryz.ntmps119
  go_wp2_with fail
  go_loopw [3, 8] (fun s i wr => ∃ k : Nat, k ≤ rs.length ∧ i = .int .i64 k ∧ s = .int .i64 (benchSum (rs.take k)) ∧ Below w.heap.size w wr) (fun _ i _ => rs.length - (intOf i).toNat)
  case atStart => exact ⟨0, Nat.zero_le _, rfl, rfl, Below.refl _ _⟩
  case round =>
    obtain ⟨k, hk, rfl, rfl, hb⟩ := hrel
    have Hb := hide hb
    have hsz := hb.size
    by_cases hlt : k < rs.length
    · rcases unhide Hr with h0 | ⟨b, off, rfl, hbw, hcl⟩
      · rw [h0] at hlt; simp at hlt
      obtain ⟨c0, pv, c1, hip⟩ := hcl k hlt
      rw [← hb.cell (p := ⟨b, off + k * 2, none⟩) hbw] at c0
      rw [← hb.cell (p := ⟨b, off + k * 2 + 1, none⟩) hbw] at c1
      obtain ⟨pa, pcap, rfl, _⟩ := hip
      have hs0 := unhide Ha k hk
      have hs1 := unhide Ha (k + 1) hlt
      have Hs := hide (benchSum_take rs hlt)
      rw [benchSum_take rs hlt] at hs1
      generalize benchSum (rs.take k) = s at *
      generalize (roomAt rs k).1 = rb at *
      obtain ⟨s0, s1⟩ := hs0
      obtain ⟨s2, s3⟩ := hs1
      clear hcl hb
      go_wp2_with fail
      go_roundw
      case rel => exact ⟨k + 1, by omega, by go_num, by rw [unhide Hs], (unhide Hb).alloc hsz _⟩
      case measure => simp [intOf]; omega
    · obtain rfl : k = rs.length := by omega
      go_wp2_with fail
      go_ret
      exact ⟨ret_int (by rw [benchSum_all]), hb⟩

theorem hallB_1 {rs : List RoomV} (h : inB rs.length 1 3 = false) : hallB rs = false := by unfold hallB; simp [h]
theorem hallB_2 {rs : List RoomV} (h : rs.all roomB = false) : hallB rs = false := by unfold hallB; rw [h]; simp
theorem hallB_3 {rs : List RoomV} (h : inB rs.length 1 3 = true) (h2 : rs.all roomB = true) : hallB rs = decide (benchSum rs ≤ 8) := by unfold hallB; rw [h, h2]; simp

theorem IsRooms.alloc {w : World} {v : Value} {rs : List RoomV} (h : IsRooms w v rs) (o : Obj) : IsRooms (w.alloc o) v rs := h.below ((Below.refl _ _).alloc (Nat.le_refl _) _)

set_option maxHeartbeats 1000000 in
theorem implHallOk_any {w : World} {v : Value} {rs : List RoomV} (h : IsRooms w v rs) :
    Calls Tryz.prog 96 #[.agg #[v]] w fun e w' => e = .returned (.bool (hallB rs)) ∧ Below w.heap.size w w' := by
  have Hv := hide h
  obtain ⟨a, cap, rfl, hc, hm, hr⟩ := h
  clear hr
  have hl : (rs.length : Int) ≤ 9223372036854775807 := by omega
  cases h1 : inB rs.length 1 3
  · go_enter Tryz.func96, Tryz.ntmps96
    go_wp2_with fail
    refine (liesFrom_any _ _ _ _).mono ?_
    rintro e w' ⟨rfl, rfl⟩
    go_wp2_with fail
    go_ret
    exact ⟨ret_bool (hallB_1 h1).symm, (Below.refl _ _).alloc (Nat.le_refl _) _⟩
  cases h2 : rs.all roomB
  · have H2 := hide (hallB_2 h2)
    generalize hx : rs.all roomB = x at *
    have Hx := hide hx
    clear hx
    subst h2
    go_enter Tryz.func96, Tryz.ntmps96
    go_wp2_with fail
    refine (liesFrom_any _ _ _ _).mono ?_
    rintro e w' ⟨rfl, rfl⟩
    go_wp2_with fail
    refine (roomsOk_any ((unhide Hv).alloc _)).mono ?_
    rw [unhide Hx]
    rintro e w1 ⟨rfl, hb⟩
    go_wp2_with fail
    go_ret
    exact ⟨ret_bool (unhide H2).symm, ((Below.refl _ _).alloc (Nat.le_refl _) _).trans (hb.mono (by simp))⟩
  · have H3 := hide (hallB_3 h1 h2)
    have Ha := hide (adds_of h2 (by have := inB_of h1; omega))
    generalize hx : rs.all roomB = x at *
    have Hx := hide hx
    clear hx
    subst h2
    go_enter Tryz.func96, Tryz.ntmps96
    go_wp2_with fail
    refine (liesFrom_any _ _ _ _).mono ?_
    rintro e w' ⟨rfl, rfl⟩
    go_wp2_with fail
    refine (roomsOk_any ((unhide Hv).alloc _)).mono ?_
    rw [unhide Hx]
    rintro e w1 ⟨rfl, hb⟩
    have hz : w.heap.size + 1 ≤ w1.heap.size := by have := hb.size; simpa using this
    have hbox : w1.cell? ⟨w.heap.size, 0, none⟩ = some (.slice a rs.length cap) := by rw [hb.cell (p := ⟨w.heap.size, 0, none⟩) (by simp)]; simp
    have hw1 := hide (((unhide Hv).alloc _).below hb)
    have Hb := hide hb
    clear hb
    go_wp2_with fail
    refine (benchesOf_any (unhide hw1) (unhide Ha)).mono ?_
    rintro e w2 ⟨rfl, hb2⟩
    have Hb2 := hide hb2
    clear hb2
    go_wp2_with fail
    go_ret
    exact ⟨ret_bool (by rw [unhide H3]), ((Below.refl _ _).alloc (Nat.le_refl _) _).trans (((unhide Hb).trans ((unhide Hb2).mono (unhide Hb).size)).mono (by simp))⟩

end Go.Proofs.YtmhagllddhjgmabGreat

/- Contracts of the model's HallOk, of its count of benches and of its BenchesIn, and of the program's BenchesIn, at whatever hall can be read. No other condition but that what is counted can be added up. -/
namespace Go.Proofs.YtmhagllddhjgmabGreat
open Go.ChangeShapes Go.WideShapes Go.ChangeAt Go.RowKit Go.Sort
set_option linter.unusedVariables false

def benchesV (rs : List RoomV) : Int := if hallB rs = true then benchSum rs else -1
theorem benchesV_t {rs : List RoomV} (h : hallB rs = true) : benchesV rs = benchSum rs := by unfold benchesV; rw [if_pos h]
theorem benchesV_f {rs : List RoomV} (h : hallB rs = false) : benchesV rs = -1 := by unfold benchesV; rw [h]; rfl
theorem adds_hall {rs : List RoomV} (h : hallB rs = true) : Adds rs := adds_of (hallB_of h).2.2.1 (hallB_of h).2.1

set_option maxHeartbeats 1000000 in
theorem implBenchesIn_any {w : World} {v : Value} {rs : List RoomV} (h : IsRooms w v rs) :
    Calls Tryz.prog 99 #[.agg #[v]] w fun e w' => e = .returned (.int .i64 (benchesV rs)) ∧ Below w.heap.size w w' := by
  have Hv := hide h
  obtain ⟨a, cap, rfl, hc, hm, hr⟩ := h
  clear hr
  cases h1 : hallB rs
  · have H1 := hide h1
    clear h1
    go_enter Tryz.func99, Tryz.ntmps99
    go_wp2_with fail
    refine (implHallOk_any ((unhide Hv).alloc _)).mono ?_
    rw [unhide H1]
    rintro e w1 ⟨rfl, hb⟩
    go_wp2_with fail
    go_ret
    exact ⟨ret_int (benchesV_f (unhide H1)).symm, ((Below.refl _ _).alloc (Nat.le_refl _) _).trans (hb.mono (by simp))⟩
  · have H1 := hide h1
    clear h1
    go_enter Tryz.func99, Tryz.ntmps99
    go_wp2_with fail
    refine (implHallOk_any ((unhide Hv).alloc _)).mono ?_
    rw [unhide H1]
    rintro e w1 ⟨rfl, hb⟩
    have hz : w.heap.size + 1 ≤ w1.heap.size := by have := hb.size; simpa using this
    have hbox : w1.cell? ⟨w.heap.size, 0, none⟩ = some (.slice a rs.length cap) := by rw [hb.cell (p := ⟨w.heap.size, 0, none⟩) (by simp)]; simp
    have hw1 := hide (((unhide Hv).alloc _).below hb)
    have Hb := hide hb
    clear hb
    go_wp2_with fail
    refine (benchesOf_any (unhide hw1) (adds_hall (unhide H1))).mono ?_
    rintro e w2 ⟨rfl, hb2⟩
    have Hb2 := hide hb2
    clear hb2
    go_wp2_with fail
    go_ret
    exact ⟨ret_int (benchesV_t (unhide H1)).symm, ((Below.refl _ _).alloc (Nat.le_refl _) _).trans (((unhide Hb).trans ((unhide Hb2).mono (unhide Hb).size)).mono (by simp))⟩

set_option maxHeartbeats 1000000 in
theorem l4Count_any {w : World} {v : Value} {rs : List RoomV} (h : IsRooms w v rs) (ha : Adds rs) :
    Calls Tryz.prog 55 #[.agg #[v]] w fun e w' => e = .returned (.int .i64 (benchSum rs)) ∧ Below w.heap.size w w' := by
  obtain ⟨a, cap, rfl, hc, hm, hr⟩ := h
  have Hr := hide hr
  have Ha := hide ha
  clear hr ha
  go_enter Tryz.func55, Tryz.ntmps55
  go_wp2_with fail
  go_loop [3, 4] (fun s i => ∃ k : Nat, k ≤ rs.length ∧ i = .int .i64 k ∧ s = .int .i64 (benchSum (rs.take k))) (fun _ i => rs.length - (intOf i).toNat)
  case atStart => exact ⟨0, Nat.zero_le _, rfl, rfl⟩
  case round =>
    obtain ⟨k, hk, rfl, rfl⟩ := hrel
    by_cases hlt : k < rs.length
    · rcases unhide Hr with h0 | ⟨b, off, rfl, hbw, hcl⟩
      · rw [h0] at hlt; simp at hlt
      obtain ⟨c0, pv, c1, hip⟩ := hcl k hlt
      have hne : b ≠ w.heap.size := Nat.ne_of_lt hbw
      have hs0 := unhide Ha k hk
      have hs1 := unhide Ha (k + 1) hlt
      have Hs := hide (benchSum_take rs hlt)
      rw [benchSum_take rs hlt] at hs1
      generalize benchSum (rs.take k) = s at *
      generalize (roomAt rs k).1 = rb at *
      obtain ⟨s0, s1⟩ := hs0
      obtain ⟨s2, s3⟩ := hs1
      clear hcl hip
      go_wp2_with fail
      go_round
      case rel => exact ⟨k + 1, by omega, by go_num, by rw [unhide Hs]⟩
      case measure => simp [intOf]; omega
    · obtain rfl : k = rs.length := by omega
      go_wp2_with fail
      go_ret
      exact ⟨ret_int (by first | rfl | rw [benchSum_all]), (Below.refl _ _).alloc (Nat.le_refl _) _⟩

set_option maxHeartbeats 1000000 in
theorem specHallOk_any {w : World} {v : Value} {rs : List RoomV} (h : IsRooms w v rs) :
    Calls Tryz.prog 53 #[.agg #[v]] w fun e w' => e = .returned (.bool (hallB rs)) ∧ Below w.heap.size w w' := by
  have Hv := hide h
  obtain ⟨a, cap, rfl, hc, hm, hr⟩ := h
  have Hr := hide hr
  clear hr
  have hl : (rs.length : Int) ≤ 9223372036854775807 := by omega
  go_enter Tryz.func53, Tryz.ntmps53
  go_wp2_with fail
  go_loopw [3] (fun i wr => ∃ k : Nat, k ≤ rs.length ∧ i = .int .i64 k ∧ (∀ j, j < k → roomB (roomAt rs j) = true) ∧ Below (w.heap.size + 1) (w.alloc (.cells #[.slice a rs.length cap] 35)) wr) (fun i _ => rs.length - (intOf i).toNat)
  case atStart => exact ⟨0, Nat.zero_le _, rfl, fun j hj => by omega, Below.refl _ _⟩
  case round =>
    obtain ⟨k, hk, rfl, hst, hb⟩ := hrel
    have Hst := hide hst
    have Hb := hide hb
    have hsz : w.heap.size + 1 ≤ wr.heap.size := by have := hb.size; simpa using this
    have hbox : wr.cell? ⟨w.heap.size, 0, none⟩ = some (.slice a rs.length cap) := by rw [hb.cell (p := ⟨w.heap.size, 0, none⟩) (by simp)]; simp
    have hbB : Below w.heap.size w wr := ((Below.refl _ _).alloc (Nat.le_refl _) _).trans (hb.mono (by omega))
    clear hst
    by_cases hlt : k < rs.length
    · rcases unhide Hr with h0 | ⟨b, off, rfl, hbw, hcl⟩
      · rw [h0] at hlt; simp at hlt
      obtain ⟨c0, pv, c1, hip⟩ := hcl k hlt
      rw [← hbB.cell (p := ⟨b, off + k * 2, none⟩) hbw] at c0
      rw [← hbB.cell (p := ⟨b, off + k * 2 + 1, none⟩) hbw] at c1
      have Hip := hide (hip.below hbB)
      obtain ⟨pa, pcap, rfl, _⟩ := hip
      generalize hp : roomAt rs k = p at *
      obtain ⟨rb, ps⟩ := p
      simp only at c0 c1
      have Hp := hide hp
      have HbB := hide hbB
      clear hp hcl hb hbB
      cases hrb : roomB (rb, ps)
      · go_wp2_with fail
        refine (specRoomOk_any rb (unhide Hip)).mono ?_
        rintro e w1 ⟨rfl, hb1⟩
        have Hb1 := hide hb1
        clear hb1
        go_wp2_with fail
        go_ret
        exact ⟨ret_bool (hallB_2 (allRooms_f hlt (by rw [unhide Hp]; exact hrb))).symm, (unhide HbB).trans ((unhide Hb1).mono (unhide HbB).size)⟩
      · go_wp2_with fail
        refine (specRoomOk_any rb (unhide Hip)).mono ?_
        rintro e w1 ⟨rfl, hb1⟩
        have Hb1 := hide hb1
        clear hb1
        go_wp2_with fail
        go_roundw
        case rel => exact ⟨k + 1, by omega, by go_num, next_all (unhide Hst) (by rw [unhide Hp]; exact hrb), (unhide Hb).trans ((unhide Hb1).mono hsz)⟩
        case measure => simp [intOf]; omega
    · obtain rfl : k = rs.length := by omega
      have h2 := allRooms_t (unhide Hst)
      have HbB := hide hbB
      have hw1 := hide ((unhide Hv).below hbB)
      clear hb hbB
      cases h1 : inB rs.length 1 3
      · have H2 := hide (hallB_1 h1)
        clear h2
        go_wp2_with fail
        refine (l1In_any _ _ _ _).mono ?_
        rintro e w' ⟨rfl, rfl⟩
        go_wp2_with fail
        go_ret
        exact ⟨ret_bool (unhide H2).symm, unhide HbB⟩
      · have H3 := hide (hallB_3 h1 h2)
        have Ha := hide (adds_of h2 (by have := inB_of h1; omega))
        clear h2
        go_wp2_with fail
        refine (l1In_any _ _ _ _).mono ?_
        rintro e w' ⟨rfl, rfl⟩
        go_wp2_with fail
        refine (l4Count_any (unhide hw1) (unhide Ha)).mono ?_
        rintro e w2 ⟨rfl, hb2⟩
        have Hb2 := hide hb2
        clear hb2
        go_wp2_with fail
        go_ret
        exact ⟨ret_bool (by rw [unhide H3]), (unhide HbB).trans ((unhide Hb2).mono (unhide HbB).size)⟩

end Go.Proofs.YtmhagllddhjgmabGreat

