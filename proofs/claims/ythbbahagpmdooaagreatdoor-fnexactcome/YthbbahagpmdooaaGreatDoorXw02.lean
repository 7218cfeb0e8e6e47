/- Part 2 of what the proof rests on. No condition but those that a theorem names. -/
import Derived.Test.YthbbahagpmdooaaGreatDoorXw01
set_option maxHeartbeats 8000000
set_option maxRecDepth 100000
namespace Go.Proofs.YthbbahagpmdooaaGreatDoor
open Go.ChangeShapes Go.WideShapes Go.ChangeAt Go.RowKit Go.Sort
set_option linter.unusedVariables false
def Adds (rs : List RoomV) : Prop := ∀ k, k ≤ rs.length → 0 ≤ benchSum (rs.take k) ∧ benchSum (rs.take k) ≤ 1000000
theorem adds_of {rs : List RoomV} (h : rs.all roomB = true) (hl : rs.length ≤ 3) : Adds rs := fun k hk => by have := benchSum_bd h k hk; omega
theorem Adds.taken {rs : List RoomV} (h : Adds rs) (n : Nat) : Adds (rs.take n) := fun k hk => by
 have hk' : k ≤ n ∧ k ≤ rs.length := by simp at hk; omega
 rw [List.take_take, Nat.min_eq_left hk'.1]; exact h k hk'.2
theorem roomsOk_any {w : World} {v : Value} {rs : List RoomV} (h : IsRooms w v rs) :
  Calls Tryz.prog 228 #[v] w fun e w' => e = .returned (.bool (rs.all roomB)) ∧ Below w.heap.size w w' := by
 obtain ⟨a, cap, rfl, hc, hm, hr⟩ := h
 have Hr := hide hr
 clear hr
 go_enter Tryz.func228, Tryz.ntmps228
 go_wp2_with fail
 go_loopw [7] (fun i wr => ∃ k : Nat, k ≤ rs.length ∧ i = .int .i64 k ∧ (∀ j, j < k → roomB (roomAt rs j) = true) ∧ Below w.heap.size w wr) (fun i _ => rs.length - (intOf i).toNat)
 case atStart => exact ⟨0, Nat.zero_le _, rfl, fun j hj => by omega, Below.refl _ _⟩
 case round =>
  obtain ⟨k, hk, rfl, hst, hb⟩ := hrel
  have Hst := hide hst
  have Hb := hide hb
  have hsz := hb.size
  clear hst
  by_cases hlt : k < rs.length
  ·rcases uh Hr with h0 | ⟨b, off, rfl, hbw, hcl⟩
   ·rw [h0] at hlt; simp at hlt
   obtain ⟨c0, pv, c1, hip⟩ := hcl k hlt
   rw [← hb.cell (p := ⟨b, off + k * 2, none⟩) hbw] at c0
   rw [← hb.cell (p := ⟨b, off + k * 2 + 1, none⟩) hbw] at c1
   have Hip := hide (hip.below hb)
   obtain ⟨pa, pcap, rfl, _⟩ := hip
   generalize hp : roomAt rs k = p at *
   obtain ⟨rb, ps⟩ := p
   simp only at c0 c1
   have Hp := hide hp
   clear hp hcl hb
   cases hrb : roomB (rb, ps)
   ·go_wp2_with fail
    refine (implRoomOk_any rb ((uh Hip).below ((Below.refl _ _).alloc (Nat.le_refl _) _))).mono ?_
    rintro e w1 ⟨rfl, hb1⟩
    go_wp2_with fail
    go_ret
    exact ⟨ret_bool (allRooms_f hlt (by rw [uh Hp]; exact hrb)).symm, ((uh Hb).alloc hsz _).trans (hb1.mono (by simp; omega))⟩
   ·go_wp2_with fail
    refine (implRoomOk_any rb ((uh Hip).below ((Below.refl _ _).alloc (Nat.le_refl _) _))).mono ?_
    rintro e w1 ⟨rfl, hb1⟩
    have Hb1 := hide hb1
    clear hb1
    go_wp2_with fail
    go_roundw
    case rel => exact ⟨k + 1, by omega, by go_num, next_all (uh Hst) (by rw [uh Hp]; exact hrb), ((uh Hb).alloc hsz _).trans ((uh Hb1).mono (by simp; omega))⟩
    case measure => simp [intOf]; omega
  ·obtain rfl : k = rs.length := by omega
   go_wp2_with fail
   go_ret
   exact ⟨ret_bool (allRooms_t (uh Hst)).symm, hb⟩
theorem benchesOf_any {w : World} {v : Value} {rs : List RoomV} (h : IsRooms w v rs) (ha : Adds rs) :
  Calls Tryz.prog 229 #[v] w fun e w' => e = .returned (.int .i64 (benchSum rs)) ∧ Below w.heap.size w w' := by
 obtain ⟨a, cap, rfl, hc, hm, hr⟩ := h
 have Hr := hide hr
 have Ha := hide ha
 clear hr ha
 go_enter Tryz.func229, Tryz.ntmps229
 go_wp2_with fail
 go_loopw [3, 8] (fun s i wr => ∃ k : Nat, k ≤ rs.length ∧ i = .int .i64 k ∧ s = .int .i64 (benchSum (rs.take k)) ∧ Below w.heap.size w wr) (fun _ i _ => rs.length - (intOf i).toNat)
 case atStart => exact ⟨0, Nat.zero_le _, rfl, rfl, Below.refl _ _⟩
 case round =>
  obtain ⟨k, hk, rfl, rfl, hb⟩ := hrel
  have Hb := hide hb
  have hsz := hb.size
  by_cases hlt : k < rs.length
  ·rcases uh Hr with h0 | ⟨b, off, rfl, hbw, hcl⟩
   ·rw [h0] at hlt; simp at hlt
   obtain ⟨c0, pv, c1, hip⟩ := hcl k hlt
   rw [← hb.cell (p := ⟨b, off + k * 2, none⟩) hbw] at c0
   rw [← hb.cell (p := ⟨b, off + k * 2 + 1, none⟩) hbw] at c1
   obtain ⟨pa, pcap, rfl, _⟩ := hip
   have hs0 := uh Ha k hk
   have hs1 := uh Ha (k + 1) hlt
   have Hs := hide (benchSum_take rs hlt)
   rw [benchSum_take rs hlt] at hs1
   generalize benchSum (rs.take k) = s at *
   generalize (roomAt rs k).1 = rb at *
   obtain ⟨s0, s1⟩ := hs0
   obtain ⟨s2, s3⟩ := hs1
   clear hcl hb
   go_wp2_with fail
   go_roundw
   case rel => exact ⟨k + 1, by omega, by go_num, by rw [uh Hs], (uh Hb).alloc hsz _⟩
   case measure => simp [intOf]; omega
  ·obtain rfl : k = rs.length := by omega
   go_wp2_with fail
   go_ret
   exact ⟨ret_int (by rw [benchSum_all]), hb⟩
theorem hallB_1 {rs : List RoomV} (h : inB rs.length 1 3 = false) : hallB rs = false := by unfold hallB; simp [h]
theorem hallB_2 {rs : List RoomV} (h : rs.all roomB = false) : hallB rs = false := by unfold hallB; rw [h]; simp
theorem hallB_3 {rs : List RoomV} (h : inB rs.length 1 3 = true) (h2 : rs.all roomB = true) : hallB rs = decide (benchSum rs ≤ 8) := by unfold hallB; rw [h, h2]; simp
theorem IsRooms.alloc {w : World} {v : Value} {rs : List RoomV} (h : IsRooms w v rs) (o : Obj) : IsRooms (w.alloc o) v rs := h.below ((Below.refl _ _).alloc (Nat.le_refl _) _)
theorem implHallOk_any {w : World} {v : Value} {rs : List RoomV} (h : IsRooms w v rs) :
  Calls Tryz.prog 183 #[.agg #[v]] w fun e w' => e = .returned (.bool (hallB rs)) ∧ Below w.heap.size w w' := by
 have Hv := hide h
 obtain ⟨a, cap, rfl, hc, hm, hr⟩ := h
 clear hr
 have hl : (rs.length : Int) ≤ 9223372036854775807 := by omega
 cases h1 : inB rs.length 1 3
 ·go_enter Tryz.func183, Tryz.ntmps183
  go_wp2_with fail
  refine (liesFrom_any _ _ _ _).mono ?_
  rintro e w' ⟨rfl, rfl⟩
  go_wp2_with fail
  go_ret
  exact ⟨ret_bool (hallB_1 h1).symm, (Below.refl _ _).alloc (Nat.le_refl _) _⟩
 cases h2 : rs.all roomB
 ·have H2 := hide (hallB_2 h2)
  generalize hx : rs.all roomB = x at *
  have Hx := hide hx
  clear hx
  subst h2
  go_enter Tryz.func183, Tryz.ntmps183
  go_wp2_with fail
  refine (liesFrom_any _ _ _ _).mono ?_
  rintro e w' ⟨rfl, rfl⟩
  go_wp2_with fail
  refine (roomsOk_any ((uh Hv).alloc _)).mono ?_
  rw [uh Hx]
  rintro e w1 ⟨rfl, hb⟩
  go_wp2_with fail
  go_ret
  exact ⟨ret_bool (uh H2).symm, ((Below.refl _ _).alloc (Nat.le_refl _) _).trans (hb.mono (by simp))⟩
 ·have H3 := hide (hallB_3 h1 h2)
  have Ha := hide (adds_of h2 (by have := inB_of h1; omega))
  generalize hx : rs.all roomB = x at *
  have Hx := hide hx
  clear hx
  subst h2
  go_enter Tryz.func183, Tryz.ntmps183
  go_wp2_with fail
  refine (liesFrom_any _ _ _ _).mono ?_
  rintro e w' ⟨rfl, rfl⟩
  go_wp2_with fail
  refine (roomsOk_any ((uh Hv).alloc _)).mono ?_
  rw [uh Hx]
  rintro e w1 ⟨rfl, hb⟩
  have hz : w.heap.size + 1 ≤ w1.heap.size := by have := hb.size; simpa using this
  have hbox : w1.cell? ⟨w.heap.size, 0, none⟩ = some (.slice a rs.length cap) := by rw [hb.cell (p := ⟨w.heap.size, 0, none⟩) (by simp)]; simp
  have hw1 := hide (((uh Hv).alloc _).below hb)
  have Hb := hide hb
  clear hb
  go_wp2_with fail
  refine (benchesOf_any (uh hw1) (uh Ha)).mono ?_
  rintro e w2 ⟨rfl, hb2⟩
  have Hb2 := hide hb2
  clear hb2
  go_wp2_with fail
  go_ret
  exact ⟨ret_bool (by rw [uh H3]), ((Below.refl _ _).alloc (Nat.le_refl _) _).trans (((uh Hb).trans ((uh Hb2).mono (uh Hb).size)).mono (by simp))⟩
def benchesV (rs : List RoomV) : Int := if hallB rs = true then benchSum rs else -1
theorem benchesV_t {rs : List RoomV} (h : hallB rs = true) : benchesV rs = benchSum rs := by unfold benchesV; rw [if_pos h]
theorem benchesV_f {rs : List RoomV} (h : hallB rs = false) : benchesV rs = -1 := by unfold benchesV; rw [h]; rfl
theorem adds_hall {rs : List RoomV} (h : hallB rs = true) : Adds rs := adds_of (hallB_of h).2.2.1 (hallB_of h).2.1
theorem implBenchesIn_any {w : World} {v : Value} {rs : List RoomV} (h : IsRooms w v rs) :
  Calls Tryz.prog 187 #[.agg #[v]] w fun e w' => e = .returned (.int .i64 (benchesV rs)) ∧ Below w.heap.size w w' := by
 have Hv := hide h
 obtain ⟨a, cap, rfl, hc, hm, hr⟩ := h
 clear hr
 cases h1 : hallB rs
 ·have H1 := hide h1
  clear h1
  go_enter Tryz.func187, Tryz.ntmps187
  go_wp2_with fail
  refine (implHallOk_any ((uh Hv).alloc _)).mono ?_
  rw [uh H1]
  rintro e w1 ⟨rfl, hb⟩
  go_wp2_with fail
  go_ret
  exact ⟨ret_int (benchesV_f (uh H1)).symm, ((Below.refl _ _).alloc (Nat.le_refl _) _).trans (hb.mono (by simp))⟩
 ·have H1 := hide h1
  clear h1
  go_enter Tryz.func187, Tryz.ntmps187
  go_wp2_with fail
  refine (implHallOk_any ((uh Hv).alloc _)).mono ?_
  rw [uh H1]
  rintro e w1 ⟨rfl, hb⟩
  have hz : w.heap.size + 1 ≤ w1.heap.size := by have := hb.size; simpa using this
  have hbox : w1.cell? ⟨w.heap.size, 0, none⟩ = some (.slice a rs.length cap) := by rw [hb.cell (p := ⟨w.heap.size, 0, none⟩) (by simp)]; simp
  have hw1 := hide (((uh Hv).alloc _).below hb)
  have Hb := hide hb
  clear hb
  go_wp2_with fail
  refine (benchesOf_any (uh hw1) (adds_hall (uh H1))).mono ?_
  rintro e w2 ⟨rfl, hb2⟩
  have Hb2 := hide hb2
  clear hb2
  go_wp2_with fail
  go_ret
  exact ⟨ret_int (benchesV_t (uh H1)).symm, ((Below.refl _ _).alloc (Nat.le_refl _) _).trans (((uh Hb).trans ((uh Hb2).mono (uh Hb).size)).mono (by simp))⟩
theorem l4Count_any {w : World} {v : Value} {rs : List RoomV} (h : IsRooms w v rs) (ha : Adds rs) :
  Calls Tryz.prog 123 #[.agg #[v]] w fun e w' => e = .returned (.int .i64 (benchSum rs)) ∧ Below w.heap.size w w' := by
 obtain ⟨a, cap, rfl, hc, hm, hr⟩ := h
 have Hr := hide hr
 have Ha := hide ha
 clear hr ha
 go_enter Tryz.func123, Tryz.ntmps123
 go_wp2_with fail
 go_loop [3, 4] (fun s i => ∃ k : Nat, k ≤ rs.length ∧ i = .int .i64 k ∧ s = .int .i64 (benchSum (rs.take k))) (fun _ i => rs.length - (intOf i).toNat)
 case atStart => exact ⟨0, Nat.zero_le _, rfl, rfl⟩
 case round =>
  obtain ⟨k, hk, rfl, rfl⟩ := hrel
  by_cases hlt : k < rs.length
  ·rcases uh Hr with h0 | ⟨b, off, rfl, hbw, hcl⟩
   ·rw [h0] at hlt; simp at hlt
   obtain ⟨c0, pv, c1, hip⟩ := hcl k hlt
   have hne : b ≠ w.heap.size := Nat.ne_of_lt hbw
   have hs0 := uh Ha k hk
   have hs1 := uh Ha (k + 1) hlt
   have Hs := hide (benchSum_take rs hlt)
   rw [benchSum_take rs hlt] at hs1
   generalize benchSum (rs.take k) = s at *
   generalize (roomAt rs k).1 = rb at *
   obtain ⟨s0, s1⟩ := hs0
   obtain ⟨s2, s3⟩ := hs1
   clear hcl hip
   go_wp2_with fail
   go_round
   case rel => exact ⟨k + 1, by omega, by go_num, by rw [uh Hs]⟩
   case measure => simp [intOf]; omega
  ·obtain rfl : k = rs.length := by omega
   go_wp2_with fail
   go_ret
   exact ⟨ret_int (by first | rfl | rw [benchSum_all]), (Below.refl _ _).alloc (Nat.le_refl _) _⟩
theorem specHallOk_any {w : World} {v : Value} {rs : List RoomV} (h : IsRooms w v rs) :
  Calls Tryz.prog 121 #[.agg #[v]] w fun e w' => e = .returned (.bool (hallB rs)) ∧ Below w.heap.size w w' := by
 have Hv := hide h
 obtain ⟨a, cap, rfl, hc, hm, hr⟩ := h
 have Hr := hide hr
 clear hr
 have hl : (rs.length : Int) ≤ 9223372036854775807 := by omega
 go_enter Tryz.func121, Tryz.ntmps121
 go_wp2_with fail
 go_loopw [3] (fun i wr => ∃ k : Nat, k ≤ rs.length ∧ i = .int .i64 k ∧ (∀ j, j < k → roomB (roomAt rs j) = true) ∧ Below (w.heap.size + 1) (w.alloc (.cells #[.slice a rs.length cap] 26)) wr) (fun i _ => rs.length - (intOf i).toNat)
 case atStart => exact ⟨0, Nat.zero_le _, rfl, fun j hj => by omega, Below.refl _ _⟩
 case round =>
  obtain ⟨k, hk, rfl, hst, hb⟩ := hrel
  have Hst := hide hst
  have Hb := hide hb
  have hsz : w.heap.size + 1 ≤ wr.heap.size := by have := hb.size; simpa using this
  have hbox : wr.cell? ⟨w.heap.size, 0, none⟩ = some (.slice a rs.length cap) := by rw [hb.cell (p := ⟨w.heap.size, 0, none⟩) (by simp)]; simp
  have hbB : Below w.heap.size w wr := ((Below.refl _ _).alloc (Nat.le_refl _) _).trans (hb.mono (by omega))
  clear hst
  by_cases hlt : k < rs.length
  ·rcases uh Hr with h0 | ⟨b, off, rfl, hbw, hcl⟩
   ·rw [h0] at hlt; simp at hlt
   obtain ⟨c0, pv, c1, hip⟩ := hcl k hlt
   rw [← hbB.cell (p := ⟨b, off + k * 2, none⟩) hbw] at c0
   rw [← hbB.cell (p := ⟨b, off + k * 2 + 1, none⟩) hbw] at c1
   have Hip := hide (hip.below hbB)
   obtain ⟨pa, pcap, rfl, _⟩ := hip
   generalize hp : roomAt rs k = p at *
   obtain ⟨rb, ps⟩ := p
   simp only at c0 c1
   have Hp := hide hp
   have HbB := hide hbB
   clear hp hcl hb hbB
   cases hrb : roomB (rb, ps)
   ·go_wp2_with fail
    refine (specRoomOk_any rb (uh Hip)).mono ?_
    rintro e w1 ⟨rfl, hb1⟩
    have Hb1 := hide hb1
    clear hb1
    go_wp2_with fail
    go_ret
    exact ⟨ret_bool (hallB_2 (allRooms_f hlt (by rw [uh Hp]; exact hrb))).symm, (uh HbB).trans ((uh Hb1).mono (uh HbB).size)⟩
   ·go_wp2_with fail
    refine (specRoomOk_any rb (uh Hip)).mono ?_
    rintro e w1 ⟨rfl, hb1⟩
    have Hb1 := hide hb1
    clear hb1
    go_wp2_with fail
    go_roundw
    case rel => exact ⟨k + 1, by omega, by go_num, next_all (uh Hst) (by rw [uh Hp]; exact hrb), (uh Hb).trans ((uh Hb1).mono hsz)⟩
    case measure => simp [intOf]; omega
  ·obtain rfl : k = rs.length := by omega
   have h2 := allRooms_t (uh Hst)
   have HbB := hide hbB
   have hw1 := hide ((uh Hv).below hbB)
   clear hb hbB
   cases h1 : inB rs.length 1 3
   ·have H2 := hide (hallB_1 h1)
    clear h2
    go_wp2_with fail
    refine (l1In_any _ _ _ _).mono ?_
    rintro e w' ⟨rfl, rfl⟩
    go_wp2_with fail
    go_ret
    exact ⟨ret_bool (uh H2).symm, uh HbB⟩
   ·have H3 := hide (hallB_3 h1 h2)
    have Ha := hide (adds_of h2 (by have := inB_of h1; omega))
    clear h2
    go_wp2_with fail
    refine (l1In_any _ _ _ _).mono ?_
    rintro e w' ⟨rfl, rfl⟩
    go_wp2_with fail
    refine (l4Count_any (uh hw1) (uh Ha)).mono ?_
    rintro e w2 ⟨rfl, hb2⟩
    have Hb2 := hide hb2
    clear hb2
    go_wp2_with fail
    go_ret
    exact ⟨ret_bool (by rw [uh H3]), (uh HbB).trans ((uh Hb2).mono (uh HbB).size)⟩
theorem szPaceS_any (a : Option Addr) (n cap : Nat) (left : Int) (hn : n ≤ 9223372036854775807) (h0 : 0 ≤ left) (h1 : left ≤ 1048576) (w : World) :
  Calls Tryz.prog 244 #[.slice a n cap, .int .i64 left] w fun e w' => e = .returned (.int .i64 (szV n left)) ∧ w' = w := by
 by_cases h : left - n < 0
 all_goals
  go_enter Tryz.func244, Tryz.ntmps244
  go_wp2
  go_ret
  exact ⟨ret_int (by first | exact (szV_f (by omega)).symm | exact (szV_t (by omega)).symm), rfl⟩
theorem szRoom_any (b : Int) (a : Option Addr) (n cap : Nat) (left : Int) (hn : n ≤ 9223372036854775807) (h0 : 0 ≤ left) (h1 : left ≤ 1048576) (w : World) :
  Calls Tryz.prog 200 #[.agg #[.int .i64 b, .slice a n cap], .int .i64 left] w fun e w' => e = .returned (.int .i64 (szV n left)) ∧ Below w.heap.size w w' := by
 by_cases h : left - n < 0
 ·go_enter Tryz.func200, Tryz.ntmps200
  go_wp2_with fail
  refine (szPaceS_any _ _ _ _ hn h0 h1 _).mono ?_
  rw [szV_f (by omega)]
  rintro e w' ⟨rfl, rfl⟩
  go_wp2_with fail
  go_ret
  exact ⟨ret_int (szV_f (by omega)).symm, (Below.refl _ _).alloc (Nat.le_refl _) _⟩
 ·go_enter Tryz.func200, Tryz.ntmps200
  go_wp2_with fail
  refine (szPaceS_any _ _ _ _ hn h0 h1 _).mono ?_
  rw [szV_t (by omega)]
  rintro e w' ⟨rfl, rfl⟩
  go_wp2_with fail
  go_ret
  exact ⟨ret_int (szV_t (by omega)).symm, (Below.refl _ _).alloc (Nat.le_refl _) _⟩
def Small (rs : List RoomV) : Prop := rs.length ≤ 1048576 ∧ ∀ j, j < rs.length → (roomAt rs j).2.length ≤ 1048576
theorem szRoomS_any {w : World} {v : Value} {rs : List RoomV} (h : IsRooms w v rs) (left : Int) (h0 : 0 ≤ left) (h1 : left ≤ 1048576) :
  Calls Tryz.prog 137 #[v, .int .i64 left] w fun e w' => ∃ x : Int, e = .returned (.int .i64 x) ∧ x ≤ 1048576 ∧ (0 ≤ x → Small rs) ∧ Below w.heap.size w w' := by
 obtain ⟨a, cap, rfl, hc, hm, hr⟩ := h
 have Hr := hide hr
 clear hr
 by_cases hn : left - rs.length < 0
 ·go_enter Tryz.func137, Tryz.ntmps137
  go_wp2_with fail
  go_ret
  exact ⟨-1, rfl, by omega, fun h => by omega, Below.refl _ _⟩
 ·go_enter Tryz.func137, Tryz.ntmps137
  go_wp2_with fail
  go_loopw [1, 5] (fun l i wr => ∃ (k : Nat) (y : Int), k ≤ rs.length ∧ i = .int .i64 k ∧ l = .int .i64 y ∧ 0 ≤ y ∧ y ≤ 1048576 ∧ (∀ j, j < k → (roomAt rs j).2.length ≤ 1048576) ∧ Below w.heap.size w wr) (fun _ i _ => rs.length - (intOf i).toNat)
  case atStart => exact ⟨0, _, Nat.zero_le _, rfl, rfl, by omega, by omega, fun j hj => by omega, Below.refl _ _⟩
  case round =>
   obtain ⟨k, y, hk, rfl, rfl, y0, y1, hst, hb⟩ := hrel
   have Hst := hide hst
   have Hb := hide hb
   clear hst
   by_cases hlt : k < rs.length
   ·rcases uh Hr with h0 | ⟨b, off, rfl, hbw, hcl⟩
    ·rw [h0] at hlt; simp at hlt
    obtain ⟨c0, pv, c1, hip⟩ := hcl k hlt
    rw [← hb.cell (p := ⟨b, off + k * 2, none⟩) hbw] at c0
    rw [← hb.cell (p := ⟨b, off + k * 2 + 1, none⟩) hbw] at c1
    obtain ⟨pa, pcap, rfl, hpc, hpm, _⟩ := hip
    generalize hp : (roomAt rs k).2.length = n at *
    generalize (roomAt rs k).1 = rb at *
    have Hp := hide hp
    clear hp hcl hb
    by_cases hy : y - n < 0
    ·go_wp2_with fail
     refine (szRoom_any _ _ _ _ _ (by omega) y0 y1 _).mono ?_
     rw [szV_f (by omega)]
     rintro e w1 ⟨rfl, hb1⟩
     have Hb1 := hide hb1
     clear hb1
     go_wp2_with fail
     go_ret
     exact ⟨-1, rfl, by omega, fun h => by omega, (uh Hb).trans ((uh Hb1).mono (uh Hb).size)⟩
    ·go_wp2_with fail
     refine (szRoom_any _ _ _ _ _ (by omega) y0 y1 _).mono ?_
     rw [szV_t (by omega)]
     rintro e w1 ⟨rfl, hb1⟩
     have Hb1 := hide hb1
     clear hb1
     go_wp2_with fail
     go_roundw
     case rel => exact ⟨k + 1, y - n, by omega, by go_num, rfl, by omega, by omega, next_all (uh Hst) (by rw [uh Hp]; omega), (uh Hb).trans ((uh Hb1).mono (uh Hb).size)⟩
     case measure => simp [intOf]; omega
   ·obtain rfl : k = rs.length := by omega
    go_wp2_with fail
    go_ret
    exact ⟨y, rfl, by omega, fun h => ⟨by omega, uh Hst⟩, hb⟩
theorem eqPace_yes (f c : Int) (w : World) :
  Calls Tryz.prog 282 #[.agg #[.int .i64 f, .int .i64 c], .agg #[.int .i64 f, .int .i64 c]] w fun e w' => e = .returned (.bool true) ∧ Below w.heap.size w w' := by
 go_enter Tryz.func282, Tryz.ntmps282
 go_wp2_with fail
 go_ret
 exact ⟨rfl, ((Below.refl _ _).alloc (Nat.le_refl _) _).alloc (by simp) _⟩
theorem eqPaceS_yes {w : World} {v u : Value} {ps : List PaceV} (hv : IsPaces w v ps) (hu : IsPaces w u ps) :
  Calls Tryz.prog 246 #[v, u] w fun e w' => e = .returned (.bool true) ∧ Below w.heap.size w w' := by
 obtain ⟨a, cap, rfl, hc, hm, hr⟩ := hv
 obtain ⟨a', cap', rfl, hc', hm', hr'⟩ := hu
 have Hr := hide hr
 have Hr' := hide hr'
 clear hr hr'
 go_enter Tryz.func246, Tryz.ntmps246
 go_wp2_with fail
 go_loopw [5] (fun i wr => ∃ k : Nat, k ≤ ps.length ∧ i = .int .i64 k ∧ Below w.heap.size w wr) (fun i _ => ps.length - (intOf i).toNat)
 case atStart => exact ⟨0, Nat.zero_le _, rfl, Below.refl _ _⟩
 case round =>
  obtain ⟨k, hk, rfl, hb⟩ := hrel
  have Hb := hide hb
  by_cases hlt : k < ps.length
  ·rcases uh Hr with h0 | ⟨b, off, rfl, hbw, hcl⟩
   ·rw [h0] at hlt; simp at hlt
   rcases uh Hr' with h0 | ⟨b', off', rfl, hbw', hcl'⟩
   ·rw [h0] at hlt; simp at hlt
   obtain ⟨c0, c1⟩ := hcl k hlt
   obtain ⟨d0, d1⟩ := hcl' k hlt
   rw [← hb.cell (p := ⟨b, off + k * 2, none⟩) hbw] at c0
   rw [← hb.cell (p := ⟨b, off + k * 2 + 1, none⟩) hbw] at c1
   rw [← hb.cell (p := ⟨b', off' + k * 2, none⟩) hbw'] at d0
   rw [← hb.cell (p := ⟨b', off' + k * 2 + 1, none⟩) hbw'] at d1
   generalize (paceAt ps k).1 = f at *
   generalize (paceAt ps k).2 = c at *
   have k0 := cell_regrown c0
   have k1 := cell_regrown c1
   have k2 := cell_regrown d0
   have k3 := cell_regrown d1
   clear hcl hcl' hb c0 c1 d0 d1
   go_wp2_with fail
   refine wp_region_quiet_below (by kernel_rfl) (by kernel_rfl) ?_
   repeat (go_big_quiet_step (exact Calls.regrown_of (eqPace_yes _ _ _)))
   refine wpQuiet_nil ?_
   intro _ hw'
   obtain ⟨⟨dq, osq⟩, hw''⟩ := hw'
   subst hw''
   go_wp2_with fail
   go_roundw
   case rel => exact ⟨k + 1, by omega, by go_num, (uh Hb).trans ((below_regrown _ _ _).mono (uh Hb).size)⟩
   case measure => simp [intOf]; omega
  ·go_wp2_with fail
   go_ret
   exact ⟨rfl, hb⟩
theorem eqRoom_yes {w : World} {v u : Value} {ps : List PaceV} (rb : Int) (hv : IsPaces w v ps) (hu : IsPaces w u ps) :
  Calls Tryz.prog 202 #[.agg #[.int .i64 rb, v], .agg #[.int .i64 rb, u]] w fun e w' => e = .returned (.bool true) ∧ Below w.heap.size w w' := by
 have Hv := hide hv
 have Hu := hide hu
 obtain ⟨a, cap, rfl, hc, hm, hr⟩ := hv
 obtain ⟨a', cap', rfl, hc', hm', hr'⟩ := hu
 clear hr hr'
 go_enter Tryz.func202, Tryz.ntmps202
 go_wp2_with fail
 refine (eqPaceS_yes ((uh Hv).below (((Below.refl _ _).alloc (Nat.le_refl _) _).alloc (by simp) _)) ((uh Hu).below (((Below.refl _ _).alloc (Nat.le_refl _) _).alloc (by simp) _))).mono ?_
 rintro e w1 ⟨rfl, hb⟩
 have Hb := hide hb
 clear hb
 go_wp2_with fail
 go_ret
 exact ⟨rfl, (((Below.refl _ _).alloc (Nat.le_refl _) _).alloc (by simp) _).trans ((uh Hb).mono (by simp; omega))⟩
theorem eqRoomS_yes {w : World} {v u : Value} {rs : List RoomV} (hv : IsRooms w v rs) (hu : IsRooms w u rs) :
  Calls Tryz.prog 142 #[v, u] w fun e w' => e = .returned (.bool true) ∧ Below w.heap.size w w' := by
 obtain ⟨a, cap, rfl, hc, hm, hr⟩ := hv
 obtain ⟨a', cap', rfl, hc', hm', hr'⟩ := hu
 have Hr := hide hr
 have Hr' := hide hr'
 clear hr hr'
 go_enter Tryz.func142, Tryz.ntmps142
 go_wp2_with fail
 go_loopw [5] (fun i wr => ∃ k : Nat, k ≤ rs.length ∧ i = .int .i64 k ∧ Below w.heap.size w wr) (fun i _ => rs.length - (intOf i).toNat)
 case atStart => exact ⟨0, Nat.zero_le _, rfl, Below.refl _ _⟩
 case round =>
  obtain ⟨k, hk, rfl, hb⟩ := hrel
  have Hb := hide hb
  by_cases hlt : k < rs.length
  ·rcases uh Hr with h0 | ⟨b, off, rfl, hbw, hcl⟩
   ·rw [h0] at hlt; simp at hlt
   rcases uh Hr' with h0 | ⟨b', off', rfl, hbw', hcl'⟩
   ·rw [h0] at hlt; simp at hlt
   obtain ⟨c0, pv, c1, hip⟩ := hcl k hlt
   obtain ⟨d0, pu, d1, hiu⟩ := hcl' k hlt
   rw [← hb.cell (p := ⟨b, off + k * 2, none⟩) hbw] at c0
   rw [← hb.cell (p := ⟨b, off + k * 2 + 1, none⟩) hbw] at c1
   rw [← hb.cell (p := ⟨b', off' + k * 2, none⟩) hbw'] at d0
   rw [← hb.cell (p := ⟨b', off' + k * 2 + 1, none⟩) hbw'] at d1
   have Hip := hide (hip.below hb)
   have Hiu := hide (hiu.below hb)
   obtain ⟨pa, pcap, rfl, _⟩ := hip
   obtain ⟨pa', pcap', rfl, _⟩ := hiu
   generalize (roomAt rs k).1 = f at *
   generalize (roomAt rs k).2 = ps at *
   have k0 := cell_regrown c0
   have k1 := cell_regrown c1
   have k2 := cell_regrown d0
   have k3 := cell_regrown d1
   clear hcl hcl' hb c0 c1 d0 d1
   go_wp2_with fail
   refine wp_region_quiet_below (by kernel_rfl) (by kernel_rfl) ?_
   repeat (go_big_quiet_step (exact Calls.regrown_of (eqRoom_yes _ ((uh Hip).below (below_regrown _ _ _)) ((uh Hiu).below (below_regrown _ _ _)))))
   refine wpQuiet_nil ?_
   intro _ hw'
   obtain ⟨⟨dq, osq⟩, hw''⟩ := hw'
   subst hw''
   go_wp2_with fail
   go_roundw
   case rel => exact ⟨k + 1, by omega, by go_num, (uh Hb).trans ((below_regrown _ _ _).mono (uh Hb).size)⟩
   case measure => simp [intOf]; omega
  ·go_wp2_with fail
   go_ret
   exact ⟨rfl, hb⟩
theorem eqHall_yes {w : World} {v u : Value} {rs : List RoomV} (hv : IsRooms w v rs) (hu : IsRooms w u rs) :
  Calls Tryz.prog 79 #[.agg #[v], .agg #[u]] w fun e w' => e = .returned (.bool true) ∧ Below w.heap.size w w' := by
 have Hv := hide hv
 have Hu := hide hu
 obtain ⟨a, cap, rfl, hc, hm, hr⟩ := hv
 obtain ⟨a', cap', rfl, hc', hm', hr'⟩ := hu
 clear hr hr'
 go_enter Tryz.func79, Tryz.ntmps79
 go_wp2_with fail
 refine (eqRoomS_yes ((uh Hv).below (((Below.refl _ _).alloc (Nat.le_refl _) _).alloc (by simp) _)) ((uh Hu).below (((Below.refl _ _).alloc (Nat.le_refl _) _).alloc (by simp) _))).mono ?_
 rintro e w1 ⟨rfl, hb⟩
 have Hb := hide hb
 clear hb
 go_wp2_with fail
 go_ret
 exact ⟨rfl, (((Below.refl _ _).alloc (Nat.le_refl _) _).alloc (by simp) _).trans ((uh Hb).mono (by simp; omega))⟩
theorem infoPace : (Tryz.prog.info? 132).map (fun i => (i.zero, i.size, i.bytes)) = some (some (.agg #[.int .i64 0, .int .i64 0]), 2, 16) := by kernel_rfl
theorem infoRoom : (Tryz.prog.info? 130).map (fun i => (i.zero, i.size, i.bytes)) = some (some (.agg #[.int .i64 0, .slice none 0 0]), 2, 32) := by kernel_rfl
theorem toPace_any (f c : Int) (w : World) :
  Calls Tryz.prog 281 #[.agg #[.int .i64 f, .int .i64 c]] w fun e w' => e = .returned (.agg #[.int .i64 f, .int .i64 c]) ∧ Below w.heap.size w w' := by
 go_enter Tryz.func281, Tryz.ntmps281
 go_wp2_with fail
 exact bodyPost_ret (v := .agg #[.int .i64 f, .int .i64 c]) (by simp [results, Tryz.results281, go_sem]) rfl ⟨rfl, (((Below.refl _ _).alloc (Nat.le_refl _) _).alloc (by simp) _).alloc (by simp; omega) _⟩
theorem toPaceS_any {w : World} {v : Value} {ps : List PaceV} (h : IsPaces w v ps) (hs : ps.length ≤ 1048576) :
  Calls Tryz.prog 245 #[v] w fun e w' => ∃ v', e = .returned v' ∧ IsPaces w' v' ps ∧ (∀ k, v'.ownBlock = some k → w.heap.size ≤ k) ∧ Below w.heap.size w w' := by
 obtain ⟨a, cap, rfl, hc, hm, hr⟩ := h
 have Hr := hide hr
 clear hr
 obtain ⟨i0, hi, hz0, hz1, hz2⟩ := info_parts infoPace
 go_enter Tryz.func245, Tryz.ntmps245
 go_wp2_with (at_make; refine wpList_make_full _ rfl _ _ 128 rfl w.heap.size 132 i0 (.agg #[.int .i64 0, .int .i64 0]) 2 Tryz.underlying128 hi hz0 hz1 _ _ _ _ ps.length rfl rfl rfl rfl (by rw [hz2]; omega) (by unfold maxLen; omega) (Nat.le_refl _) ?_; intro w0 hown hgrow)
 have Hown := hide hown
 have Hgr := hide hgrow
 clear hown hgrow
 go_loopw [4] (fun i wr => ∃ k : Nat, k ≤ ps.length ∧ i = .int .i64 k ∧ ∃ xs, wr.ownsRow w.heap.size 132 2 (.slice (some ⟨w.heap.size, 0, none⟩) ps.length ps.length) ps.length xs ∧ Pairs xs (isPaceOf ps) k ∧ Below w.heap.size w wr) (fun i _ => ps.length - (intOf i).toNat)
 case atStart => exact ⟨0, Nat.zero_le _, rfl, _, uh Hown, fun j hj => by omega, (Below.refl _ _).grown (uh Hgr) (Nat.le_refl _) (fun k e => by cases e)⟩
 case round =>
  obtain ⟨k, hk, rfl, xs, hown, hpr, hb⟩ := hrel
  have Hb := hide hb
  by_cases hlt : k < ps.length
  ·rcases uh Hr with h0 | ⟨b, off, rfl, hbw, hcl⟩
   ·rw [h0] at hlt; simp at hlt
   obtain ⟨c0, c1⟩ := hcl k hlt
   rw [← hb.cell (p := ⟨b, off + k * 2, none⟩) hbw] at c0
   rw [← hb.cell (p := ⟨b, off + k * 2 + 1, none⟩) hbw] at c1
   have hxs : xs.length = ps.length * 2 := hown.1
   have Ho := hide hown
   have Hpr := hide hpr
   generalize hp : paceAt ps k = p at c0 c1
   obtain ⟨f, c⟩ := p
   simp only at c0 c1
   have Hp := hide hp
   clear hcl hb hown hpr hp
   go_wp2_with fail
   refine (toPace_any _ _ _).mono ?_
   rintro e w1 ⟨rfl, hb1⟩
   have ho1 := own_later (uh Ho) hb1
   obtain ⟨⟨x0, y0⟩, z0⟩ := own_cell ho1 (j := k * 2) (by omega)
   obtain ⟨⟨x1, y1⟩, z1⟩ := own_cell ho1 (j := k * 2 + 1) (by omega)
   have Hp2 := hide (own_pair ho1 (k * 2) (.int .i64 f) (.int .i64 c))
   have Hb1 := hide hb1
   have hsz := hb1.size
   have hsz0 := (uh Hb).size
   clear ho1 hb1
   go_wp2_with fail
   go_roundw
   case rel => exact ⟨k + 1, by omega, by go_num, _, (uh Hp2).1, (uh Hpr).next (by omega) ⟨by rw [uh Hp], by rw [uh Hp]⟩, ((uh Hb).trans ((uh Hb1).mono hsz0)).trans (below_grown (uh Hp2).2 (Nat.le_refl _) (by omega))⟩
   case measure => simp [intOf]; omega
  ·obtain rfl : k = ps.length := by omega
   go_wp2_with fail
   go_ret
   exact ⟨_, rfl, IsPaces.of_row hown hpr rfl, fun k e => by cases e; exact Nat.le_refl _, hb⟩
theorem IsPaces.set {w : World} {v : Value} {ps : List PaceV} (h : IsPaces w v ps) (b o : Nat) (u : Value) (hn : ∀ k, v.ownBlock = some k → k ≠ b) : IsPaces (w.setCell ⟨b, o, none⟩ u) v ps := by
 obtain ⟨a, cap, rfl, hc, hm, hr⟩ := h
 refine ⟨a, cap, rfl, hc, hm, ?_⟩
 rcases hr with hr | ⟨b', off, rfl, hlt, hcl⟩
 ·exact .inl hr
 ·have hne : b' ≠ b := hn b' rfl
  refine .inr ⟨b', off, rfl, by simpa using hlt, fun k hk => ?_⟩
  obtain ⟨h1, h2⟩ := hcl k hk
  exact ⟨by rw [World.cell?_setCell_other _ _ _ _ (by simp)]; exact h1, by rw [World.cell?_setCell_other _ _ _ _ (by simp)]; exact h2⟩
theorem toRoom_any {w : World} {v : Value} {ps : List PaceV} (rb : Int) (h : IsPaces w v ps) (hs : ps.length ≤ 1048576) :
  Calls Tryz.prog 201 #[.agg #[.int .i64 rb, v]] w fun e w' => ∃ v', e = .returned (.agg #[.int .i64 rb, v']) ∧ IsPaces w' v' ps ∧ (∀ k, v'.ownBlock = some k → w.heap.size ≤ k) ∧ Below w.heap.size w w' := by
 have Hv := hide h
 obtain ⟨a, cap, rfl, hc, hm, hr⟩ := h
 clear hr
 have Hb0 : Hid (∀ o1 o2 o3 : Obj, Below w.heap.size w (((w.alloc o1).alloc o2).alloc o3)) := hide (fun o1 o2 o3 => (((Below.refl _ _).alloc (Nat.le_refl _) _).alloc (by simp) _).alloc (by simp; omega) _)
 go_enter Tryz.func201, Tryz.ntmps201
 go_wp2_with fail
 refine (toPaceS_any ((uh Hv).below (uh Hb0 _ _ _)) hs).mono ?_
 rintro e w1 ⟨v', rfl, hp, hk, hb1⟩
 have hsz : w.heap.size + 3 ≤ w1.heap.size := by have := hb1.size; simp at this; omega
 have hk' : ∀ k, v'.ownBlock = some k → w.heap.size + 3 ≤ k := fun k e => by have := hk k e; simp at this; omega
 obtain ⟨cc, ff⟩ := bcell hb1
 have x0 := cc (w.heap.size + 2) 0 (by simp)
 have x1 := cc (w.heap.size + 2) 1 (by simp)
 have y0 := cc (w.heap.size + 1) 0 (by simp)
 have y1 := cc (w.heap.size + 1) 1 (by simp)
 have fx0 := ff (w.heap.size + 2) 0 (by simp)
 have fx1 := ff (w.heap.size + 2) 1 (by simp)
 have fy0 := ff (w.heap.size + 1) 0 (by simp)
 have fy1 := ff (w.heap.size + 1) 1 (by simp)
 have Hp := hide hp
 have Hk := hide hk'
 have Hb1 := hide hb1
 obtain ⟨a', cap', rfl, _⟩ := hp
 clear cc ff hk hk' hb1
 go_wp2_with fail
 have Q : ∀ b o u, b ≤ w.heap.size + 2 → ∀ w' v', IsPaces w' v' ps → (∀ k, v'.ownBlock = some k → w.heap.size + 3 ≤ k) → IsPaces (w'.setCell ⟨b, o, none⟩ u) v' ps := fun b o u hb w' v' h hk => h.set b o u (fun k e => by have := hk k e; omega)
 have B1 : Below w.heap.size w w1 := (uh Hb0 _ _ _).trans ((uh Hb1).mono (by simp; omega))
 refine bodyPost_ret (v := .agg #[.int .i64 rb, .slice a' ps.length cap']) (by simp [results, Tryz.results201, go_sem, *]) rfl ⟨_, rfl, ?_, fun k e => by have := uh Hk k e; omega, ?_⟩
 ·exact Q _ _ _ (by omega) _ _ (Q _ _ _ (by omega) _ _ (Q _ _ _ (by omega) _ _ (uh Hp) (uh Hk)) (uh Hk)) (uh Hk)
 ·exact ((B1.setCell (by show _ ≤ w.heap.size + 1 + 1; omega) _).setCell (by show _ ≤ w.heap.size + 1; omega) _).setCell (by show _ ≤ w.heap.size + 1; omega) _
def isRoomOf (w : World) (g : Nat) (rs : List RoomV) (j : Nat) (u u' : Value) : Prop := u = .int .i64 (roomAt rs j).1 ∧ IsPaces w u' (roomAt rs j).2 ∧ ∀ k, u'.ownBlock = some k → g < k
def RoomsFrom (n₀ : Nat) (w : World) (v : Value) (rs : List RoomV) : Prop :=
 ∃ (a : Option Addr) (cap : Nat), v = .slice a rs.length cap ∧ rs.length ≤ cap ∧ cap ≤ 9223372036854775807 ∧ (rs = [] ∨ ∃ b off, a = some ⟨b, off, none⟩ ∧ n₀ ≤ b ∧ b < w.heap.size ∧
  ∀ k, k < rs.length → w.cell? ⟨b, off + k * 2, none⟩ = some (.int .i64 (roomAt rs k).1) ∧ ∃ pv, w.cell? ⟨b, off + k * 2 + 1, none⟩ = some pv ∧ IsPaces w pv (roomAt rs k).2 ∧ ∀ j, pv.ownBlock = some j → n₀ ≤ j)
theorem RoomsFrom.rooms {n₀ : Nat} {w : World} {v : Value} {rs : List RoomV} (h : RoomsFrom n₀ w v rs) : IsRooms w v rs := by
 obtain ⟨a, cap, rfl, hc, hm, hr⟩ := h
 refine ⟨a, cap, rfl, hc, hm, ?_⟩
 rcases hr with hr | ⟨b, off, rfl, _, hlt, hcl⟩
 ·exact .inl hr
 ·exact .inr ⟨b, off, rfl, hlt, fun k hk => by obtain ⟨h1, pv, h2, h3, _⟩ := hcl k hk; exact ⟨h1, pv, h2, h3⟩⟩
theorem RoomsFrom.set {n₀ : Nat} {w : World} {v : Value} {rs : List RoomV} (h : RoomsFrom n₀ w v rs) (g o : Nat) (u : Value) (hg : g < n₀) : RoomsFrom n₀ (w.setCell ⟨g, o, none⟩ u) v rs := by
 obtain ⟨a, cap, rfl, hc, hm, hr⟩ := h
 refine ⟨a, cap, rfl, hc, hm, ?_⟩
 rcases hr with hr | ⟨b, off, rfl, hn, hlt, hcl⟩
 ·exact .inl hr
 ·have hne : b ≠ g := by omega
  refine .inr ⟨b, off, rfl, hn, by simpa using hlt, fun k hk => ?_⟩
  obtain ⟨h1, pv, h2, h3, h4⟩ := hcl k hk
  exact ⟨by rw [World.cell?_setCell_other _ _ _ _ (by simp)]; exact h1, pv, by rw [World.cell?_setCell_other _ _ _ _ (by simp)]; exact h2, h3.set _ _ _ (fun j e => by have := h4 j e; omega), h4⟩
theorem RoomsFrom.of_row {w : World} {B g n cap t : Nat} {rs : List RoomV} {xs : List Value} (h : w.ownsRow B t 2 (.slice (some ⟨g, 0, none⟩) n cap) n xs) (hp : Pairs xs (isRoomOf w g rs) rs.length) (hn : n = rs.length) : RoomsFrom g w (.slice (some ⟨g, 0, none⟩) n cap) rs := by
 subst hn
 have h' := h
 rcases h.2 with ⟨hh, _⟩ | ⟨g', cap', cur, hh, hb, hg, hnc, hcm, r⟩
 ·simp at hh
 ·simp only [Value.slice.injEq, Option.some.injEq, Addr.mk.injEq, and_true, true_and] at hh
  obtain ⟨rfl, rfl⟩ := hh
  refine ⟨_, cap, rfl, hnc, by unfold maxLen at hcm; omega, .inr ⟨g, 0, rfl, Nat.le_refl _, (Array.getElem?_eq_some_iff.1 hg).1, fun k hk => ?_⟩⟩
  obtain ⟨u, u', h1, h2, rfl, h3, h4⟩ := hp k hk
  refine ⟨?_, u', ?_, h3, fun j e => Nat.le_of_lt (h4 j e)⟩
  ·rw [Nat.zero_add, World.ownsRow.cellAt h' _ (by omega)]; exact h1
  ·rw [Nat.zero_add, World.ownsRow.cellAt h' _ (by omega)]; exact h2
theorem toRoomS_any {w : World} {v : Value} {rs : List RoomV} (h : IsRooms w v rs) (hs : Small rs) :
  Calls Tryz.prog 138 #[v] w fun e w' => ∃ v', e = .returned v' ∧ RoomsFrom w.heap.size w' v' rs ∧ Below w.heap.size w w' := by
 obtain ⟨a, cap, rfl, hc, hm, hr⟩ := h
 have Hr := hide hr
 clear hr
 obtain ⟨hs1, hs2⟩ := hs
 have Hs2 := hide hs2
 clear hs2
 obtain ⟨i0, hi, hz0, hz1, hz2⟩ := info_parts infoRoom
 go_enter Tryz.func138, Tryz.ntmps138
 go_wp2_with (at_make; refine wpList_make_full _ rfl _ _ 24 rfl w.heap.size 130 i0 (.agg #[.int .i64 0, .slice none 0 0]) 2 Tryz.underlying24 hi hz0 hz1 _ _ _ _ rs.length rfl rfl rfl rfl (by rw [hz2]; omega) (by unfold maxLen; omega) (Nat.le_refl _) ?_; intro w0 hown hgrow)
 have Hown := hide hown
 have Hgr := hide hgrow
 clear hown hgrow
 go_loopw [4] (fun i wr => ∃ k : Nat, k ≤ rs.length ∧ i = .int .i64 k ∧ ∃ xs, wr.ownsRow w.heap.size 130 2 (.slice (some ⟨w.heap.size, 0, none⟩) rs.length rs.length) rs.length xs ∧ Pairs xs (isRoomOf wr w.heap.size rs) k ∧ Below w.heap.size w wr) (fun i _ => rs.length - (intOf i).toNat)
 case atStart => exact ⟨0, Nat.zero_le _, rfl, _, uh Hown, fun j hj => by omega, (Below.refl _ _).grown (uh Hgr) (Nat.le_refl _) (fun k e => by cases e)⟩
 case round =>
  obtain ⟨k, hk, rfl, xs, hown, hpr, hb⟩ := hrel
  have Hb := hide hb
  by_cases hlt : k < rs.length
  ·rcases uh Hr with h0 | ⟨b, off, rfl, hbw, hcl⟩
   ·rw [h0] at hlt; simp at hlt
   obtain ⟨c0, pv, c1, hip⟩ := hcl k hlt
   rw [← hb.cell (p := ⟨b, off + k * 2, none⟩) hbw] at c0
   rw [← hb.cell (p := ⟨b, off + k * 2 + 1, none⟩) hbw] at c1
   have hxs : xs.length = rs.length * 2 := hown.1
   have hg1 : w.heap.size < wr.heap.size := (World.ownsRow.lt hown w.heap.size rfl).2
   have Ho := hide hown
   have Hpr := hide hpr
   have Hip := hide (hip.below hb)
   obtain ⟨pa, pcap, rfl, _⟩ := hip
   have hsk := uh Hs2 k hlt
   generalize hp : roomAt rs k = p at *
   obtain ⟨rb, ps⟩ := p
   simp only at c0 c1 hsk
   have Hp := hide hp
   clear hcl hb hown hpr hp
   go_wp2_with fail
   refine (toRoom_any rb (uh Hip) hsk).mono ?_
   rintro e w1 ⟨v', rfl, hip', hk', hb1⟩
   have ho1 := own_later (uh Ho) hb1
   obtain ⟨⟨x0, y0⟩, z0⟩ := own_cell ho1 (j := k * 2) (by omega)
   obtain ⟨⟨x1, y1⟩, z1⟩ := own_cell ho1 (j := k * 2 + 1) (by omega)
   have Hp2 := hide (own_pair ho1 (k * 2) (.int .i64 rb) v')
   have Hip' := hide hip'
   have Hk' := hide hk'
   have Hb1 := hide hb1
   have hsz := hb1.size
   have hsz0 := (uh Hb).size
   obtain ⟨a', cap', rfl, _⟩ := hip'
   clear ho1 hb1 hk'
   go_wp2_with fail
   have hne : ∀ {u : Value}, (∀ m, u.ownBlock = some m → w.heap.size < m) → ∀ {qs}, IsPaces wr u qs → IsPaces ((w1.setCell ⟨w.heap.size, k * 2, none⟩ (.int .i64 rb)).setCell ⟨w.heap.size, k * 2 + 1, none⟩ (.slice a' ps.length cap')) u qs := fun hn qs hq => ((hq.below (uh Hb1)).set _ _ _ (fun m e => by have := hn m e; omega)).set _ _ _ (fun m e => by have := hn m e; omega)
   have hn' : ∀ m, (Value.slice a' ps.length cap').ownBlock = some m → w.heap.size < m := fun m e => by have := uh Hk' _ e; omega
   have hlast : isRoomOf ((w1.setCell ⟨w.heap.size, k * 2, none⟩ (.int .i64 rb)).setCell ⟨w.heap.size, k * 2 + 1, none⟩ (.slice a' ps.length cap')) w.heap.size rs k (.int .i64 rb) (.slice a' ps.length cap') := by
    unfold isRoomOf
    rw [uh Hp]
    exact ⟨rfl, ((uh Hip').set _ _ _ (fun m e => by have := hn' m e; omega)).set _ _ _ (fun m e => by have := hn' m e; omega), hn'⟩
   have hprev := (uh Hpr).mono (Q := isRoomOf ((w1.setCell ⟨w.heap.size, k * 2, none⟩ (.int .i64 rb)).setCell ⟨w.heap.size, k * 2 + 1, none⟩ (.slice a' ps.length cap')) w.heap.size rs) (fun j u u' h => ⟨h.1, hne h.2.2 h.2.1, h.2.2⟩)
   go_roundw
   case rel => exact ⟨k + 1, by omega, by go_num, _, (uh Hp2).1, hprev.next (by omega) hlast, ((uh Hb).trans ((uh Hb1).mono hsz0)).trans (below_grown (uh Hp2).2 (Nat.le_refl _) (by omega))⟩
   case measure => simp [intOf]; omega
  ·obtain rfl : k = rs.length := by omega
   go_wp2_with fail
   go_ret
   exact ⟨_, rfl, RoomsFrom.of_row hown hpr rfl, hb⟩
theorem IsRooms.shape {w : World} {v : Value} {rs : List RoomV} (h : IsRooms w v rs) : ∃ a cap, v = .slice a rs.length cap ∧ rs.length ≤ cap ∧ cap ≤ 9223372036854775807 := by
 obtain ⟨a, cap, rfl, hc, hm, _⟩ := h; exact ⟨a, cap, rfl, hc, hm⟩
end Go.Proofs.YthbbahagpmdooaaGreatDoor
