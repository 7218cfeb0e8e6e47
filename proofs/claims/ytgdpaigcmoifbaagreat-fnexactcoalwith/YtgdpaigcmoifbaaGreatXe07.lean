/- Part 7 of what the proof rests on. No condition but those that a theorem names. -/
import Derived.Test.YtgdpaigcmoifbaaGreatXe03
set_option maxHeartbeats 8000000
set_option maxRecDepth 100000
namespace Go.Proofs.YtgdpaigcmoifbaaGreat
open Go.ChangeShapes Go.WideShapes Go.ChangeAt Go.RowKit Go.Sort Go.Proofs.Tryz
set_option linter.unusedVariables false
theorem roomB_1 {b : Int} {ps : List PaceV} (h : inB b 1 4 = false) : roomB (b, ps) = false := by unfold roomB; simp [h]
theorem roomB_2 {b : Int} {ps : List PaceV} (h : inB ps.length 1 4 = false) : roomB (b, ps) = false := by unfold roomB; simp [h]
theorem roomB_3 {b : Int} {ps : List PaceV} (h : inB b 1 4 = true) (h2 : inB ps.length 1 4 = true) : roomB (b, ps) = pacesB ps := by unfold roomB; simp [h, h2]
theorem implRoomOk_any {w : World} {v : Value} {ps : List PaceV} (b : Int) (h : IsPaces w v ps) :
  cB 285 #[.agg #[.int .i64 b, v]] w (.bool (roomB (b, ps))) := by
 have Hv := hide h
 obtain ⟨a, cap, rfl, hc, hm, hr⟩ := h
 clear hr
 have hl : (ps.length : Int) ≤ 9223372036854775807 := by omega
 cases h1 : inB b 1 4
 ·go_enter func285, ntmps285
  go_wp2_with fail
  refine (liesFrom_any _ _ _ _).mono ?_
  rintro e w' ⟨rfl, rfl⟩
  go_wp2_with fail
  go_ret
  exact ⟨ret_bool (roomB_1 h1).symm, (ba _ _)⟩
 cases h2 : inB ps.length 1 4
 ·go_enter func285, ntmps285
  go_wp2_with fail
  refine (liesFrom_any _ _ _ _).mono ?_
  rintro e w' ⟨rfl, rfl⟩
  go_wp2_with fail
  refine (liesFrom_any _ _ _ _).mono ?_
  rintro e w' ⟨rfl, rfl⟩
  go_wp2_with fail
  go_ret
  exact ⟨ret_bool (roomB_2 h2).symm, (ba _ _)⟩
 ·have H3 := hide (roomB_3 h1 h2)
  go_enter func285, ntmps285
  go_wp2_with fail
  refine (liesFrom_any _ _ _ _).mono ?_
  rintro e w' ⟨rfl, rfl⟩
  go_wp2_with fail
  refine (liesFrom_any _ _ _ _).mono ?_
  rintro e w' ⟨rfl, rfl⟩
  go_wp2_with fail
  refine ck (pacesOk_any ((uh Hv).below ((ba _ _)))) fun w1 hb => ?_
  go_wp2_with fail
  go_ret
  exact ⟨ret_bool (uh H3).symm, ((ba _ _)).trans (hb.mono (by simp))⟩
theorem below_drewN {B : Nat} {w w' : World} (h : Below B w w') (n : Nat) : Below B w (w'.drewN n) := ⟨h.os, h.tape, h.output, h.size, h.block⟩
theorem stepB_f1 {ps : List PaceV} {k : Nat} {f c : Int} (hp : paceAt ps k = (f, c)) (h : inB f 1 1024 = false) : stepB ps k = false := by unfold stepB paceB; rw [hp]; simp [h]
theorem stepB_f2 {ps : List PaceV} {k : Nat} {f c : Int} (hp : paceAt ps k = (f, c)) (h : inB c 1 1024 = false) : stepB ps k = false := by unfold stepB paceB; rw [hp]; simp [h]
theorem stepB_b {ps : List PaceV} {k : Nat} {f c f' c' : Int} (hp : paceAt ps k = (f, c)) (hz : 0 < k) (hq : paceAt ps (k - 1) = (f', c')) (h1 : inB f 1 1024 = true) (h2 : inB c 1 1024 = true) : stepB ps k = (decide (f' < f) && decide (c' < c)) := by
 unfold stepB paceB aboveB; rw [hp, hq]; simp [h1, h2]; omega
theorem stepB_t0 {ps : List PaceV} {f c : Int} (hp : paceAt ps 0 = (f, c)) (h1 : inB f 1 1024 = true) (h2 : inB c 1 1024 = true) : stepB ps 0 = true := by unfold stepB paceB; rw [hp]; simp [h1, h2]
theorem specRoomOk_any {w : World} {v : Value} {ps : List PaceV} (rb : Int) (h : IsPaces w v ps) :
  cB 192 #[.agg #[.int .i64 rb, v]] w (.bool (roomB (rb, ps))) := by
 obtain ⟨a, cap, rfl, hc, hm, hr⟩ := h
 have Hr := hide hr
 clear hr
 have hl : (ps.length : Int) ≤ 9223372036854775807 := by omega
 cases h1 : inB rb 1 4
 ·go_enter func192, ntmps192
  go_wp2_with fail
  refine (l1In_any _ _ _ _).mono ?_
  rintro e w' ⟨rfl, rfl⟩
  go_wp2_with fail
  go_ret
  exact ⟨ret_bool (roomB_1 h1).symm, (ba _ _)⟩
 cases h2 : inB ps.length 1 4
 ·go_enter func192, ntmps192
  go_wp2_with fail
  refine (l1In_any _ _ _ _).mono ?_
  rintro e w' ⟨rfl, rfl⟩
  go_wp2_with fail
  refine (l1In_any _ _ _ _).mono ?_
  rintro e w' ⟨rfl, rfl⟩
  go_wp2_with fail
  go_ret
  exact ⟨ret_bool (roomB_2 h2).symm, (ba _ _)⟩
 have H3 := hide (roomB_3 h1 h2)
 go_enter func192, ntmps192
 go_wp2_with fail
 refine (l1In_any _ _ _ _).mono ?_
 rintro e w' ⟨rfl, rfl⟩
 go_wp2_with fail
 refine (l1In_any _ _ _ _).mono ?_
 rintro e w' ⟨rfl, rfl⟩
 go_wp2_with fail
 clear h1 h2
 go_loopw [3] (fun i wr => ∃ k : Nat, k ≤ ps.length ∧ i = .int .i64 k ∧ (∀ j, j < k → stepB ps j = true) ∧ Below (w.heap.size + 1) (w.alloc (.cells #[.int .i64 rb, .slice a ps.length cap] 130)) wr) (fun i _ => ps.length - (intOf i).toNat)
 case atStart => exact ⟨0, alNzl _, rfl, fun j hj => by omega, alBrf _ _⟩
 case round =>
  obtain ⟨k, hk, rfl, hst, hb⟩ := hrel
  have Hst := hide hst
  have Hb := hide hb
  clear hst
  have hsz : w.heap.size + 1 ≤ wr.heap.size := by have := hb.size; simpa using this
  have hbox : wr.cell? ⟨w.heap.size, 1, none⟩ = some (.slice a ps.length cap) := by rw [hb.cell (p := ⟨w.heap.size, 1, none⟩) (by simp)]; simp
  have hne0 : w.heap.size ≠ wr.heap.size := by omega
  by_cases hlt : k < ps.length
  ·rcases uh Hr with h0 | ⟨b, off, rfl, hbw, hcl⟩
   ·rw [h0] at hlt; simp at hlt
   have hbB : Below w.heap.size w wr := ((ba _ _)).trans (hb.mono (by omega))
   have hne : b ≠ wr.heap.size := by omega
   have hne' : b ≠ w.heap.size := by omega
   obtain ⟨c0, c1⟩ := hcl k hlt
   rw [← hbB.cell (p := ⟨b, off + k * 2, none⟩) hbw] at c0
   rw [← hbB.cell (p := ⟨b, off + k * 2 + 1, none⟩) hbw] at c1
   generalize hp : paceAt ps k = p at c0 c1
   have Hp := hide hp
   obtain ⟨f, c⟩ := p
   simp only at c0 c1
   clear hp hb
   cases h1 : inB f 1 1024
   ·clear hcl
    go_wp2_with fail
    go_quiet (exact alCqs (l1In_any _ _ _ _))
    go_wp2_with fail
    go_ret
    exact ⟨ret_bool (by rw [uh H3]; exact (pacesB_f hlt (stepB_f1 (uh Hp) h1)).symm), ((ba _ _)).trans ((below_drewN ((uh Hb).alloc hsz _) _).mono (by omega))⟩
   cases h2 : inB c 1 1024
   ·clear hcl
    go_wp2_with fail
    go_quiet (exact alCqs (l1In_any _ _ _ _))
    go_wp2_with fail
    go_ret
    exact ⟨ret_bool (by rw [uh H3]; exact (pacesB_f hlt (stepB_f2 (uh Hp) h2)).symm), ((ba _ _)).trans ((below_drewN ((uh Hb).alloc hsz _) _).mono (by omega))⟩
   by_cases hz : 0 < k
   ·have hd : decide (0 < k) = true := alDet hz
    obtain ⟨e0, e1⟩ := hcl (k - 1) (by omega)
    rw [← hbB.cell (p := ⟨b, off + (k - 1) * 2, none⟩) hbw] at e0
    rw [← hbB.cell (p := ⟨b, off + (k - 1) * 2 + 1, none⟩) hbw] at e1
    generalize hq : paceAt ps (k - 1) = q at e0 e1
    have Hq := hide hq
    obtain ⟨f', c'⟩ := q
    simp only at e0 e1
    have q0 : (wr.alloc (.cells #[.int .i64 f, .int .i64 c] 139)).cell? ⟨w.heap.size, 1, none⟩ = some (.slice (some ⟨b, off, none⟩) ps.length cap) := by rw [World.cell?_alloc_old _ _ _ hne0]; exact hbox
    have q1 : (wr.alloc (.cells #[.int .i64 f, .int .i64 c] 139)).cell? ⟨b, off + (k - 1) * 2, none⟩ = some (.int .i64 f') := by rw [World.cell?_alloc_old _ _ _ hne]; exact e0
    have q2 : (wr.alloc (.cells #[.int .i64 f, .int .i64 c] 139)).cell? ⟨b, off + (k - 1) * 2 + 1, none⟩ = some (.int .i64 c') := by rw [World.cell?_alloc_old _ _ _ hne]; exact e1
    clear hcl hq e0 e1
    have Hs := hide (stepB_b (uh Hp) hz (uh Hq) h1 h2)
    by_cases g1 : f ≤ f'
    ·have g1' : decide (f ≤ f') = true := alDet g1
     go_wp2_with fail
     go_quiet (exact alCqs (l1In_any _ _ _ _))
     go_wp2_with fail
     go_ret
     exact ⟨ret_bool (by rw [uh H3]; exact (pacesB_f hlt (by rw [uh Hs]; simp; omega)).symm), ((ba _ _)).trans ((below_drewN ((uh Hb).alloc hsz _) _).mono (by omega))⟩
    have g1' : decide (f ≤ f') = false := alDef g1
    by_cases g2 : c ≤ c'
    ·have g2' : decide (c ≤ c') = true := alDet g2
     go_wp2_with fail
     go_quiet (exact alCqs (l1In_any _ _ _ _))
     go_wp2_with fail
     go_ret
     exact ⟨ret_bool (by rw [uh H3]; exact (pacesB_f hlt (by rw [uh Hs]; simp; omega)).symm), ((ba _ _)).trans ((below_drewN ((uh Hb).alloc hsz _) _).mono (by omega))⟩
    ·have g2' : decide (c ≤ c') = false := alDef g2
     go_wp2_with fail
     go_quiet (exact alCqs (l1In_any _ _ _ _))
     go_wp2_with fail
     go_roundw
     case rel => exact ⟨k + 1, by omega, by go_num, next_all (uh Hst) (by rw [uh Hs]; simp; omega), below_drewN ((uh Hb).alloc hsz _) _⟩
     case measure => exact ms
   ·obtain rfl : k = 0 := by omega
    simp only [Nat.zero_mul, Nat.add_zero] at c0 c1
    clear hcl hz
    go_wp2_with fail
    go_quiet (exact alCqs (l1In_any _ _ _ _))
    go_wp2_with fail
    go_roundw
    case rel => exact ⟨1, by omega, by go_num, next_all (uh Hst) (stepB_t0 (uh Hp) h1 h2), below_drewN ((uh Hb).alloc hsz _) _⟩
    case measure => exact ms
  ·obtain rfl : k = ps.length := by omega
   clear hb
   go_wp2_with fail
   go_ret
   exact ⟨ret_bool (by rw [uh H3]; exact (pacesB_t (uh Hst)).symm), ((ba _ _)).trans ((uh Hb).mono (by omega))⟩
def Adds (rs : List RoomV) : Prop := ∀ k, k ≤ rs.length → 0 ≤ benchSum (rs.take k) ∧ benchSum (rs.take k) ≤ 1000000
theorem adds_of {rs : List RoomV} (h : rs.all roomB = true) (hl : rs.length ≤ 3) : Adds rs := fun k hk => by have := benchSum_bd h k hk; omega
theorem Adds.taken {rs : List RoomV} (h : Adds rs) (n : Nat) : Adds (rs.take n) := fun k hk => by
 have hk' : k ≤ n ∧ k ≤ rs.length := by simp at hk; omega
 rw [List.take_take, Nat.min_eq_left hk'.1]; exact h k hk'.2
theorem roomsOk_any {w : World} {v : Value} {rs : List RoomV} (h : IsRooms w v rs) :
  cB 246 #[v] w (.bool (rs.all roomB)) := by
 obtain ⟨a, cap, rfl, hc, hm, hr⟩ := h
 have Hr := hide hr
 clear hr
 go_enter func246, ntmps246
 go_wp2_with fail
 go_loopw [7] (fun i wr => ∃ k : Nat, k ≤ rs.length ∧ i = .int .i64 k ∧ (∀ j, j < k → roomB (roomAt rs j) = true) ∧ Below w.heap.size w wr) (fun i _ => rs.length - (intOf i).toNat)
 case atStart => exact ⟨0, alNzl _, rfl, fun j hj => by omega, alBrf _ _⟩
 case round =>
  obtain ⟨k, hk, rfl, hst, hb⟩ := hrel
  have Hst := hide hst
  have Hb := hide hb
  have hsz := hb.size
  clear hst
  by_cases hlt : k < rs.length
  ·rcases uh Hr with h0 | ⟨b, off, rfl, hbw, hcl⟩
   ·rw [h0] at hlt; simp at hlt
   obtain ⟨c0, pv, c1, hip⟩ := hcl k hlt
   rw [← hb.cell (p := ⟨b, off + k * 2, none⟩) hbw] at c0
   rw [← hb.cell (p := ⟨b, off + k * 2 + 1, none⟩) hbw] at c1
   have Hip := hide (hip.below hb)
   obtain ⟨pa, pcap, rfl, _⟩ := hip
   generalize hp : roomAt rs k = p at *
   obtain ⟨rb, ps⟩ := p
   simp only at c0 c1
   have Hp := hide hp
   clear hp hcl hb
   cases hrb : roomB (rb, ps)
   ·go_wp2_with fail
    refine ck (implRoomOk_any rb ((uh Hip).below ((ba _ _)))) fun w1 hb1 => ?_
    go_wp2_with fail
    go_ret
    exact ⟨ret_bool (allRooms_f hlt (by rw [uh Hp]; exact hrb)).symm, ((uh Hb).alloc hsz _).trans (hb1.mono (by simp; omega))⟩
   ·go_wp2_with fail
    refine ck (implRoomOk_any rb ((uh Hip).below ((ba _ _)))) fun w1 hb1 => ?_
    have Hb1 := hide hb1
    clear hb1
    go_wp2_with fail
    go_roundw
    case rel => exact ⟨k + 1, by omega, by go_num, next_all (uh Hst) (by rw [uh Hp]; exact hrb), ((uh Hb).alloc hsz _).trans ((uh Hb1).mono (by simp; omega))⟩
    case measure => exact ms
  ·obtain rfl : k = rs.length := by omega
   go_wp2_with fail
   go_ret
   exact ⟨ret_bool (allRooms_t (uh Hst)).symm, hb⟩
theorem benchesOf_any {w : World} {v : Value} {rs : List RoomV} (h : IsRooms w v rs) (ha : Adds rs) :
  cB 247 #[v] w (.int .i64 (benchSum rs)) := by
 obtain ⟨a, cap, rfl, hc, hm, hr⟩ := h
 have Hr := hide hr
 have Ha := hide ha
 clear hr ha
 go_enter func247, ntmps247
 go_wp2_with fail
 go_loopw [3, 8] (fun s i wr => ∃ k : Nat, k ≤ rs.length ∧ i = .int .i64 k ∧ s = .int .i64 (benchSum (rs.take k)) ∧ Below w.heap.size w wr) (fun _ i _ => rs.length - (intOf i).toNat)
 case atStart => exact ⟨0, alNzl _, rfl, rfl, alBrf _ _⟩
 case round =>
  obtain ⟨k, hk, rfl, rfl, hb⟩ := hrel
  have Hb := hide hb
  have hsz := hb.size
  by_cases hlt : k < rs.length
  ·rcases uh Hr with h0 | ⟨b, off, rfl, hbw, hcl⟩
   ·rw [h0] at hlt; simp at hlt
   obtain ⟨c0, pv, c1, hip⟩ := hcl k hlt
   rw [← hb.cell (p := ⟨b, off + k * 2, none⟩) hbw] at c0
   rw [← hb.cell (p := ⟨b, off + k * 2 + 1, none⟩) hbw] at c1
   obtain ⟨pa, pcap, rfl, _⟩ := hip
   have hs0 := uh Ha k hk
   have hs1 := uh Ha (k + 1) hlt
   have Hs := hide (benchSum_take rs hlt)
   rw [benchSum_take rs hlt] at hs1
   generalize benchSum (rs.take k) = s at *
   generalize (roomAt rs k).1 = rb at *
   obtain ⟨s0, s1⟩ := hs0
   obtain ⟨s2, s3⟩ := hs1
   clear hcl hb
   go_wp2_with fail
   go_roundw
   case rel => exact ⟨k + 1, by omega, by go_num, by rw [uh Hs], (uh Hb).alloc hsz _⟩
   case measure => exact ms
  ·obtain rfl : k = rs.length := by omega
   go_wp2_with fail
   go_ret
   exact ⟨ret_int (by rw [benchSum_all]), hb⟩
theorem hallB_1 {rs : List RoomV} (h : inB rs.length 1 3 = false) : hallB rs = false := by unfold hallB; simp [h]
theorem hallB_2 {rs : List RoomV} (h : rs.all roomB = false) : hallB rs = false := by unfold hallB; rw [h]; simp
theorem hallB_3 {rs : List RoomV} (h : inB rs.length 1 3 = true) (h2 : rs.all roomB = true) : hallB rs = decide (benchSum rs ≤ 8) := by unfold hallB; rw [h, h2]; simp
theorem IsRooms.alloc {w : World} {v : Value} {rs : List RoomV} (h : IsRooms w v rs) (o : Obj) : IsRooms (w.alloc o) v rs := h.below ((ba _ _))
theorem implHallOk_any {w : World} {v : Value} {rs : List RoomV} (h : IsRooms w v rs) :
  cB 213 #[.agg #[v]] w (.bool (hallB rs)) := by
 have Hv := hide h
 obtain ⟨a, cap, rfl, hc, hm, hr⟩ := h
 clear hr
 have hl : (rs.length : Int) ≤ 9223372036854775807 := by omega
 cases h1 : inB rs.length 1 3
 ·go_enter func213, ntmps213
  go_wp2_with fail
  refine (liesFrom_any _ _ _ _).mono ?_
  rintro e w' ⟨rfl, rfl⟩
  go_wp2_with fail
  go_ret
  exact ⟨ret_bool (hallB_1 h1).symm, (ba _ _)⟩
 cases h2 : rs.all roomB
 ·have H2 := hide (hallB_2 h2)
  generalize hx : rs.all roomB = x at *
  have Hx := hide hx
  clear hx
  subst h2
  go_enter func213, ntmps213
  go_wp2_with fail
  refine (liesFrom_any _ _ _ _).mono ?_
  rintro e w' ⟨rfl, rfl⟩
  go_wp2_with fail
  refine (roomsOk_any ((uh Hv).alloc _)).mono ?_
  rw [uh Hx]
  rintro e w1 ⟨rfl, hb⟩
  go_wp2_with fail
  go_ret
  exact ⟨ret_bool (uh H2).symm, ((ba _ _)).trans (hb.mono (by simp))⟩
 ·have H3 := hide (hallB_3 h1 h2)
  have Ha := hide (adds_of h2 (by have := inB_of h1; omega))
  generalize hx : rs.all roomB = x at *
  have Hx := hide hx
  clear hx
  subst h2
  go_enter func213, ntmps213
  go_wp2_with fail
  refine (liesFrom_any _ _ _ _).mono ?_
  rintro e w' ⟨rfl, rfl⟩
  go_wp2_with fail
  refine (roomsOk_any ((uh Hv).alloc _)).mono ?_
  rw [uh Hx]
  rintro e w1 ⟨rfl, hb⟩
  have hz : w.heap.size + 1 ≤ w1.heap.size := by have := hb.size; simpa using this
  have hbox : w1.cell? ⟨w.heap.size, 0, none⟩ = some (.slice a rs.length cap) := by rw [hb.cell (p := ⟨w.heap.size, 0, none⟩) (by simp)]; simp
  have hw1 := hide (((uh Hv).alloc _).below hb)
  have Hb := hide hb
  clear hb
  go_wp2_with fail
  refine ck (benchesOf_any (uh hw1) (uh Ha)) fun w2 hb2 => ?_
  have Hb2 := hide hb2
  clear hb2
  go_wp2_with fail
  go_ret
  exact ⟨ret_bool (by rw [uh H3]), ((ba _ _)).trans (((uh Hb).trans ((uh Hb2).mono (uh Hb).size)).mono (by simp))⟩
def benchesV (rs : List RoomV) : Int := if hallB rs = true then benchSum rs else -1
theorem benchesV_t {rs : List RoomV} (h : hallB rs = true) : benchesV rs = benchSum rs := by unfold benchesV; rw [if_pos h]
theorem benchesV_f {rs : List RoomV} (h : hallB rs = false) : benchesV rs = -1 := by unfold benchesV; rw [h]; rfl
theorem adds_hall {rs : List RoomV} (h : hallB rs = true) : Adds rs := adds_of (hallB_of h).2.2.1 (hallB_of h).2.1
theorem implBenchesIn_any {w : World} {v : Value} {rs : List RoomV} (h : IsRooms w v rs) :
  cB 217 #[.agg #[v]] w (.int .i64 (benchesV rs)) := by
 have Hv := hide h
 obtain ⟨a, cap, rfl, hc, hm, hr⟩ := h
 clear hr
 cases h1 : hallB rs
 ·have H1 := hide h1
  clear h1
  go_enter func217, ntmps217
  go_wp2_with fail
  refine (implHallOk_any ((uh Hv).alloc _)).mono ?_
  rw [uh H1]
  rintro e w1 ⟨rfl, hb⟩
  go_wp2_with fail
  go_ret
  exact ⟨ret_int (benchesV_f (uh H1)).symm, ((ba _ _)).trans (hb.mono (by simp))⟩
 ·have H1 := hide h1
  clear h1
  go_enter func217, ntmps217
  go_wp2_with fail
  refine (implHallOk_any ((uh Hv).alloc _)).mono ?_
  rw [uh H1]
  rintro e w1 ⟨rfl, hb⟩
  have hz : w.heap.size + 1 ≤ w1.heap.size := by have := hb.size; simpa using this
  have hbox : w1.cell? ⟨w.heap.size, 0, none⟩ = some (.slice a rs.length cap) := by rw [hb.cell (p := ⟨w.heap.size, 0, none⟩) (by simp)]; simp
  have hw1 := hide (((uh Hv).alloc _).below hb)
  have Hb := hide hb
  clear hb
  go_wp2_with fail
  refine ck (benchesOf_any (uh hw1) (adds_hall (uh H1))) fun w2 hb2 => ?_
  have Hb2 := hide hb2
  clear hb2
  go_wp2_with fail
  go_ret
  exact ⟨ret_int (benchesV_t (uh H1)).symm, ((ba _ _)).trans (((uh Hb).trans ((uh Hb2).mono (uh Hb).size)).mono (by simp))⟩
theorem l4Count_any {w : World} {v : Value} {rs : List RoomV} (h : IsRooms w v rs) (ha : Adds rs) :
  cB 133 #[.agg #[v]] w (.int .i64 (benchSum rs)) := by
 obtain ⟨a, cap, rfl, hc, hm, hr⟩ := h
 have Hr := hide hr
 have Ha := hide ha
 clear hr ha
 go_enter func133, ntmps133
 go_wp2_with fail
 go_loop [3, 4] (fun s i => ∃ k : Nat, k ≤ rs.length ∧ i = .int .i64 k ∧ s = .int .i64 (benchSum (rs.take k))) (fun _ i => rs.length - (intOf i).toNat)
 case atStart => exact ⟨0, alNzl _, rfl, rfl⟩
 case round =>
  obtain ⟨k, hk, rfl, rfl⟩ := hrel
  by_cases hlt : k < rs.length
  ·rcases uh Hr with h0 | ⟨b, off, rfl, hbw, hcl⟩
   ·rw [h0] at hlt; simp at hlt
   obtain ⟨c0, pv, c1, hip⟩ := hcl k hlt
   have hne : b ≠ w.heap.size := alNol hbw
   have hs0 := uh Ha k hk
   have hs1 := uh Ha (k + 1) hlt
   have Hs := hide (benchSum_take rs hlt)
   rw [benchSum_take rs hlt] at hs1
   generalize benchSum (rs.take k) = s at *
   generalize (roomAt rs k).1 = rb at *
   obtain ⟨s0, s1⟩ := hs0
   obtain ⟨s2, s3⟩ := hs1
   clear hcl hip
   go_wp2_with fail
   go_round
   case rel => exact ⟨k + 1, by omega, by go_num, by rw [uh Hs]⟩
   case measure => exact ms
  ·obtain rfl : k = rs.length := by omega
   go_wp2_with fail
   go_ret
   exact ⟨ret_int (by first | rfl | rw [benchSum_all]), (ba _ _)⟩
theorem specHallOk_any {w : World} {v : Value} {rs : List RoomV} (h : IsRooms w v rs) :
  cB 131 #[.agg #[v]] w (.bool (hallB rs)) := by
 have Hv := hide h
 obtain ⟨a, cap, rfl, hc, hm, hr⟩ := h
 have Hr := hide hr
 clear hr
 have hl : (rs.length : Int) ≤ 9223372036854775807 := by omega
 go_enter func131, ntmps131
 go_wp2_with fail
 go_loopw [3] (fun i wr => ∃ k : Nat, k ≤ rs.length ∧ i = .int .i64 k ∧ (∀ j, j < k → roomB (roomAt rs j) = true) ∧ Below (w.heap.size + 1) (w.alloc (.cells #[.slice a rs.length cap] 26)) wr) (fun i _ => rs.length - (intOf i).toNat)
 case atStart => exact ⟨0, alNzl _, rfl, fun j hj => by omega, alBrf _ _⟩
 case round =>
  obtain ⟨k, hk, rfl, hst, hb⟩ := hrel
  have Hst := hide hst
  have Hb := hide hb
  have hsz : w.heap.size + 1 ≤ wr.heap.size := by have := hb.size; simpa using this
  have hbox : wr.cell? ⟨w.heap.size, 0, none⟩ = some (.slice a rs.length cap) := by rw [hb.cell (p := ⟨w.heap.size, 0, none⟩) (by simp)]; simp
  have hbB : Below w.heap.size w wr := ((ba _ _)).trans (hb.mono (by omega))
  clear hst
  by_cases hlt : k < rs.length
  ·rcases uh Hr with h0 | ⟨b, off, rfl, hbw, hcl⟩
   ·rw [h0] at hlt; simp at hlt
   obtain ⟨c0, pv, c1, hip⟩ := hcl k hlt
   rw [← hbB.cell (p := ⟨b, off + k * 2, none⟩) hbw] at c0
   rw [← hbB.cell (p := ⟨b, off + k * 2 + 1, none⟩) hbw] at c1
   have Hip := hide (hip.below hbB)
   obtain ⟨pa, pcap, rfl, _⟩ := hip
   generalize hp : roomAt rs k = p at *
   obtain ⟨rb, ps⟩ := p
   simp only at c0 c1
   have Hp := hide hp
   have HbB := hide hbB
   clear hp hcl hb hbB
   cases hrb : roomB (rb, ps)
   ·go_wp2_with fail
    refine ck (specRoomOk_any rb (uh Hip)) fun w1 hb1 => ?_
    have Hb1 := hide hb1
    clear hb1
    go_wp2_with fail
    go_ret
    exact ⟨ret_bool (hallB_2 (allRooms_f hlt (by rw [uh Hp]; exact hrb))).symm, (uh HbB).trans ((uh Hb1).mono (uh HbB).size)⟩
   ·go_wp2_with fail
    refine ck (specRoomOk_any rb (uh Hip)) fun w1 hb1 => ?_
    have Hb1 := hide hb1
    clear hb1
    go_wp2_with fail
    go_roundw
    case rel => exact ⟨k + 1, by omega, by go_num, next_all (uh Hst) (by rw [uh Hp]; exact hrb), (uh Hb).trans ((uh Hb1).mono hsz)⟩
    case measure => exact ms
  ·obtain rfl : k = rs.length := by omega
   have h2 := allRooms_t (uh Hst)
   have HbB := hide hbB
   have hw1 := hide ((uh Hv).below hbB)
   clear hb hbB
   cases h1 : inB rs.length 1 3
   ·have H2 := hide (hallB_1 h1)
    clear h2
    go_wp2_with fail
    refine (l1In_any _ _ _ _).mono ?_
    rintro e w' ⟨rfl, rfl⟩
    go_wp2_with fail
    go_ret
    exact ⟨ret_bool (uh H2).symm, uh HbB⟩
   ·have H3 := hide (hallB_3 h1 h2)
    have Ha := hide (adds_of h2 (by have := inB_of h1; omega))
    clear h2
    go_wp2_with fail
    refine (l1In_any _ _ _ _).mono ?_
    rintro e w' ⟨rfl, rfl⟩
    go_wp2_with fail
    refine ck (l4Count_any (uh hw1) (uh Ha)) fun w2 hb2 => ?_
    have Hb2 := hide hb2
    clear hb2
    go_wp2_with fail
    go_ret
    exact ⟨ret_bool (by rw [uh H3]), (uh HbB).trans ((uh Hb2).mono (uh HbB).size)⟩
theorem szPaceS_any (a : Option Addr) (n cap : Nat) (left : Int) (hn : n ≤ 9223372036854775807) (h0 : 0 ≤ left) (h1 : left ≤ 1048576) (w : World) :
  cE 243 #[.slice a n cap, .int .i64 left] w (.int .i64 (szV n left)) := by
 by_cases h : left - n < 0
 all_goals
  go_enter func243, ntmps243
  go_wp2
  go_ret
  exact ⟨ret_int (by first | exact (szV_f (by omega)).symm | exact (szV_t (by omega)).symm), rfl⟩
theorem szRoom_any (b : Int) (a : Option Addr) (n cap : Nat) (left : Int) (hn : n ≤ 9223372036854775807) (h0 : 0 ≤ left) (h1 : left ≤ 1048576) (w : World) :
  cB 204 #[.agg #[.int .i64 b, .slice a n cap], .int .i64 left] w (.int .i64 (szV n left)) := by
 by_cases h : left - n < 0
 ·go_enter func204, ntmps204
  go_wp2_with fail
  refine (szPaceS_any _ _ _ _ hn h0 h1 _).mono ?_
  rw [szV_f (by omega)]
  rintro e w' ⟨rfl, rfl⟩
  go_wp2_with fail
  go_ret
  exact ⟨ret_int (szV_f (by omega)).symm, (ba _ _)⟩
 ·go_enter func204, ntmps204
  go_wp2_with fail
  refine (szPaceS_any _ _ _ _ hn h0 h1 _).mono ?_
  rw [szV_t (by omega)]
  rintro e w' ⟨rfl, rfl⟩
  go_wp2_with fail
  go_ret
  exact ⟨ret_int (szV_t (by omega)).symm, (ba _ _)⟩
def Small (rs : List RoomV) : Prop := rs.length ≤ 1048576 ∧ ∀ j, j < rs.length → (roomAt rs j).2.length ≤ 1048576
theorem szRoomS_any {w : World} {v : Value} {rs : List RoomV} (h : IsRooms w v rs) (left : Int) (h0 : 0 ≤ left) (h1 : left ≤ 1048576) :
  Calls prog 149 #[v, .int .i64 left] w fun e w' => ∃ x : Int, e = .returned (.int .i64 x) ∧ x ≤ 1048576 ∧ (0 ≤ x → Small rs) ∧ Below w.heap.size w w' := by
 obtain ⟨a, cap, rfl, hc, hm, hr⟩ := h
 have Hr := hide hr
 clear hr
 by_cases hn : left - rs.length < 0
 ·go_enter func149, ntmps149
  go_wp2_with fail
  go_ret
  exact ⟨-1, rfl, by omega, fun h => by omega, alBrf _ _⟩
 ·go_enter func149, ntmps149
  go_wp2_with fail
  go_loopw [1, 5] (fun l i wr => ∃ (k : Nat) (y : Int), k ≤ rs.length ∧ i = .int .i64 k ∧ l = .int .i64 y ∧ 0 ≤ y ∧ y ≤ 1048576 ∧ (∀ j, j < k → (roomAt rs j).2.length ≤ 1048576) ∧ Below w.heap.size w wr) (fun _ i _ => rs.length - (intOf i).toNat)
  case atStart => exact ⟨0, _, alNzl _, rfl, rfl, by omega, by omega, fun j hj => by omega, alBrf _ _⟩
  case round =>
   obtain ⟨k, y, hk, rfl, rfl, y0, y1, hst, hb⟩ := hrel
   have Hst := hide hst
   have Hb := hide hb
   clear hst
   by_cases hlt : k < rs.length
   ·rcases uh Hr with h0 | ⟨b, off, rfl, hbw, hcl⟩
    ·rw [h0] at hlt; simp at hlt
    obtain ⟨c0, pv, c1, hip⟩ := hcl k hlt
    rw [← hb.cell (p := ⟨b, off + k * 2, none⟩) hbw] at c0
    rw [← hb.cell (p := ⟨b, off + k * 2 + 1, none⟩) hbw] at c1
    obtain ⟨pa, pcap, rfl, hpc, hpm, _⟩ := hip
    generalize hp : (roomAt rs k).2.length = n at *
    generalize (roomAt rs k).1 = rb at *
    have Hp := hide hp
    clear hp hcl hb
    by_cases hy : y - n < 0
    ·go_wp2_with fail
     refine (szRoom_any _ _ _ _ _ (by omega) y0 y1 _).mono ?_
     rw [szV_f (by omega)]
     rintro e w1 ⟨rfl, hb1⟩
     have Hb1 := hide hb1
     clear hb1
     go_wp2_with fail
     go_ret
     exact ⟨-1, rfl, by omega, fun h => by omega, (uh Hb).trans ((uh Hb1).mono (uh Hb).size)⟩
    ·go_wp2_with fail
     refine (szRoom_any _ _ _ _ _ (by omega) y0 y1 _).mono ?_
     rw [szV_t (by omega)]
     rintro e w1 ⟨rfl, hb1⟩
     have Hb1 := hide hb1
     clear hb1
     go_wp2_with fail
     go_roundw
     case rel => exact ⟨k + 1, y - n, by omega, by go_num, rfl, by omega, by omega, next_all (uh Hst) (by rw [uh Hp]; omega), (uh Hb).trans ((uh Hb1).mono (uh Hb).size)⟩
     case measure => exact ms
   ·obtain rfl : k = rs.length := by omega
    go_wp2_with fail
    go_ret
    exact ⟨y, rfl, by omega, fun h => ⟨by omega, uh Hst⟩, hb⟩
theorem eqPace_yes (f c : Int) (w : World) :
  cB 294 #[.agg #[.int .i64 f, .int .i64 c], .agg #[.int .i64 f, .int .i64 c]] w (.bool true) := by
 go_enter func294, ntmps294
 go_wp2_with fail
 go_ret
 exact ⟨rfl, ((ba _ _)).alloc (by simp) _⟩
theorem eqPaceS_yes {w : World} {v u : Value} {ps : List PaceV} (hv : IsPaces w v ps) (hu : IsPaces w u ps) :
  cB 245 #[v, u] w (.bool true) := by
 obtain ⟨a, cap, rfl, hc, hm, hr⟩ := hv
 obtain ⟨a', cap', rfl, hc', hm', hr'⟩ := hu
 have Hr := hide hr
 have Hr' := hide hr'
 clear hr hr'
 go_enter func245, ntmps245
 go_wp2_with fail
 go_loopw [5] (fun i wr => ∃ k : Nat, k ≤ ps.length ∧ i = .int .i64 k ∧ Below w.heap.size w wr) (fun i _ => ps.length - (intOf i).toNat)
 case atStart => exact ⟨0, alNzl _, rfl, alBrf _ _⟩
 case round =>
  obtain ⟨k, hk, rfl, hb⟩ := hrel
  have Hb := hide hb
  by_cases hlt : k < ps.length
  ·rcases uh Hr with h0 | ⟨b, off, rfl, hbw, hcl⟩
   ·rw [h0] at hlt; simp at hlt
   rcases uh Hr' with h0 | ⟨b', off', rfl, hbw', hcl'⟩
   ·rw [h0] at hlt; simp at hlt
   obtain ⟨c0, c1⟩ := hcl k hlt
   obtain ⟨d0, d1⟩ := hcl' k hlt
   rw [← hb.cell (p := ⟨b, off + k * 2, none⟩) hbw] at c0
   rw [← hb.cell (p := ⟨b, off + k * 2 + 1, none⟩) hbw] at c1
   rw [← hb.cell (p := ⟨b', off' + k * 2, none⟩) hbw'] at d0
   rw [← hb.cell (p := ⟨b', off' + k * 2 + 1, none⟩) hbw'] at d1
   generalize (paceAt ps k).1 = f at *
   generalize (paceAt ps k).2 = c at *
   have k0 := alCrg c0
   have k1 := alCrg c1
   have k2 := alCrg d0
   have k3 := alCrg d1
   clear hcl hcl' hb c0 c1 d0 d1
   go_wp2_with fail
   refine wq ?_
   repeat (go_big_quiet_step (exact alCro (eqPace_yes _ _ _)))
   refine wpQuiet_nil ?_
   intro _ hw'
   obtain ⟨⟨dq, osq⟩, hw''⟩ := hw'
   subst hw''
   go_wp2_with fail
   go_roundw
   case rel => exact ⟨k + 1, by omega, by go_num, (uh Hb).trans ((alBrg _ _ _).mono (uh Hb).size)⟩
   case measure => exact ms
  ·go_wp2_with fail
   go_ret
   exact ⟨rfl, hb⟩
theorem eqRoom_yes {w : World} {v u : Value} {ps : List PaceV} (rb : Int) (hv : IsPaces w v ps) (hu : IsPaces w u ps) :
  cB 206 #[.agg #[.int .i64 rb, v], .agg #[.int .i64 rb, u]] w (.bool true) := by
 have Hv := hide hv
 have Hu := hide hu
 obtain ⟨a, cap, rfl, hc, hm, hr⟩ := hv
 obtain ⟨a', cap', rfl, hc', hm', hr'⟩ := hu
 clear hr hr'
 go_enter func206, ntmps206
 go_wp2_with fail
 refine ck (eqPaceS_yes ((uh Hv).below (((ba _ _)).alloc (by simp) _)) ((uh Hu).below (((ba _ _)).alloc (by simp) _))) fun w1 hb => ?_
 have Hb := hide hb
 clear hb
 go_wp2_with fail
 go_ret
 exact ⟨rfl, (((ba _ _)).alloc (by simp) _).trans ((uh Hb).mono (by simp; omega))⟩
theorem eqRoomS_yes {w : World} {v u : Value} {rs : List RoomV} (hv : IsRooms w v rs) (hu : IsRooms w u rs) :
  cB 154 #[v, u] w (.bool true) := by
 obtain ⟨a, cap, rfl, hc, hm, hr⟩ := hv
 obtain ⟨a', cap', rfl, hc', hm', hr'⟩ := hu
 have Hr := hide hr
 have Hr' := hide hr'
 clear hr hr'
 go_enter func154, ntmps154
 go_wp2_with fail
 go_loopw [5] (fun i wr => ∃ k : Nat, k ≤ rs.length ∧ i = .int .i64 k ∧ Below w.heap.size w wr) (fun i _ => rs.length - (intOf i).toNat)
 case atStart => exact ⟨0, alNzl _, rfl, alBrf _ _⟩
 case round =>
  obtain ⟨k, hk, rfl, hb⟩ := hrel
  have Hb := hide hb
  by_cases hlt : k < rs.length
  ·rcases uh Hr with h0 | ⟨b, off, rfl, hbw, hcl⟩
   ·rw [h0] at hlt; simp at hlt
   rcases uh Hr' with h0 | ⟨b', off', rfl, hbw', hcl'⟩
   ·rw [h0] at hlt; simp at hlt
   obtain ⟨c0, pv, c1, hip⟩ := hcl k hlt
   obtain ⟨d0, pu, d1, hiu⟩ := hcl' k hlt
   rw [← hb.cell (p := ⟨b, off + k * 2, none⟩) hbw] at c0
   rw [← hb.cell (p := ⟨b, off + k * 2 + 1, none⟩) hbw] at c1
   rw [← hb.cell (p := ⟨b', off' + k * 2, none⟩) hbw'] at d0
   rw [← hb.cell (p := ⟨b', off' + k * 2 + 1, none⟩) hbw'] at d1
   have Hip := hide (hip.below hb)
   have Hiu := hide (hiu.below hb)
   obtain ⟨pa, pcap, rfl, _⟩ := hip
   obtain ⟨pa', pcap', rfl, _⟩ := hiu
   generalize (roomAt rs k).1 = f at *
   generalize (roomAt rs k).2 = ps at *
   have k0 := alCrg c0
   have k1 := alCrg c1
   have k2 := alCrg d0
   have k3 := alCrg d1
   clear hcl hcl' hb c0 c1 d0 d1
   go_wp2_with fail
   refine wq ?_
   repeat (go_big_quiet_step (exact alCro (eqRoom_yes _ ((uh Hip).below (alBrg _ _ _)) ((uh Hiu).below (alBrg _ _ _)))))
   refine wpQuiet_nil ?_
   intro _ hw'
   obtain ⟨⟨dq, osq⟩, hw''⟩ := hw'
   subst hw''
   go_wp2_with fail
   go_roundw
   case rel => exact ⟨k + 1, by omega, by go_num, (uh Hb).trans ((alBrg _ _ _).mono (uh Hb).size)⟩
   case measure => exact ms
  ·go_wp2_with fail
   go_ret
   exact ⟨rfl, hb⟩
theorem eqHall_yes {w : World} {v u : Value} {rs : List RoomV} (hv : IsRooms w v rs) (hu : IsRooms w u rs) :
  cB 99 #[.agg #[v], .agg #[u]] w (.bool true) := by
 have Hv := hide hv
 have Hu := hide hu
 obtain ⟨a, cap, rfl, hc, hm, hr⟩ := hv
 obtain ⟨a', cap', rfl, hc', hm', hr'⟩ := hu
 clear hr hr'
 go_enter func99, ntmps99
 go_wp2_with fail
 refine ck (eqRoomS_yes ((uh Hv).below (((ba _ _)).alloc (by simp) _)) ((uh Hu).below (((ba _ _)).alloc (by simp) _))) fun w1 hb => ?_
 have Hb := hide hb
 clear hb
 go_wp2_with fail
 go_ret
 exact ⟨rfl, (((ba _ _)).alloc (by simp) _).trans ((uh Hb).mono (by simp; omega))⟩
theorem infoPace : (prog.info? 139).map (fun i => (i.zero, i.size, i.bytes)) = some (some (.agg #[.int .i64 0, .int .i64 0]), 2, 16) := by kernel_rfl
theorem infoRoom : (prog.info? 130).map (fun i => (i.zero, i.size, i.bytes)) = some (some (.agg #[.int .i64 0, .slice none 0 0]), 2, 32) := by kernel_rfl
theorem toPace_any (f c : Int) (w : World) :
  cB 293 #[.agg #[.int .i64 f, .int .i64 c]] w (.agg #[.int .i64 f, .int .i64 c]) := by
 go_enter func293, ntmps293
 go_wp2_with fail
 exact alBpr (v := .agg #[.int .i64 f, .int .i64 c]) (by simp [results, results293, go_sem]) rfl ⟨rfl, (((ba _ _)).alloc (by simp) _).alloc (by simp; omega) _⟩
theorem toPaceS_any {w : World} {v : Value} {ps : List PaceV} (h : IsPaces w v ps) (hs : ps.length ≤ 1048576) :
  Calls prog 244 #[v] w fun e w' => ∃ v', e = .returned v' ∧ IsPaces w' v' ps ∧ (∀ k, v'.ownBlock = some k → w.heap.size ≤ k) ∧ Below w.heap.size w w' := by
 obtain ⟨a, cap, rfl, hc, hm, hr⟩ := h
 have Hr := hide hr
 clear hr
 obtain ⟨i0, hi, hz0, hz1, hz2⟩ := info_parts infoPace
 go_enter func244, ntmps244
 go_wp2_with (at_make; refine wpList_make_full _ rfl _ _ 128 rfl w.heap.size 139 i0 (.agg #[.int .i64 0, .int .i64 0]) 2 underlying128 hi hz0 hz1 _ _ _ _ ps.length rfl rfl rfl rfl (by rw [hz2]; omega) (by unfold maxLen; omega) (alNlr _) ?_; intro w0 hown hgrow)
 have Hown := hide hown
 have Hgr := hide hgrow
 clear hown hgrow
 go_loopw [4] (fun i wr => ∃ k : Nat, k ≤ ps.length ∧ i = .int .i64 k ∧ ∃ xs, wr.ownsRow w.heap.size 139 2 (.slice (some ⟨w.heap.size, 0, none⟩) ps.length ps.length) ps.length xs ∧ Pairs xs (isPaceOf ps) k ∧ Below w.heap.size w wr) (fun i _ => ps.length - (intOf i).toNat)
 case atStart => exact ⟨0, alNzl _, rfl, _, uh Hown, fun j hj => by omega, (alBrf _ _).grown (uh Hgr) (alNlr _) (fun k e => by cases e)⟩
 case round =>
  obtain ⟨k, hk, rfl, xs, hown, hpr, hb⟩ := hrel
  have Hb := hide hb
  by_cases hlt : k < ps.length
  ·rcases uh Hr with h0 | ⟨b, off, rfl, hbw, hcl⟩
   ·rw [h0] at hlt; simp at hlt
   obtain ⟨c0, c1⟩ := hcl k hlt
   rw [← hb.cell (p := ⟨b, off + k * 2, none⟩) hbw] at c0
   rw [← hb.cell (p := ⟨b, off + k * 2 + 1, none⟩) hbw] at c1
   have hxs : xs.length = ps.length * 2 := hown.1
   have Ho := hide hown
   have Hpr := hide hpr
   generalize hp : paceAt ps k = p at c0 c1
   obtain ⟨f, c⟩ := p
   simp only at c0 c1
   have Hp := hide hp
   clear hcl hb hown hpr hp
   go_wp2_with fail
   refine ck (toPace_any _ _ _) fun w1 hb1 => ?_
   have ho1 := own_later (uh Ho) hb1
   obtain ⟨⟨x0, y0⟩, z0⟩ := own_cell ho1 (j := k * 2) (by omega)
   obtain ⟨⟨x1, y1⟩, z1⟩ := own_cell ho1 (j := k * 2 + 1) (by omega)
   have Hp2 := hide (own_pair ho1 (k * 2) (.int .i64 f) (.int .i64 c))
   have Hb1 := hide hb1
   have hsz := hb1.size
   have hsz0 := (uh Hb).size
   clear ho1 hb1
   go_wp2_with fail
   go_roundw
   case rel => exact ⟨k + 1, by omega, by go_num, _, (uh Hp2).1, (uh Hpr).next (by omega) ⟨by rw [uh Hp], by rw [uh Hp]⟩, ((uh Hb).trans ((uh Hb1).mono hsz0)).trans (below_grown (uh Hp2).2 (alNlr _) (by omega))⟩
   case measure => exact ms
  ·obtain rfl : k = ps.length := by omega
   go_wp2_with fail
   go_ret
   exact ⟨_, rfl, IsPaces.of_row hown hpr rfl, fun k e => by cases e; exact alNlr _, hb⟩
theorem IsPaces.set {w : World} {v : Value} {ps : List PaceV} (h : IsPaces w v ps) (b o : Nat) (u : Value) (hn : ∀ k, v.ownBlock = some k → k ≠ b) : IsPaces (w.setCell ⟨b, o, none⟩ u) v ps := by
 obtain ⟨a, cap, rfl, hc, hm, hr⟩ := h
 refine ⟨a, cap, rfl, hc, hm, ?_⟩
 rcases hr with hr | ⟨b', off, rfl, hlt, hcl⟩
 ·exact .inl hr
 ·have hne : b' ≠ b := hn b' rfl
  refine .inr ⟨b', off, rfl, by simpa using hlt, fun k hk => ?_⟩
  obtain ⟨h1, h2⟩ := hcl k hk
  exact ⟨by rw [World.cell?_setCell_other _ _ _ _ (by simp)]; exact h1, by rw [World.cell?_setCell_other _ _ _ _ (by simp)]; exact h2⟩
theorem toRoom_any {w : World} {v : Value} {ps : List PaceV} (rb : Int) (h : IsPaces w v ps) (hs : ps.length ≤ 1048576) :
  Calls prog 205 #[.agg #[.int .i64 rb, v]] w fun e w' => ∃ v', e = .returned (.agg #[.int .i64 rb, v']) ∧ IsPaces w' v' ps ∧ (∀ k, v'.ownBlock = some k → w.heap.size ≤ k) ∧ Below w.heap.size w w' := by
 have Hv := hide h
 obtain ⟨a, cap, rfl, hc, hm, hr⟩ := h
 clear hr
 have Hb0 : Hid (∀ o1 o2 o3 : Obj, Below w.heap.size w (((w.alloc o1).alloc o2).alloc o3)) := hide (fun o1 o2 o3 => (((ba _ _)).alloc (by simp) _).alloc (by simp; omega) _)
 go_enter func205, ntmps205
 go_wp2_with fail
 refine (toPaceS_any ((uh Hv).below (uh Hb0 _ _ _)) hs).mono ?_
 rintro e w1 ⟨v', rfl, hp, hk, hb1⟩
 have hsz : w.heap.size + 3 ≤ w1.heap.size := by have := hb1.size; simp at this; omega
 have hk' : ∀ k, v'.ownBlock = some k → w.heap.size + 3 ≤ k := fun k e => by have := hk k e; simp at this; omega
 obtain ⟨cc, ff⟩ := bcell hb1
 have x0 := cc (w.heap.size + 2) 0 (by simp)
 have x1 := cc (w.heap.size + 2) 1 (by simp)
 have y0 := cc (w.heap.size + 1) 0 (by simp)
 have y1 := cc (w.heap.size + 1) 1 (by simp)
 have fx0 := ff (w.heap.size + 2) 0 (by simp)
 have fx1 := ff (w.heap.size + 2) 1 (by simp)
 have fy0 := ff (w.heap.size + 1) 0 (by simp)
 have fy1 := ff (w.heap.size + 1) 1 (by simp)
 have Hp := hide hp
 have Hk := hide hk'
 have Hb1 := hide hb1
 obtain ⟨a', cap', rfl, _⟩ := hp
 clear cc ff hk hk' hb1
 go_wp2_with fail
 have Q : ∀ b o u, b ≤ w.heap.size + 2 → ∀ w' v', IsPaces w' v' ps → (∀ k, v'.ownBlock = some k → w.heap.size + 3 ≤ k) → IsPaces (w'.setCell ⟨b, o, none⟩ u) v' ps := fun b o u hb w' v' h hk => h.set b o u (fun k e => by have := hk k e; omega)
 have B1 : Below w.heap.size w w1 := (uh Hb0 _ _ _).trans ((uh Hb1).mono (by simp; omega))
 refine alBpr (v := .agg #[.int .i64 rb, .slice a' ps.length cap']) (by simp [results, results205, go_sem, *]) rfl ⟨_, rfl, ?_, fun k e => by have := uh Hk k e; omega, ?_⟩
 ·exact Q _ _ _ (by omega) _ _ (Q _ _ _ (by omega) _ _ (Q _ _ _ (by omega) _ _ (uh Hp) (uh Hk)) (uh Hk)) (uh Hk)
 ·exact ((B1.setCell (by show _ ≤ w.heap.size + 1 + 1; omega) _).setCell (by show _ ≤ w.heap.size + 1; omega) _).setCell (by show _ ≤ w.heap.size + 1; omega) _
def isRoomOf (w : World) (g : Nat) (rs : List RoomV) (j : Nat) (u u' : Value) : Prop := u = .int .i64 (roomAt rs j).1 ∧ IsPaces w u' (roomAt rs j).2 ∧ ∀ k, u'.ownBlock = some k → g < k
def RoomsFrom (n₀ : Nat) (w : World) (v : Value) (rs : List RoomV) : Prop :=
 ∃ (a : Option Addr) (cap : Nat), v = .slice a rs.length cap ∧ rs.length ≤ cap ∧ cap ≤ 9223372036854775807 ∧ (rs = [] ∨ ∃ b off, a = some ⟨b, off, none⟩ ∧ n₀ ≤ b ∧ b < w.heap.size ∧
  ∀ k, k < rs.length → w.cell? ⟨b, off + k * 2, none⟩ = some (.int .i64 (roomAt rs k).1) ∧ ∃ pv, w.cell? ⟨b, off + k * 2 + 1, none⟩ = some pv ∧ IsPaces w pv (roomAt rs k).2 ∧ ∀ j, pv.ownBlock = some j → n₀ ≤ j)
theorem RoomsFrom.rooms {n₀ : Nat} {w : World} {v : Value} {rs : List RoomV} (h : RoomsFrom n₀ w v rs) : IsRooms w v rs := by
 obtain ⟨a, cap, rfl, hc, hm, hr⟩ := h
 refine ⟨a, cap, rfl, hc, hm, ?_⟩
 rcases hr with hr | ⟨b, off, rfl, _, hlt, hcl⟩
 ·exact .inl hr
 ·exact .inr ⟨b, off, rfl, hlt, fun k hk => by obtain ⟨h1, pv, h2, h3, _⟩ := hcl k hk; exact ⟨h1, pv, h2, h3⟩⟩
theorem RoomsFrom.set {n₀ : Nat} {w : World} {v : Value} {rs : List RoomV} (h : RoomsFrom n₀ w v rs) (g o : Nat) (u : Value) (hg : g < n₀) : RoomsFrom n₀ (w.setCell ⟨g, o, none⟩ u) v rs := by
 obtain ⟨a, cap, rfl, hc, hm, hr⟩ := h
 refine ⟨a, cap, rfl, hc, hm, ?_⟩
 rcases hr with hr | ⟨b, off, rfl, hn, hlt, hcl⟩
 ·exact .inl hr
 ·have hne : b ≠ g := by omega
  refine .inr ⟨b, off, rfl, hn, by simpa using hlt, fun k hk => ?_⟩
  obtain ⟨h1, pv, h2, h3, h4⟩ := hcl k hk
  exact ⟨by rw [World.cell?_setCell_other _ _ _ _ (by simp)]; exact h1, pv, by rw [World.cell?_setCell_other _ _ _ _ (by simp)]; exact h2, h3.set _ _ _ (fun j e => by have := h4 j e; omega), h4⟩
theorem RoomsFrom.of_row {w : World} {B g n cap t : Nat} {rs : List RoomV} {xs : List Value} (h : w.ownsRow B t 2 (.slice (some ⟨g, 0, none⟩) n cap) n xs) (hp : Pairs xs (isRoomOf w g rs) rs.length) (hn : n = rs.length) : RoomsFrom g w (.slice (some ⟨g, 0, none⟩) n cap) rs := by
 subst hn
 have h' := h
 rcases h.2 with ⟨hh, _⟩ | ⟨g', cap', cur, hh, hb, hg, hnc, hcm, r⟩
 ·simp at hh
 ·simp only [Value.slice.injEq, Option.some.injEq, Addr.mk.injEq, and_true, true_and] at hh
  obtain ⟨rfl, rfl⟩ := hh
  refine ⟨_, cap, rfl, hnc, by unfold maxLen at hcm; omega, .inr ⟨g, 0, rfl, alNlr _, (Array.getElem?_eq_some_iff.1 hg).1, fun k hk => ?_⟩⟩
  obtain ⟨u, u', h1, h2, rfl, h3, h4⟩ := hp k hk
  refine ⟨?_, u', ?_, h3, fun j e => Nat.le_of_lt (h4 j e)⟩
  ·rw [Nat.zero_add, World.ownsRow.cellAt h' _ (by omega)]; exact h1
  ·rw [Nat.zero_add, World.ownsRow.cellAt h' _ (by omega)]; exact h2
theorem toRoomS_any {w : World} {v : Value} {rs : List RoomV} (h : IsRooms w v rs) (hs : Small rs) :
  Calls prog 150 #[v] w fun e w' => ∃ v', e = .returned v' ∧ RoomsFrom w.heap.size w' v' rs ∧ Below w.heap.size w w' := by
 obtain ⟨a, cap, rfl, hc, hm, hr⟩ := h
 have Hr := hide hr
 clear hr
 obtain ⟨hs1, hs2⟩ := hs
 have Hs2 := hide hs2
 clear hs2
 obtain ⟨i0, hi, hz0, hz1, hz2⟩ := info_parts infoRoom
 go_enter func150, ntmps150
 go_wp2_with (at_make; refine wpList_make_full _ rfl _ _ 24 rfl w.heap.size 130 i0 (.agg #[.int .i64 0, .slice none 0 0]) 2 underlying24 hi hz0 hz1 _ _ _ _ rs.length rfl rfl rfl rfl (by rw [hz2]; omega) (by unfold maxLen; omega) (alNlr _) ?_; intro w0 hown hgrow)
 have Hown := hide hown
 have Hgr := hide hgrow
 clear hown hgrow
 go_loopw [4] (fun i wr => ∃ k : Nat, k ≤ rs.length ∧ i = .int .i64 k ∧ ∃ xs, wr.ownsRow w.heap.size 130 2 (.slice (some ⟨w.heap.size, 0, none⟩) rs.length rs.length) rs.length xs ∧ Pairs xs (isRoomOf wr w.heap.size rs) k ∧ Below w.heap.size w wr) (fun i _ => rs.length - (intOf i).toNat)
 case atStart => exact ⟨0, alNzl _, rfl, _, uh Hown, fun j hj => by omega, (alBrf _ _).grown (uh Hgr) (alNlr _) (fun k e => by cases e)⟩
 case round =>
  obtain ⟨k, hk, rfl, xs, hown, hpr, hb⟩ := hrel
  have Hb := hide hb
  by_cases hlt : k < rs.length
  ·rcases uh Hr with h0 | ⟨b, off, rfl, hbw, hcl⟩
   ·rw [h0] at hlt; simp at hlt
   obtain ⟨c0, pv, c1, hip⟩ := hcl k hlt
   rw [← hb.cell (p := ⟨b, off + k * 2, none⟩) hbw] at c0
   rw [← hb.cell (p := ⟨b, off + k * 2 + 1, none⟩) hbw] at c1
   have hxs : xs.length = rs.length * 2 := hown.1
   have hg1 : w.heap.size < wr.heap.size := (World.ownsRow.lt hown w.heap.size rfl).2
   have Ho := hide hown
   have Hpr := hide hpr
   have Hip := hide (hip.below hb)
   obtain ⟨pa, pcap, rfl, _⟩ := hip
   have hsk := uh Hs2 k hlt
   generalize hp : roomAt rs k = p at *
   obtain ⟨rb, ps⟩ := p
   simp only at c0 c1 hsk
   have Hp := hide hp
   clear hcl hb hown hpr hp
   go_wp2_with fail
   refine (toRoom_any rb (uh Hip) hsk).mono ?_
   rintro e w1 ⟨v', rfl, hip', hk', hb1⟩
   have ho1 := own_later (uh Ho) hb1
   obtain ⟨⟨x0, y0⟩, z0⟩ := own_cell ho1 (j := k * 2) (by omega)
   obtain ⟨⟨x1, y1⟩, z1⟩ := own_cell ho1 (j := k * 2 + 1) (by omega)
   have Hp2 := hide (own_pair ho1 (k * 2) (.int .i64 rb) v')
   have Hip' := hide hip'
   have Hk' := hide hk'
   have Hb1 := hide hb1
   have hsz := hb1.size
   have hsz0 := (uh Hb).size
   obtain ⟨a', cap', rfl, _⟩ := hip'
   clear ho1 hb1 hk'
   go_wp2_with fail
   have hne : ∀ {u : Value}, (∀ m, u.ownBlock = some m → w.heap.size < m) → ∀ {qs}, IsPaces wr u qs → IsPaces ((w1.setCell ⟨w.heap.size, k * 2, none⟩ (.int .i64 rb)).setCell ⟨w.heap.size, k * 2 + 1, none⟩ (.slice a' ps.length cap')) u qs := fun hn qs hq => ((hq.below (uh Hb1)).set _ _ _ (fun m e => by have := hn m e; omega)).set _ _ _ (fun m e => by have := hn m e; omega)
   have hn' : ∀ m, (Value.slice a' ps.length cap').ownBlock = some m → w.heap.size < m := fun m e => by have := uh Hk' _ e; omega
   have hlast : isRoomOf ((w1.setCell ⟨w.heap.size, k * 2, none⟩ (.int .i64 rb)).setCell ⟨w.heap.size, k * 2 + 1, none⟩ (.slice a' ps.length cap')) w.heap.size rs k (.int .i64 rb) (.slice a' ps.length cap') := by
    unfold isRoomOf
    rw [uh Hp]
    exact ⟨rfl, ((uh Hip').set _ _ _ (fun m e => by have := hn' m e; omega)).set _ _ _ (fun m e => by have := hn' m e; omega), hn'⟩
   have hprev := (uh Hpr).mono (Q := isRoomOf ((w1.setCell ⟨w.heap.size, k * 2, none⟩ (.int .i64 rb)).setCell ⟨w.heap.size, k * 2 + 1, none⟩ (.slice a' ps.length cap')) w.heap.size rs) (fun j u u' h => ⟨h.1, hne h.2.2 h.2.1, h.2.2⟩)
   go_roundw
   case rel => exact ⟨k + 1, by omega, by go_num, _, (uh Hp2).1, hprev.next (by omega) hlast, ((uh Hb).trans ((uh Hb1).mono hsz0)).trans (below_grown (uh Hp2).2 (alNlr _) (by omega))⟩
   case measure => exact ms
  ·obtain rfl : k = rs.length := by omega
   go_wp2_with fail
   go_ret
   exact ⟨_, rfl, RoomsFrom.of_row hown hpr rfl, hb⟩
theorem IsRooms.shape {w : World} {v : Value} {rs : List RoomV} (h : IsRooms w v rs) : ∃ a cap, v = .slice a rs.length cap ∧ rs.length ≤ cap ∧ cap ≤ 9223372036854775807 := by
 obtain ⟨a, cap, rfl, hc, hm, _⟩ := h; exact ⟨a, cap, rfl, hc, hm⟩
def roomN (rs : List RoomV) (n : Int) : Nat := ((List.range rs.length).find? fun r => decide (n < benchSum (rs.take (r + 1)))).getD 0
def isBench (rs : List RoomV) (n : Int) : Bool := hallB rs && inB n 0 (benchSum rs - 1)
def roomV (rs : List RoomV) (n : Int) : Int := if isBench rs n = true then (roomN rs n : Int) else -1
def lastForce (ps : List PaceV) : Int := (paceAt ps (ps.length - 1)).1
def forceV (rs : List RoomV) (n : Int) : Int := if isBench rs n = true then lastForce (roomAt rs (roomN rs n)).2 else -1
theorem roomN_eq {rs : List RoomV} {n : Int} {r : Nat} (hr : r < rs.length) (h : n < benchSum (rs.take (r + 1))) (hl : ∀ j, j < r → benchSum (rs.take (j + 1)) ≤ n) : roomN rs n = r := by
 unfold roomN
 have : (List.range rs.length).find? (fun r => decide (n < benchSum (rs.take (r + 1)))) = some r := by
  rw [List.find?_range_eq_some]
  refine ⟨by simpa using h, by simpa using hr, fun j hj => ?_⟩
  have := hl j hj
  simp; omega
 rw [this]; rfl
theorem isBench_of {rs : List RoomV} {n : Int} (h : isBench rs n = true) : hallB rs = true ∧ 0 ≤ n ∧ n < benchSum rs := by
 unfold isBench at h; simp only [alBae] at h
 have := inB_of h.2
 exact ⟨h.1, by omega, by omega⟩
theorem isBench_t {rs : List RoomV} {n : Int} (h : hallB rs = true) (h0 : 0 ≤ n) (h1 : n < benchSum rs) : isBench rs n = true := by
 unfold isBench; rw [h, inB_t (by omega) (by omega)]; rfl
theorem isBench_f1 {rs : List RoomV} {n : Int} (h : hallB rs = false) : isBench rs n = false := by unfold isBench; rw [h]; rfl
theorem isBench_f2 {rs : List RoomV} {n : Int} (h : n < 0 ∨ benchSum rs ≤ n) : isBench rs n = false := by unfold isBench; rw [inB_f (by omega)]; simp
theorem roomV_t {rs : List RoomV} {n : Int} (h : isBench rs n = true) : roomV rs n = roomN rs n := by unfold roomV; rw [if_pos h]
theorem roomV_f {rs : List RoomV} {n : Int} (h : isBench rs n = false) : roomV rs n = -1 := by unfold roomV; rw [h]; rfl
theorem forceV_t {rs : List RoomV} {n : Int} (h : isBench rs n = true) : forceV rs n = lastForce (roomAt rs (roomN rs n)).2 := by unfold forceV; rw [if_pos h]
theorem forceV_f {rs : List RoomV} {n : Int} (h : isBench rs n = false) : forceV rs n = -1 := by unfold forceV; rw [h]; rfl
theorem room_more {rs : List RoomV} {n : Int} (h : isBench rs n = true) {r : Nat} (hr : r ≤ rs.length) (hl : ∀ j, j < r → benchSum (rs.take (j + 1)) ≤ n) : r < rs.length := by
 rcases Nat.lt_or_ge r rs.length with h1 | h1
 ·exact h1
 ·obtain rfl : r = rs.length := by omega
  have hb := isBench_of h
  have h3 := hallB_of hb.1
  have := hl (rs.length - 1) (by omega)
  rw [show rs.length - 1 + 1 = rs.length by omega, benchSum_all] at this
  omega
theorem benches_hall {rs : List RoomV} (h : hallB rs = true) (k : Nat) (hk : k ≤ rs.length) : 0 ≤ benchSum (rs.take k) ∧ benchSum (rs.take k) ≤ 12 := by
 have h3 := hallB_of h
 have := benchSum_bd h3.2.2.1 k hk
 omega
theorem room_found {rs : List RoomV} {n : Int} (h : isBench rs n = true) : roomN rs n < rs.length := by
 have key : ∀ d r : Nat, r + d = rs.length → (∀ j, j < r → benchSum (rs.take (j + 1)) ≤ n) → roomN rs n < rs.length := by
  intro d
  induction d with
  | zero => intro r hr hl; have := room_more h (by omega) hl; omega
  | succ d ih =>
   intro r hr hl
   have hlt := room_more h (r := r) (by omega) hl
   by_cases hc : n < benchSum (rs.take (r + 1))
   ·rw [roomN_eq hlt hc hl]; exact hlt
   ·exact ih (r + 1) (by omega) (next_all hl (by omega))
 exact key rs.length 0 (by omega) (fun j hj => by omega)
theorem implRoomOf_any {w : World} {v : Value} {rs : List RoomV} (n : Int) (h : IsRooms w v rs) :
  cB 290 #[.agg #[v], .int .i64 n] w (.int .i64 (roomV rs n)) := by
 have Hv := hide h
 obtain ⟨a, cap, rfl, hc, hm, hr⟩ := h
 clear hr
 by_cases h0 : n < 0
 ·have H1 := hide (roomV_f (isBench_f2 (rs := rs) (.inl h0)))
  go_enter func290, ntmps290
  go_wp2_with fail
  go_ret
  exact ⟨ret_int (uh H1).symm, (ba _ _)⟩
 by_cases h1 : benchesV rs ≤ n
 ·have H1 : Hid (roomV rs n = -1) := hide (roomV_f (by
   cases hh : hallB rs
   ·exact isBench_f1 hh
   ·rw [benchesV_t hh] at h1; exact isBench_f2 (.inr h1)))
  go_enter func290, ntmps290
  go_wp2_with fail
  refine ck (implBenchesIn_any ((uh Hv).alloc _)) fun w1 hb => ?_
  have Hb := hide hb
  clear hb
  generalize benchesV rs = m at *
  go_wp2_with fail
  go_ret
  exact ⟨ret_int (uh H1).symm, ((ba _ _)).trans ((uh Hb).mono (by simp))⟩
 have hh : hallB rs = true := by
  cases hh : hallB rs
  ·rw [benchesV_f hh] at h1; omega
  ·rfl
 have H : Hid (isBench rs n = true) := hide (isBench_t hh (by omega) (by rw [benchesV_t hh] at h1; omega))
 have Hh := hide hh
 clear hh
 go_enter func290, ntmps290
 go_wp2_with fail
 refine ck (implBenchesIn_any ((uh Hv).alloc _)) fun w1 hb => ?_
 have hsz : w.heap.size + 1 ≤ w1.heap.size := by have := hb.size; simpa using this
 have hbox : w1.cell? ⟨w.heap.size, 0, none⟩ = some (.slice a rs.length cap) := by rw [hb.cell (p := ⟨w.heap.size, 0, none⟩) (by simp)]; simp
 have B1 : Hid (Below w.heap.size w w1) := hide (((ba _ _)).trans (hb.mono (by simp)))
 clear hb
 generalize benchesV rs = m at *
 go_wp2_with fail
 go_loopw [5] (fun i wr => ∃ r : Nat, r ≤ rs.length ∧ i = .int .i64 r ∧ (∀ j, j < r → benchSum (rs.take (j + 1)) ≤ n) ∧ Below w1.heap.size w1 wr) (fun i _ => rs.length - (intOf i).toNat)
 case atStart => exact ⟨0, alNzl _, rfl, fun j hj => by omega, alBrf _ _⟩
 case round =>
  obtain ⟨r, hr, rfl, hl, hb⟩ := hrel
  have hlt := room_more (uh H) hr hl
  have hbox2 : wr.cell? ⟨w.heap.size, 0, none⟩ = some (.slice a rs.length cap) := by rw [hb.cell (p := ⟨w.heap.size, 0, none⟩) (by show w.heap.size < w1.heap.size; omega)]; exact hbox
  have hz := hb.size
  have hl3 : rs.length ≤ 3 := (hallB_of (uh Hh)).2.1
  have Hl := hide hl
  have Hb := hide hb
  have Hw : Hid (IsRooms wr (.slice a (r + 1) cap) (rs.take (r + 1))) := hide ((((uh Hv).below (uh B1)).below hb).taken (by omega))
  clear hl hb hbox
  go_wp2_with fail
  refine ck (benchesOf_any (uh Hw) ((adds_hall (uh Hh)).taken _)) fun w2 hb2 => ?_
  have hbd := benches_hall (uh Hh) (r + 1) (by omega)
  have Hb2 := hide hb2
  clear hb2
  by_cases hc2 : n < benchSum (rs.take (r + 1))
  ·have HN := hide (roomN_eq hlt hc2 (uh Hl))
   generalize benchSum (rs.take (r + 1)) = s at *
   go_wp2_with fail
   go_ret
   exact ⟨ret_int (by rw [roomV_t (uh H), uh HN]), (uh B1).trans (((uh Hb).trans ((uh Hb2).mono hz)).mono (by omega))⟩
  ·have hle : benchSum (rs.take (r + 1)) ≤ n := by omega
   have Hle := hide (next_all (uh Hl) hle)
   generalize benchSum (rs.take (r + 1)) = s at *
   go_wp2_with fail
   go_roundw
   case rel => exact ⟨r + 1, by omega, by go_num, uh Hle, (uh Hb).trans ((uh Hb2).mono hz)⟩
   case measure => exact ms
theorem l4Room_any {w : World} {v : Value} {rs : List RoomV} (n : Int) (h : IsRooms w v rs) (hbn : isBench rs n = true) :
  cB 145 #[.agg #[v], .int .i64 n] w (.int .i64 (roomN rs n)) := by
 obtain ⟨a, cap, rfl, hc, hm, hr⟩ := h
 have Hr := hide hr
 have H := hide hbn
 have hh := (isBench_of hbn).1
 have hn0 := (isBench_of hbn).2.1
 have hn1 : n < 12 := by have h1 := (isBench_of hbn).2.2; have := (hallB_of hh).2.2.2; omega
 have Hh := hide hh
 have hl3 : rs.length ≤ 3 := (hallB_of hh).2.1
 clear hr hbn hh
 go_enter func145, ntmps145
 go_wp2_with fail
 go_loop [1, 5] (fun q i => ∃ r : Nat, r ≤ rs.length ∧ i = .int .i64 r ∧ q = .int .i64 (n - benchSum (rs.take r)) ∧ (∀ j, j < r → benchSum (rs.take (j + 1)) ≤ n)) (fun _ i => rs.length - (intOf i).toNat)
 case atStart => exact ⟨0, alNzl _, rfl, by simp [benchSum], fun j hj => by omega⟩
 case round =>
  obtain ⟨r, hr, rfl, rfl, hl⟩ := hrel
  have hlt := room_more (uh H) hr hl
  rcases uh Hr with e0 | ⟨b, off, rfl, hbw, hcl⟩
  ·rw [e0] at hlt; simp at hlt
  obtain ⟨c0, pv, c1, hip⟩ := hcl r hlt
  have hne : b ≠ w.heap.size := alNol hbw
  have Hl := hide hl
  have hb0 := benches_hall (uh Hh) r hr
  have hb1 := benches_hall (uh Hh) (r + 1) hlt
  have Hs := hide (benchSum_take rs hlt)
  have HN : Hid (n < benchSum (rs.take (r + 1)) → roomN rs n = r) := hide (fun hx => roomN_eq hlt hx (uh Hl))
  have HM : Hid (benchSum (rs.take (r + 1)) ≤ n → ∀ j, j < r + 1 → benchSum (rs.take (j + 1)) ≤ n) := hide (fun hx => next_all (uh Hl) hx)
  rw [benchSum_take rs hlt] at hb1 HN HM
  generalize benchSum (rs.take r) = s at *
  generalize (roomAt rs r).1 = rb at *
  clear hcl hip hl
  by_cases hq : rb ≤ n - s
  ·go_wp2_with fail
   go_round
   case rel => exact ⟨r + 1, by omega, by go_num, by rw [uh Hs]; congr 1; omega, uh HM (by omega)⟩
   case measure => exact ms
  ·go_wp2_with fail
   go_ret
   exact ⟨ret_int (by rw [uh HN (by omega)]), (ba _ _)⟩
theorem room_at {w : World} {a : Option Addr} {cap : Nat} {rs : List RoomV} {r : Nat} (h : IsRooms w (.slice a rs.length cap) rs) (hr : r < rs.length) (hh : hallB rs = true) :
  ∃ b off a' cap', a = some ⟨b, off, none⟩ ∧ b < w.heap.size ∧ w.cell? ⟨b, off + r * 2 + 1, none⟩ = some (.slice (some a') (roomAt rs r).2.length cap') ∧ 1 ≤ (roomAt rs r).2.length ∧ (roomAt rs r).2.length ≤ 4 ∧ a'.spot = none ∧ a'.block < w.heap.size ∧ w.cell? ⟨a'.block, a'.off + ((roomAt rs r).2.length - 1) * 2, none⟩ = some (.int .i64 (lastForce (roomAt rs r).2)) := by
 obtain ⟨a0, cap0, he, hc, hm, hr'⟩ := h
 cases he
 rcases hr' with e0 | ⟨b, off, rfl, hbw, hcl⟩
 ·rw [e0] at hr; simp at hr
 obtain ⟨_, pv, c1, hip⟩ := hcl r hr
 have hb := room_bd (allRooms_of (hallB_of hh).2.2.1 hr)
 obtain ⟨pa, pcap, rfl, _, _, hp⟩ := hip
 rcases hp with e1 | ⟨b', off', rfl, hbw', hcl'⟩
 ·rw [e1] at hb; simp at hb
 ·exact ⟨b, off, ⟨b', off', none⟩, pcap, rfl, hbw, c1, hb.2.2.1, hb.2.2.2, rfl, hbw', (hcl' _ (by omega)).1⟩
theorem implForceOf_any {w : World} {v : Value} {rs : List RoomV} (n : Int) (h : IsRooms w v rs) :
  cB 241 #[.agg #[v], .int .i64 n] w (.int .i64 (forceV rs n)) := by
 have Hv := hide h
 obtain ⟨a, cap, rfl, hc, hm⟩ : ∃ a cap, v = .slice a rs.length cap ∧ rs.length ≤ cap ∧ cap ≤ 9223372036854775807 := by obtain ⟨a, cap, rfl, hc, hm, _⟩ := h; exact ⟨a, cap, rfl, hc, hm⟩
 clear h
 cases h1 : isBench rs n
 ·have H2 := hide (forceV_f h1)
  have H3 := roomV_f h1
  have H3' := hide H3
  clear H3 h1
  go_enter func241, ntmps241
  go_wp2_with fail
  refine (implRoomOf_any n ((uh Hv).alloc _)).mono ?_
  rw [uh H3']
  rintro e w1 ⟨rfl, hb⟩
  have Hb := hide hb
  clear hb
  go_wp2_with fail
  go_ret
  exact ⟨ret_int (uh H2).symm, ((ba _ _)).trans ((uh Hb).mono (by simp))⟩
 ·have H2 := hide (forceV_t h1)
  have H3 := hide (roomV_t h1)
  have hlt := room_found h1
  have Hh := hide (isBench_of h1).1
  have hl3 : rs.length ≤ 3 := (hallB_of (isBench_of h1).1).2.1
  clear h1
  go_enter func241, ntmps241
  go_wp2_with fail
  refine (implRoomOf_any n ((uh Hv).alloc _)).mono ?_
  rw [uh H3]
  rintro e w1 ⟨rfl, hb⟩
  have hz : w.heap.size + 1 ≤ w1.heap.size := by have := hb.size; simpa using this
  have hbox : w1.cell? ⟨w.heap.size, 0, none⟩ = some (.slice a rs.length cap) := by rw [hb.cell (p := ⟨w.heap.size, 0, none⟩) (by simp)]; simp
  have hw1 := ((uh Hv).alloc _).below hb
  have Hb := hide hb
  obtain ⟨b, off, a', cap', rfl, hbw, d1, p1, p4, sp, hbw', d2⟩ := room_at hw1 hlt (uh Hh)
  obtain ⟨b', off', sp'⟩ := a'
  simp only at sp hbw' d2
  subst sp
  clear hb hw1 H3
  generalize roomN rs n = r at *
  generalize lastForce (roomAt rs r).2 = fo at *
  generalize (roomAt rs r).2.length = m at *
  have hr0 : ((r : Int) == -1) = false := beq_eq_false_iff_ne.2 (by omega)
  go_wp2_with fail
  go_ret
  exact ⟨ret_int (uh H2).symm, ((ba _ _)).trans ((uh Hb).mono (by simp))⟩
def isRoom (rs : List RoomV) (n : Int) : Bool := hallB rs && inB n 0 ((rs.length : Int) - 1)
def bitsV (lo hi : Int) : Int := (2 : Int) ^ hi.toNat - 2 ^ lo.toNat
def setV (rs : List RoomV) (n : Int) : Int := if isRoom rs n = true then bitsV (benchSum (rs.take n.toNat)) (benchSum (rs.take (n.toNat + 1))) else -1
theorem setV_t {rs : List RoomV} {n : Int} (h : isRoom rs n = true) : setV rs n = bitsV (benchSum (rs.take n.toNat)) (benchSum (rs.take (n.toNat + 1))) := by unfold setV; rw [if_pos h]
theorem setV_f {rs : List RoomV} {n : Int} (h : isRoom rs n = false) : setV rs n = -1 := by unfold setV; rw [h]; rfl
theorem isRoom_f1 {rs : List RoomV} {n : Int} (h : hallB rs = false) : isRoom rs n = false := by unfold isRoom; rw [h]; rfl
theorem isRoom_f2 {rs : List RoomV} {n : Int} (h : n < 0 ∨ rs.length ≤ n) : isRoom rs n = false := by unfold isRoom; rw [inB_f (by omega)]; simp
theorem pow_small {s : Int} (h0 : 0 ≤ s) (h1 : s ≤ 12) : 1 ≤ (2 : Int) ^ s.toNat ∧ (2 : Int) ^ s.toNat ≤ 4096 := by
 have key : ∀ k : Fin 13, 1 ≤ (2 : Int) ^ k.val ∧ (2 : Int) ^ k.val ≤ 4096 := by decide
 exact key ⟨s.toNat, by omega⟩
theorem wrap_small {x : Int} (h0 : -100000 ≤ x) (h1 : x ≤ 100000) : wrap64 x = x := by unfold wrap64; omega
theorem implBenchSet_any {w : World} {v : Value} {rs : List RoomV} (n : Int) (h : IsRooms w v rs) :
  cB 237 #[.agg #[v], .int .i64 n] w (.int .i64 (setV rs n)) := by
 have Hv := hide h
 obtain ⟨a, cap, rfl, hc, hm⟩ : ∃ a cap, v = .slice a rs.length cap ∧ rs.length ≤ cap ∧ cap ≤ 9223372036854775807 := by obtain ⟨a, cap, rfl, hc, hm, _⟩ := h; exact ⟨a, cap, rfl, hc, hm⟩
 clear h
 have Hb0 : Hid (Below w.heap.size w (w.alloc (.cells #[.slice a rs.length cap] 26))) := hide ((ba _ _))
 cases h1 : hallB rs
 ·have H2 := hide (setV_f (isRoom_f1 (n := n) h1))
  go_enter func237, ntmps237
  go_wp2_with fail
  refine ck (implHallOk_any ((uh Hv).alloc _)) fun w1 hb => ?_
  have Hb := hide hb
  clear hb
  go_wp2_with fail
  go_ret
  exact ⟨ret_int (uh H2).symm, (uh Hb0).trans ((uh Hb).mono (by simp))⟩
 by_cases h2 : n < 0
 ·have H2 := hide (setV_f (isRoom_f2 (rs := rs) (.inl h2)))
  go_enter func237, ntmps237
  go_wp2_with fail
  refine ck (implHallOk_any ((uh Hv).alloc _)) fun w1 hb => ?_
  have Hb := hide hb
  clear hb
  go_wp2_with fail
  go_ret
  exact ⟨ret_int (uh H2).symm, (uh Hb0).trans ((uh Hb).mono (by simp))⟩
 by_cases h3 : (rs.length : Int) ≤ n
 ·have H2 := hide (setV_f (isRoom_f2 (rs := rs) (.inr h3)))
  go_enter func237, ntmps237
  go_wp2_with fail
  refine ck (implHallOk_any ((uh Hv).alloc _)) fun w1 hb => ?_
  have hbox : w1.cell? ⟨w.heap.size, 0, none⟩ = some (.slice a rs.length cap) := by rw [hb.cell (p := ⟨w.heap.size, 0, none⟩) (by simp)]; simp
  have Hb := hide hb
  clear hb
  go_wp2_with fail
  go_ret
  exact ⟨ret_int (uh H2).symm, (uh Hb0).trans ((uh Hb).mono (by simp))⟩
 have h4 : isRoom rs n = true := by unfold isRoom; rw [h1, inB_t (by omega) (by omega)]; rfl
 have H2 := hide (setV_t h4)
 obtain ⟨r, rfl⟩ := Int.eq_ofNat_of_zero_le (show 0 ≤ n by omega)
 have H1 := hide h1
 have Ha := hide (adds_hall h1)
 have hl3 : rs.length ≤ 3 := (hallB_of h1).2.1
 have hb0 := benches_hall h1 r (by omega)
 have hb1 := benches_hall h1 (r + 1) (by omega)
 go_enter func237, ntmps237
 go_wp2_with fail
 refine ck (implHallOk_any ((uh Hv).alloc _)) fun w1 hb => ?_
 have hbox : w1.cell? ⟨w.heap.size, 0, none⟩ = some (.slice a rs.length cap) := by rw [hb.cell (p := ⟨w.heap.size, 0, none⟩) (by simp)]; simp
 have k0 := alCrg hbox
 have Hb := hide hb
 have Hw := hide (((uh Hv).alloc _).below hb)
 clear hb h4
 go_wp2_with fail
 refine wq ?_
 repeat (go_big_quiet_step (first | exact alCro (benchesOf_any (((uh Hw).below (alBrg _ _ _)).taken (n := r) (by omega)) ((uh Ha).taken _)) | exact alCro (benchesOf_any (((uh Hw).below (alBrg _ _ _)).taken (n := r + 1) (by omega)) ((uh Ha).taken _))))
 refine wpQuiet_nil ?_
 intro _ hw'
 obtain ⟨⟨dq, osq⟩, hw''⟩ := hw'
 subst hw''
 rw [alInc] at H2
 generalize benchSum (rs.take r) = s0 at *
 generalize benchSum (rs.take (r + 1)) = s1 at *
 obtain ⟨x0, x1⟩ := hb0
 obtain ⟨y0, y1⟩ := hb1
 go_wp2_with fail
 go_quiet (fail)
 go_wp2_with fail
 go_ret
 refine ⟨ret_int ?_, (uh Hb0).trans (((uh Hb).trans (below_drewN ((alBrg _ _ _).mono (uh Hb).size) _)).mono (by simp))⟩
 have p0 := pow_small x0 x1
 have p1 := pow_small y0 y1
 rw [uh H2, wrap_small (x := 2 ^ s1.toNat) (by omega) (by omega), wrap_small (x := 2 ^ s0.toNat) (by omega) (by omega), wrap_small (x := 2 ^ s1.toNat - 2 ^ s0.toNat) (by omega) (by omega)]
 rfl
theorem benchSum_mono {rs : List RoomV} (h : rs.all roomB = true) {i : Nat} : ∀ d, i + d ≤ rs.length → benchSum (rs.take i) ≤ benchSum (rs.take (i + d))
 | 0, _ => Int.le_refl _
 | d + 1, hd => by
  have ih := benchSum_mono h (i := i) d (by omega)
  have hb := room_bd (allRooms_of h (j := i + d) (by omega))
  rw [← Nat.add_assoc, benchSum_take rs (by omega)]; omega
theorem room_is {rs : List RoomV} {n : Int} (h : isBench rs n = true) {r : Nat} (hr : r < rs.length) : roomN rs n = r ↔ benchSum (rs.take r) ≤ n ∧ n < benchSum (rs.take (r + 1)) := by
 have hb := isBench_of h
 have ha := (hallB_of hb.1).2.2.1
 have key : ∀ d q : Nat, q + d = rs.length → (∀ j, j < q → benchSum (rs.take (j + 1)) ≤ n) → benchSum (rs.take (roomN rs n)) ≤ n ∧ n < benchSum (rs.take (roomN rs n + 1)) := by
  intro d
  induction d with
  | zero => intro q hq hl; have := room_more h (by omega) hl; omega
  | succ d ih =>
   intro q hq hl
   have hlt := room_more h (r := q) (by omega) hl
   by_cases hc : n < benchSum (rs.take (q + 1))
   ·rw [roomN_eq hlt hc hl]
    refine ⟨?_, hc⟩
    cases q with
    | zero => simp [benchSum]; omega
    | succ q => exact hl q (by omega)
   ·exact ih (q + 1) (by omega) (next_all hl (by omega))
 constructor
 ·intro e; have := key rs.length 0 (by omega) (fun j hj => by omega); rwa [e] at this
 ·intro hx
  refine roomN_eq hr hx.2 (fun j hj => ?_)
  have := benchSum_mono ha (i := j + 1) (r - (j + 1)) (by omega)
  rw [show j + 1 + (r - (j + 1)) = r by omega] at this
  omega
theorem l4Force_any {w : World} {v : Value} {rs : List RoomV} (n : Int) (h : IsRooms w v rs) (h1 : isBench rs n = true) :
  cB 80 #[.agg #[v], .int .i64 n] w (.int .i64 (lastForce (roomAt rs (roomN rs n)).2)) := by
 have Hv := hide h
 obtain ⟨a, cap, rfl, hc, hm⟩ : ∃ a cap, v = .slice a rs.length cap ∧ rs.length ≤ cap ∧ cap ≤ 9223372036854775807 := by obtain ⟨a, cap, rfl, hc, hm, _⟩ := h; exact ⟨a, cap, rfl, hc, hm⟩
 clear h
 have hlt := room_found h1
 have Hh := hide (isBench_of h1).1
 have H1 := hide h1
 have hl3 : rs.length ≤ 3 := (hallB_of (isBench_of h1).1).2.1
 clear h1
 have hw1 := (uh Hv).alloc (.cells #[.slice a rs.length cap] 26)
 have Hw1 := hide hw1
 obtain ⟨b, off, a', cap', rfl, hbw, d1, p1, p4, sp, hbw', d2⟩ := room_at hw1 hlt (uh Hh)
 obtain ⟨b', off', sp'⟩ := a'
 simp only at sp hbw' d2
 subst sp
 clear hw1
 have k0 := alCrg (w := w.alloc (.cells #[.slice (some ⟨b, off, none⟩) rs.length cap] 26)) (a := ⟨w.heap.size, 0, none⟩) (v := .slice (some ⟨b, off, none⟩) rs.length cap) (by simp)
 have k1 := alCrg d1
 have k2 := alCrg d2
 clear d1 d2
 go_enter func80, ntmps80
 go_wp2_with fail
 refine wq ?_
 repeat (go_big_quiet_step (exact alCro (l4Room_any n ((uh Hw1).below (alBrg _ _ _)) (uh H1))))
 refine wpQuiet_nil ?_
 intro _ hw'
 obtain ⟨⟨dq, osq⟩, hw''⟩ := hw'
 subst hw''
 generalize hr1 : roomN rs n = r at *
 generalize hr2 : lastForce (roomAt rs r).2 = fo at *
 generalize (roomAt rs r).2.length = m at *
 have Hr1 := hide hr1
 have Hr2 := hide hr2
 clear hr1 hr2
 go_wp2_with fail
 go_ret
 exact ⟨ret_int (by rw [uh Hr1, uh Hr2]), ((ba _ _)).trans ((alBrg _ _ _).mono (by simp))⟩
end Go.Proofs.YtgdpaigcmoifbaaGreat
