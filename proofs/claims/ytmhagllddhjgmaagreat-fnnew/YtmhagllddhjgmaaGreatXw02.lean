/- What the proof rests on, part 2: lists and numbers, how they lie in memory, and contracts of the calls. No condition but those that a theorem names. -/
import Derived.Test.YtmhagllddhjgmaaGreatXw01
import Derived.WalkKit
import Derived.ProofKit
import Derived.OpenShut
import Derived.Outline
import Derived.Deep.QuietTactic
import Derived.BigQuiet
import Derived.Laws.OwnMore
import Derived.OwnWalk
import Derived.Lib.QuietBelow
import Derived.Maps.AppendAt
/- Contracts of RoomOk, HallOk and BenchesIn, the program's and the model's, at whatever room or hall can be read. No other condition. -/
namespace Go.Proofs.YtmhagllddhjgmaaGreat
open Go.ChangeShapes Go.WideShapes Go.ChangeAt Go.RowKit Go.Sort
set_option linter.unusedVariables false

theorem roomB_1 {b : Int} {ps : List PaceV} (h : inB b 1 4 = false) : roomB (b, ps) = false := by unfold roomB; simp [h]
theorem roomB_2 {b : Int} {ps : List PaceV} (h : inB ps.length 1 4 = false) : roomB (b, ps) = false := by unfold roomB; simp [h]
theorem roomB_3 {b : Int} {ps : List PaceV} (h : inB b 1 4 = true) (h2 : inB ps.length 1 4 = true) : roomB (b, ps) = pacesB ps := by unfold roomB; simp [h, h2]

set_option maxHeartbeats 1000000 in
theorem implRoomOk_any {w : World} {v : Value} {ps : List PaceV} (b : Int) (h : IsPaces w v ps) :
    Calls Tryz.prog 164 #[.agg #[.int .i64 b, v]] w fun e w' => e = .returned (.bool (roomB (b, ps))) ∧ Below w.heap.size w w' := by
  have Hv := hide h
  obtain ⟨a, cap, rfl, hc, hm, hr⟩ := h
  clear hr
  have hl : (ps.length : Int) ≤ 9223372036854775807 := by omega
  cases h1 : inB b 1 4
  · go_enter Tryz.func164, Tryz.ntmps164
    go_wp2_with fail
    refine (liesFrom_any _ _ _ _).mono ?_
    rintro e w' ⟨rfl, rfl⟩
    go_wp2_with fail
    go_ret
    exact ⟨ret_bool (roomB_1 h1).symm, (Below.refl _ _).alloc (Nat.le_refl _) _⟩
  cases h2 : inB ps.length 1 4
  · go_enter Tryz.func164, Tryz.ntmps164
    go_wp2_with fail
    refine (liesFrom_any _ _ _ _).mono ?_
    rintro e w' ⟨rfl, rfl⟩
    go_wp2_with fail
    refine (liesFrom_any _ _ _ _).mono ?_
    rintro e w' ⟨rfl, rfl⟩
    go_wp2_with fail
    go_ret
    exact ⟨ret_bool (roomB_2 h2).symm, (Below.refl _ _).alloc (Nat.le_refl _) _⟩
  · have H3 := hide (roomB_3 h1 h2)
    go_enter Tryz.func164, Tryz.ntmps164
    go_wp2_with fail
    refine (liesFrom_any _ _ _ _).mono ?_
    rintro e w' ⟨rfl, rfl⟩
    go_wp2_with fail
    refine (liesFrom_any _ _ _ _).mono ?_
    rintro e w' ⟨rfl, rfl⟩
    go_wp2_with fail
    refine (pacesOk_any ((unhide Hv).below ((Below.refl _ _).alloc (Nat.le_refl _) _))).mono ?_
    rintro e w1 ⟨rfl, hb⟩
    go_wp2_with fail
    go_ret
    exact ⟨ret_bool (unhide H3).symm, ((Below.refl _ _).alloc (Nat.le_refl _) _).trans (hb.mono (by simp))⟩

theorem below_drewN {B : Nat} {w w' : World} (h : Below B w w') (n : Nat) : Below B w (w'.drewN n) := ⟨h.os, h.tape, h.output, h.size, h.block⟩
theorem stepB_f1 {ps : List PaceV} {k : Nat} {f c : Int} (hp : paceAt ps k = (f, c)) (h : inB f 1 1024 = false) : stepB ps k = false := by unfold stepB paceB; rw [hp]; simp [h]
theorem stepB_f2 {ps : List PaceV} {k : Nat} {f c : Int} (hp : paceAt ps k = (f, c)) (h : inB c 1 1024 = false) : stepB ps k = false := by unfold stepB paceB; rw [hp]; simp [h]
theorem stepB_b {ps : List PaceV} {k : Nat} {f c f' c' : Int} (hp : paceAt ps k = (f, c)) (hz : 0 < k) (hq : paceAt ps (k - 1) = (f', c')) (h1 : inB f 1 1024 = true) (h2 : inB c 1 1024 = true) : stepB ps k = (decide (f' < f) && decide (c' < c)) := by
  unfold stepB paceB aboveB; rw [hp, hq]; simp [h1, h2]; omega
theorem stepB_t0 {ps : List PaceV} {f c : Int} (hp : paceAt ps 0 = (f, c)) (h1 : inB f 1 1024 = true) (h2 : inB c 1 1024 = true) : stepB ps 0 = true := by unfold stepB paceB; rw [hp]; simp [h1, h2]

set_option maxHeartbeats 4000000 in
theorem specRoomOk_any {w : World} {v : Value} {ps : List PaceV} (rb : Int) (h : IsPaces w v ps) :
    Calls Tryz.prog 70 #[.agg #[.int .i64 rb, v]] w fun e w' => e = .returned (.bool (roomB (rb, ps))) ∧ Below w.heap.size w w' := by
  obtain ⟨a, cap, rfl, hc, hm, hr⟩ := h
  have Hr := hide hr
  clear hr
  have hl : (ps.length : Int) ≤ 9223372036854775807 := by omega
  cases h1 : inB rb 1 4
  · go_enter Tryz.func70, Tryz.ntmps70
    go_wp2_with fail
    refine (l1In_any _ _ _ _).mono ?_
    rintro e w' ⟨rfl, rfl⟩
    go_wp2_with fail
    go_ret
    exact ⟨ret_bool (roomB_1 h1).symm, (Below.refl _ _).alloc (Nat.le_refl _) _⟩
  cases h2 : inB ps.length 1 4
  · go_enter Tryz.func70, Tryz.ntmps70
    go_wp2_with fail
    refine (l1In_any _ _ _ _).mono ?_
    rintro e w' ⟨rfl, rfl⟩
    go_wp2_with fail
    refine (l1In_any _ _ _ _).mono ?_
    rintro e w' ⟨rfl, rfl⟩
    go_wp2_with fail
    go_ret
    exact ⟨ret_bool (roomB_2 h2).symm, (Below.refl _ _).alloc (Nat.le_refl _) _⟩
  have H3 := hide (roomB_3 h1 h2)
  go_enter Tryz.func70, Tryz.ntmps70
  go_wp2_with fail
  refine (l1In_any _ _ _ _).mono ?_
  rintro e w' ⟨rfl, rfl⟩
  go_wp2_with fail
  refine (l1In_any _ _ _ _).mono ?_
  rintro e w' ⟨rfl, rfl⟩
  go_wp2_with fail
  clear h1 h2
  go_loopw [3] (fun i wr => ∃ k : Nat, k ≤ ps.length ∧ i = .int .i64 k ∧ (∀ j, j < k → stepB ps j = true) ∧ Below (w.heap.size + 1) (w.alloc (.cells #[.int .i64 rb, .slice a ps.length cap] 95)) wr) (fun i _ => ps.length - (intOf i).toNat)
  case atStart => exact ⟨0, Nat.zero_le _, rfl, fun j hj => by omega, Below.refl _ _⟩
  case round =>
    obtain ⟨k, hk, rfl, hst, hb⟩ := hrel
    have Hst := hide hst
    have Hb := hide hb
    clear hst
    have hsz : w.heap.size + 1 ≤ wr.heap.size := by have := hb.size; simpa using this
    have hbox : wr.cell? ⟨w.heap.size, 1, none⟩ = some (.slice a ps.length cap) := by rw [hb.cell (p := ⟨w.heap.size, 1, none⟩) (by simp)]; simp
    have hne0 : w.heap.size ≠ wr.heap.size := by omega
    by_cases hlt : k < ps.length
    · rcases unhide Hr with h0 | ⟨b, off, rfl, hbw, hcl⟩
      · rw [h0] at hlt; simp at hlt
      have hbB : Below w.heap.size w wr := ((Below.refl _ _).alloc (Nat.le_refl _) _).trans (hb.mono (by omega))
      have hne : b ≠ wr.heap.size := by omega
      have hne' : b ≠ w.heap.size := by omega
      obtain ⟨c0, c1⟩ := hcl k hlt
      rw [← hbB.cell (p := ⟨b, off + k * 2, none⟩) hbw] at c0
      rw [← hbB.cell (p := ⟨b, off + k * 2 + 1, none⟩) hbw] at c1
      generalize hp : paceAt ps k = p at c0 c1
      have Hp := hide hp
      obtain ⟨f, c⟩ := p
      simp only at c0 c1
      clear hp hb
      cases h1 : inB f 1 1024
      · clear hcl
        go_wp2_with fail
        go_quiet (exact Calls.quiet_of_same (l1In_any _ _ _ _))
        go_wp2_with fail
        go_ret
        exact ⟨ret_bool (by rw [unhide H3]; exact (pacesB_f hlt (stepB_f1 (unhide Hp) h1)).symm), ((Below.refl _ _).alloc (Nat.le_refl _) _).trans ((below_drewN ((unhide Hb).alloc hsz _) _).mono (by omega))⟩
      cases h2 : inB c 1 1024
      · clear hcl
        go_wp2_with fail
        go_quiet (exact Calls.quiet_of_same (l1In_any _ _ _ _))
        go_wp2_with fail
        go_ret
        exact ⟨ret_bool (by rw [unhide H3]; exact (pacesB_f hlt (stepB_f2 (unhide Hp) h2)).symm), ((Below.refl _ _).alloc (Nat.le_refl _) _).trans ((below_drewN ((unhide Hb).alloc hsz _) _).mono (by omega))⟩
      by_cases hz : 0 < k
      · have hd : decide (0 < k) = true := decide_eq_true hz
        obtain ⟨e0, e1⟩ := hcl (k - 1) (by omega)
        rw [← hbB.cell (p := ⟨b, off + (k - 1) * 2, none⟩) hbw] at e0
        rw [← hbB.cell (p := ⟨b, off + (k - 1) * 2 + 1, none⟩) hbw] at e1
        generalize hq : paceAt ps (k - 1) = q at e0 e1
        have Hq := hide hq
        obtain ⟨f', c'⟩ := q
        simp only at e0 e1
        have q0 : (wr.alloc (.cells #[.int .i64 f, .int .i64 c] 138)).cell? ⟨w.heap.size, 1, none⟩ = some (.slice (some ⟨b, off, none⟩) ps.length cap) := by rw [World.cell?_alloc_old _ _ _ hne0]; exact hbox
        have q1 : (wr.alloc (.cells #[.int .i64 f, .int .i64 c] 138)).cell? ⟨b, off + (k - 1) * 2, none⟩ = some (.int .i64 f') := by rw [World.cell?_alloc_old _ _ _ hne]; exact e0
        have q2 : (wr.alloc (.cells #[.int .i64 f, .int .i64 c] 138)).cell? ⟨b, off + (k - 1) * 2 + 1, none⟩ = some (.int .i64 c') := by rw [World.cell?_alloc_old _ _ _ hne]; exact e1
        clear hcl hq e0 e1
        have Hs := hide (stepB_b (unhide Hp) hz (unhide Hq) h1 h2)
        by_cases g1 : f ≤ f'
        · have g1' : decide (f ≤ f') = true := decide_eq_true g1
          go_wp2_with fail
          go_quiet (exact Calls.quiet_of_same (l1In_any _ _ _ _))
          go_wp2_with fail
          go_ret
          exact ⟨ret_bool (by rw [unhide H3]; exact (pacesB_f hlt (by rw [unhide Hs]; simp; omega)).symm), ((Below.refl _ _).alloc (Nat.le_refl _) _).trans ((below_drewN ((unhide Hb).alloc hsz _) _).mono (by omega))⟩
        have g1' : decide (f ≤ f') = false := decide_eq_false g1
        by_cases g2 : c ≤ c'
        · have g2' : decide (c ≤ c') = true := decide_eq_true g2
          go_wp2_with fail
          go_quiet (exact Calls.quiet_of_same (l1In_any _ _ _ _))
          go_wp2_with fail
          go_ret
          exact ⟨ret_bool (by rw [unhide H3]; exact (pacesB_f hlt (by rw [unhide Hs]; simp; omega)).symm), ((Below.refl _ _).alloc (Nat.le_refl _) _).trans ((below_drewN ((unhide Hb).alloc hsz _) _).mono (by omega))⟩
        · have g2' : decide (c ≤ c') = false := decide_eq_false g2
          go_wp2_with fail
          go_quiet (exact Calls.quiet_of_same (l1In_any _ _ _ _))
          go_wp2_with fail
          go_roundw
          case rel => exact ⟨k + 1, by omega, by go_num, next_all (unhide Hst) (by rw [unhide Hs]; simp; omega), below_drewN ((unhide Hb).alloc hsz _) _⟩
          case measure => simp [intOf]; omega
      · obtain rfl : k = 0 := by omega
        simp only [Nat.zero_mul, Nat.add_zero] at c0 c1
        clear hcl hz
        go_wp2_with fail
        go_quiet (exact Calls.quiet_of_same (l1In_any _ _ _ _))
        go_wp2_with fail
        go_roundw
        case rel => exact ⟨1, by omega, by go_num, next_all (unhide Hst) (stepB_t0 (unhide Hp) h1 h2), below_drewN ((unhide Hb).alloc hsz _) _⟩
        case measure => simp [intOf]; omega
    · obtain rfl : k = ps.length := by omega
      clear hb
      go_wp2_with fail
      go_ret
      exact ⟨ret_bool (by rw [unhide H3]; exact (pacesB_t (unhide Hst)).symm), ((Below.refl _ _).alloc (Nat.le_refl _) _).trans ((unhide Hb).mono (by omega))⟩

end Go.Proofs.YtmhagllddhjgmaaGreat

/- Contracts of HallOk, of the count of benches and of BenchesIn, the program's and the model's, at whatever hall can be read. No other condition but that what is counted can be added up. -/
namespace Go.Proofs.YtmhagllddhjgmaaGreat
open Go.ChangeShapes Go.WideShapes Go.ChangeAt Go.RowKit Go.Sort
set_option linter.unusedVariables false

/-- What adds up without overflow. -/
def Adds (rs : List RoomV) : Prop := ∀ k, k ≤ rs.length → 0 ≤ benchSum (rs.take k) ∧ benchSum (rs.take k) ≤ 1000000
theorem adds_of {rs : List RoomV} (h : rs.all roomB = true) (hl : rs.length ≤ 3) : Adds rs := fun k hk => by have := benchSum_bd h k hk; omega
set_option maxHeartbeats 1000000 in
theorem roomsOk_any {w : World} {v : Value} {rs : List RoomV} (h : IsRooms w v rs) :
    Calls Tryz.prog 120 #[v] w fun e w' => e = .returned (.bool (rs.all roomB)) ∧ Below w.heap.size w w' := by
  obtain ⟨a, cap, rfl, hc, hm, hr⟩ := h
  have Hr := hide hr
  clear hr
  go_enter Tryz.func120, Tryz.ntmps120
  go_wp2_with fail
  go_loopw [7] (fun i wr => ∃ k : Nat, k ≤ rs.length ∧ i = .int .i64 k ∧ (∀ j, j < k → roomB (roomAt rs j) = true) ∧ Below w.heap.size w wr) (fun i _ => rs.length - (intOf i).toNat)
  case atStart => exact ⟨0, Nat.zero_le _, rfl, fun j hj => by omega, Below.refl _ _⟩
  case round =>
    obtain ⟨k, hk, rfl, hst, hb⟩ := hrel
    have Hst := hide hst
    have Hb := hide hb
    have hsz := hb.size
    clear hst
    by_cases hlt : k < rs.length
    · rcases unhide Hr with h0 | ⟨b, off, rfl, hbw, hcl⟩
      · rw [h0] at hlt; simp at hlt
      obtain ⟨c0, pv, c1, hip⟩ := hcl k hlt
      rw [← hb.cell (p := ⟨b, off + k * 2, none⟩) hbw] at c0
      rw [← hb.cell (p := ⟨b, off + k * 2 + 1, none⟩) hbw] at c1
      have Hip := hide (hip.below hb)
      obtain ⟨pa, pcap, rfl, _⟩ := hip
      generalize hp : roomAt rs k = p at *
      obtain ⟨rb, ps⟩ := p
      simp only at c0 c1
      have Hp := hide hp
      clear hp hcl hb
      cases hrb : roomB (rb, ps)
      · go_wp2_with fail
        refine (implRoomOk_any rb ((unhide Hip).below ((Below.refl _ _).alloc (Nat.le_refl _) _))).mono ?_
        rintro e w1 ⟨rfl, hb1⟩
        go_wp2_with fail
        go_ret
        exact ⟨ret_bool (allRooms_f hlt (by rw [unhide Hp]; exact hrb)).symm, ((unhide Hb).alloc hsz _).trans (hb1.mono (by simp; omega))⟩
      · go_wp2_with fail
        refine (implRoomOk_any rb ((unhide Hip).below ((Below.refl _ _).alloc (Nat.le_refl _) _))).mono ?_
        rintro e w1 ⟨rfl, hb1⟩
        have Hb1 := hide hb1
        clear hb1
        go_wp2_with fail
        go_roundw
        case rel => exact ⟨k + 1, by omega, by go_num, next_all (unhide Hst) (by rw [unhide Hp]; exact hrb), ((unhide Hb).alloc hsz _).trans ((unhide Hb1).mono (by simp; omega))⟩
        case measure => simp [intOf]; omega
    · obtain rfl : k = rs.length := by omega
      go_wp2_with fail
      go_ret
      exact ⟨ret_bool (allRooms_t (unhide Hst)).symm, hb⟩

set_option maxHeartbeats 1000000 in
theorem benchesOf_any {w : World} {v : Value} {rs : List RoomV} (h : IsRooms w v rs) (ha : Adds rs) :
    Calls Tryz.prog 121 #[v] w fun e w' => e = .returned (.int .i64 (benchSum rs)) ∧ Below w.heap.size w w' := by
  obtain ⟨a, cap, rfl, hc, hm, hr⟩ := h
  have Hr := hide hr
  have Ha := hide ha
  clear hr ha
  go_enter Tryz.func121, Tryz.ntmps121
  go_wp2_with fail
  go_loopw [3, 8] (fun s i wr => ∃ k : Nat, k ≤ rs.length ∧ i = .int .i64 k ∧ s = .int .i64 (benchSum (rs.take k)) ∧ Below w.heap.size w wr) (fun _ i _ => rs.length - (intOf i).toNat)
  case atStart => exact ⟨0, Nat.zero_le _, rfl, rfl, Below.refl _ _⟩
  case round =>
    obtain ⟨k, hk, rfl, rfl, hb⟩ := hrel
    have Hb := hide hb
    have hsz := hb.size
    by_cases hlt : k < rs.length
    · rcases unhide Hr with h0 | ⟨b, off, rfl, hbw, hcl⟩
      · rw [h0] at hlt; simp at hlt
      obtain ⟨c0, pv, c1, hip⟩ := hcl k hlt
      rw [← hb.cell (p := ⟨b, off + k * 2, none⟩) hbw] at c0
      rw [← hb.cell (p := ⟨b, off + k * 2 + 1, none⟩) hbw] at c1
      obtain ⟨pa, pcap, rfl, _⟩ := hip
      have hs0 := unhide Ha k hk
      have hs1 := unhide Ha (k + 1) hlt
      have Hs := hide (benchSum_take rs hlt)
      rw [benchSum_take rs hlt] at hs1
      generalize benchSum (rs.take k) = s at *
      generalize (roomAt rs k).1 = rb at *
      obtain ⟨s0, s1⟩ := hs0
      obtain ⟨s2, s3⟩ := hs1
      clear hcl hb
      go_wp2_with fail
      go_roundw
      case rel => exact ⟨k + 1, by omega, by go_num, by rw [unhide Hs], (unhide Hb).alloc hsz _⟩
      case measure => simp [intOf]; omega
    · obtain rfl : k = rs.length := by omega
      go_wp2_with fail
      go_ret
      exact ⟨ret_int (by rw [benchSum_all]), hb⟩

theorem hallB_1 {rs : List RoomV} (h : inB rs.length 1 3 = false) : hallB rs = false := by unfold hallB; simp [h]
theorem hallB_2 {rs : List RoomV} (h : rs.all roomB = false) : hallB rs = false := by unfold hallB; rw [h]; simp
theorem hallB_3 {rs : List RoomV} (h : inB rs.length 1 3 = true) (h2 : rs.all roomB = true) : hallB rs = decide (benchSum rs ≤ 8) := by unfold hallB; rw [h, h2]; simp

theorem IsRooms.alloc {w : World} {v : Value} {rs : List RoomV} (h : IsRooms w v rs) (o : Obj) : IsRooms (w.alloc o) v rs := h.below ((Below.refl _ _).alloc (Nat.le_refl _) _)

set_option maxHeartbeats 1000000 in
theorem implHallOk_any {w : World} {v : Value} {rs : List RoomV} (h : IsRooms w v rs) :
    Calls Tryz.prog 63 #[.agg #[v]] w fun e w' => e = .returned (.bool (hallB rs)) ∧ Below w.heap.size w w' := by
  have Hv := hide h
  obtain ⟨a, cap, rfl, hc, hm, hr⟩ := h
  clear hr
  have hl : (rs.length : Int) ≤ 9223372036854775807 := by omega
  cases h1 : inB rs.length 1 3
  · go_enter Tryz.func63, Tryz.ntmps63
    go_wp2_with fail
    refine (liesFrom_any _ _ _ _).mono ?_
    rintro e w' ⟨rfl, rfl⟩
    go_wp2_with fail
    go_ret
    exact ⟨ret_bool (hallB_1 h1).symm, (Below.refl _ _).alloc (Nat.le_refl _) _⟩
  cases h2 : rs.all roomB
  · have H2 := hide (hallB_2 h2)
    generalize hx : rs.all roomB = x at *
    have Hx := hide hx
    clear hx
    subst h2
    go_enter Tryz.func63, Tryz.ntmps63
    go_wp2_with fail
    refine (liesFrom_any _ _ _ _).mono ?_
    rintro e w' ⟨rfl, rfl⟩
    go_wp2_with fail
    refine (roomsOk_any ((unhide Hv).alloc _)).mono ?_
    rw [unhide Hx]
    rintro e w1 ⟨rfl, hb⟩
    go_wp2_with fail
    go_ret
    exact ⟨ret_bool (unhide H2).symm, ((Below.refl _ _).alloc (Nat.le_refl _) _).trans (hb.mono (by simp))⟩
  · have H3 := hide (hallB_3 h1 h2)
    have Ha := hide (adds_of h2 (by have := inB_of h1; omega))
    generalize hx : rs.all roomB = x at *
    have Hx := hide hx
    clear hx
    subst h2
    go_enter Tryz.func63, Tryz.ntmps63
    go_wp2_with fail
    refine (liesFrom_any _ _ _ _).mono ?_
    rintro e w' ⟨rfl, rfl⟩
    go_wp2_with fail
    refine (roomsOk_any ((unhide Hv).alloc _)).mono ?_
    rw [unhide Hx]
    rintro e w1 ⟨rfl, hb⟩
    have hz : w.heap.size + 1 ≤ w1.heap.size := by have := hb.size; simpa using this
    have hbox : w1.cell? ⟨w.heap.size, 0, none⟩ = some (.slice a rs.length cap) := by rw [hb.cell (p := ⟨w.heap.size, 0, none⟩) (by simp)]; simp
    have hw1 := hide (((unhide Hv).alloc _).below hb)
    have Hb := hide hb
    clear hb
    go_wp2_with fail
    refine (benchesOf_any (unhide hw1) (unhide Ha)).mono ?_
    rintro e w2 ⟨rfl, hb2⟩
    have Hb2 := hide hb2
    clear hb2
    go_wp2_with fail
    go_ret
    exact ⟨ret_bool (by rw [unhide H3]), ((Below.refl _ _).alloc (Nat.le_refl _) _).trans (((unhide Hb).trans ((unhide Hb2).mono (unhide Hb).size)).mono (by simp))⟩

end Go.Proofs.YtmhagllddhjgmaaGreat

