/- Part 9 of what the proof rests on. No condition but those that a theorem names. -/
import Derived.Test.YtffcgajndmhpkaaGreatDoorXe08
import Derived.Deep.RegionHeld3
set_option maxHeartbeats 8000000
set_option maxRecDepth 100000
namespace Go.Proofs.YtffcgajndmhpkaaGreatDoor
open Go.ChangeShapes Go.WideShapes Go.ChangeAt Go.RowKit Go.Sort
set_option linter.unusedVariables false
theorem specHallOk_v {w : World} {v : Value} {rs : List RoomV} {q : Bool} (hq : hallB rs = q) (h : IsRooms w v rs) : Calls Tryz.prog 103 #[.agg #[v]] w fun e w' => e = .returned (.bool q) ∧ Below w.heap.size w w' := by
 have := specHallOk_any h; rw [hq] at this; exact this
theorem specGuildsOk_q {w : World} {v : Value} {ps : List GuildV} {q : Bool} (hq : guildsB ps = q) (h : IsGuilds w v ps) : Calls Tryz.prog 104 #[v] w fun e w' => e = .returned (.bool q) ∧ Below w.heap.size w w' := by
 have := specGuildsOk_any h; rw [hq] at this; exact this
theorem l4Count_v {w : World} {v : Value} {rs : List RoomV} {n : Int} (hn : benchSum rs = n) (h : IsRooms w v rs) (ha : Adds rs) : Calls Tryz.prog 105 #[.agg #[v]] w fun e w' => e = .returned (.int .i64 n) ∧ Below w.heap.size w w' := by
 have := l4Count_any h ha; rw [hn] at this; exact this
theorem l1In_q {x lo hi : Int} {q : Bool} (hq : inB x lo hi = q) (w : World) : Calls Tryz.prog 40 #[.int .i64 x, .int .i64 lo, .int .i64 hi] w fun e w' => e = .returned (.bool q) ∧ Below w.heap.size w w' := by
 have := l1In_any x lo hi w; rw [hq] at this
 exact this.mono fun e w' ⟨h1, h2⟩ => ⟨h1, by rw [h2]; exact Below.refl _ _⟩
theorem specSmithOk_q {st be rk my gu lo hi hd ca ut wk : Int} {q : Bool} (hq : smithB (st, be, rk, my, gu, lo, hi, hd, ca, ut, wk) = q) (w : World) : Calls Tryz.prog 100 #[.agg (I11 st be rk my gu lo hi hd ca ut wk)] w fun e w' => e = .returned (.bool q) ∧ Below w.heap.size w w' := by
 have := specSmithOk_any st be rk my gu lo hi hd ca ut wk w; rw [hq] at this; exact this
theorem l11Present_q {st be rk my gu lo hi hd ca ut wk : Int} {q : Bool} (hq : presS (st, be, rk, my, gu, lo, hi, hd, ca, ut, wk) = q) (w : World) : Calls Tryz.prog 47 #[.agg (I11 st be rk my gu lo hi hd ca ut wk)] w fun e w' => e = .returned (.bool q) ∧ Below w.heap.size w w' := by
 have := l11Present_any st be rk my gu lo hi hd ca ut wk w; rw [hq] at this; exact this
theorem l2Has_q {s i : Int} {q : Bool} (hq : bitB s i = q) (h0 : 0 ≤ s) (h1 : s ≤ 255) (h2 : 0 ≤ i) (h3 : i ≤ 7) (w : World) : Calls Tryz.prog 106 #[.int .i64 s, .int .i64 i] w fun e w' => e = .returned (.bool q) ∧ Below w.heap.size w w' := by
 have := l2Has_any s i w h0 h1 h2 h3; rw [hq] at this
 exact this.mono fun e w' ⟨h1, h2⟩ => ⟨h1, by rw [h2]; exact Below.refl _ _⟩
theorem specInBand_q {h k : Int} {q : Bool} (hq : bandB h k = q) (w : World) : Calls Tryz.prog 107 #[.int .i64 h, .int .i64 k] w fun e w' => e = .returned (.bool q) ∧ Below w.heap.size w w' := by
 have := specInBand_any h k w; rw [hq] at this
 exact this.mono fun e w' ⟨h1, h2⟩ => ⟨h1, by rw [h2]; exact Below.refl _ _⟩
theorem l11Loose_any {w : World} {v0 v1 v2 v3 v4 : Value} {m : SmyV} (h : Smy w v0 v1 v2 v3 v4 m) :
  Calls Tryz.prog 43 #[.agg #[v0, v1, v2, v3, v4, .int .i64 m.now]] w fun e w' => e = .returned (.bool (looseB m)) ∧ Below w.heap.size w w' := by
 have Hv := hide (h.alloc (.cells #[v0, v1, v2, v3, v4, .int .i64 m.now] 32))
 obtain ⟨h0, h1, h2, h3, h4⟩ := h
 obtain ⟨a0, p0, rfl, hc0, hm0, r0⟩ := h0
 obtain ⟨a1, p1, rfl, hc1, hm1, _⟩ := h1
 obtain ⟨a2, p2, rfl, hc2, hm2, r2⟩ := h2
 obtain ⟨a3, p3, rfl, hc3, hm3, r3⟩ := h3
 obtain ⟨a4, p4, rfl, hc4, hm4, r4⟩ := h4
 have R0 := hide r0
 have R2 := hide r2
 have R3 := hide r3
 have R4 := hide r4
 clear r0 r2 r3 r4
 go_enter Tryz.func43, Tryz.ntmps43
 go_wp2_with fail
 obtain ⟨W, hW, BB, kb⟩ := one_boxH w 32 (S6 a0 p0 a1 p1 a2 p2 a3 p3 a4 p4 m)
 rw [hW]
 (try rw [hW] at Hv);clear hW
 have c0 := cell_regrown ((uh kb).cell (i := 0) (v := .slice a0 m.rooms.length p0) rfl)
 have c1 := cell_regrown ((uh kb).cell (i := 1) (v := .slice a1 m.guilds.length p1) rfl)
 have c2 := cell_regrown ((uh kb).cell (i := 2) (v := .slice a2 m.smiths.length p2) rfl)
 have c3 := cell_regrown ((uh kb).cell (i := 3) (v := .slice a3 m.desks.length p3) rfl)
 have c4 := cell_regrown ((uh kb).cell (i := 4) (v := .slice a4 m.paces.length p4) rfl)
 have c5 := cell_regrown ((uh kb).cell (i := 5) (v := .int .i64 m.now) rfl)
 cases h0 : hallB m.rooms
 ·have Q0 := hide h0
  clear h0
  refine wq ?_
  repeat (go_big_quiet_step (first | exact Calls.regrown_of (specHallOk_v (uh Q0) ((uh Hv).below (below_regrown _ _ _)).rooms)))
  refine wqn fun W1 hb => ?_
  clear c0 c1 c2 c3 c4 c5
  go_wp2_with fail
  go_ret
  exact ⟨ret_bool (looseB_head (by unfold headB; rw [uh Q0]; rfl)).symm, (uh BB).trans (hb.mono (uh BB).size)⟩
 have Q0 := hide h0
 have QA := hide (adds_hall h0)
 clear h0
 cases h1 : guildsB m.guilds
 ·have Q1 := hide h1
  clear h1
  refine wq ?_
  repeat (go_big_quiet_step (first | exact Calls.regrown_of (specHallOk_v (uh Q0) ((uh Hv).below (below_regrown _ _ _)).rooms) | exact Calls.regrown_of (specGuildsOk_q (uh Q1) ((uh Hv).below (below_regrown _ _ _)).guilds)))
  refine wqn fun W1 hb => ?_
  clear c0 c1 c2 c3 c4 c5
  go_wp2_with fail
  go_ret
  exact ⟨ret_bool (looseB_head (by unfold headB; rw [uh Q0, uh Q1]; rfl)).symm, (uh BB).trans (hb.mono (uh BB).size)⟩
 have Q1 := hide h1
 clear h1
 by_cases h2 : 12 < m.smiths.length
 ·have h2i : (12 : Int) < (m.smiths.length : Int) := by omega
  have h2d : decide ((12 : Int) < (m.smiths.length : Int)) = true := decide_eq_true h2i
  refine wq ?_
  repeat (go_big_quiet_step (first | exact Calls.regrown_of (specHallOk_v (uh Q0) ((uh Hv).below (below_regrown _ _ _)).rooms) | exact Calls.regrown_of (specGuildsOk_q (uh Q1) ((uh Hv).below (below_regrown _ _ _)).guilds)))
  refine wqn fun W1 hb => ?_
  clear c0 c1 c2 c3 c4 c5
  go_wp2_with fail
  go_ret
  exact ⟨ret_bool (looseB_head (by unfold headB; rw [uh Q0, uh Q1]; simp; intro h9; omega)).symm, (uh BB).trans (hb.mono (uh BB).size)⟩
 have h2i : ¬ (12 : Int) < (m.smiths.length : Int) := by omega
 have h2d : decide ((12 : Int) < (m.smiths.length : Int)) = false := decide_eq_false h2i
 obtain ⟨n, hn⟩ : ∃ n, benchSum m.rooms = n := ⟨_, rfl⟩
 have Q3 := hide hn
 clear hn
 by_cases h3 : (m.desks.length : Int) = n
 rotate_left
 ·have h3b : ((m.desks.length : Int) != n) = true := by simpa using h3
  refine wq ?_
  repeat (go_big_quiet_step (first | exact Calls.regrown_of (specHallOk_v (uh Q0) ((uh Hv).below (below_regrown _ _ _)).rooms) | exact Calls.regrown_of (specGuildsOk_q (uh Q1) ((uh Hv).below (below_regrown _ _ _)).guilds) | exact Calls.regrown_of (l4Count_v (uh Q3) ((uh Hv).below (below_regrown _ _ _)).rooms (uh QA))))
  refine wqn fun W1 hb => ?_
  clear c0 c1 c2 c3 c4 c5
  go_wp2_with fail
  go_ret
  exact ⟨ret_bool (looseB_head (by unfold headB; rw [uh Q0, uh Q1, uh Q3]; simp [h3])).symm, (uh BB).trans (hb.mono (uh BB).size)⟩
 have h3b : ((m.desks.length : Int) != n) = false := by simpa using h3
 by_cases h4 : m.paces.length = m.rooms.length
 rotate_left
 ·have h4b : ((m.paces.length : Int) != (m.rooms.length : Int)) = true := by simp; omega
  refine wq ?_
  repeat (go_big_quiet_step (first | exact Calls.regrown_of (specHallOk_v (uh Q0) ((uh Hv).below (below_regrown _ _ _)).rooms) | exact Calls.regrown_of (specGuildsOk_q (uh Q1) ((uh Hv).below (below_regrown _ _ _)).guilds) | exact Calls.regrown_of (l4Count_v (uh Q3) ((uh Hv).below (below_regrown _ _ _)).rooms (uh QA))))
  refine wqn fun W1 hb => ?_
  clear c0 c1 c2 c3 c4 c5
  go_wp2_with fail
  go_ret
  exact ⟨ret_bool (looseB_head (by unfold headB; rw [uh Q0, uh Q1]; simp [h4])).symm, (uh BB).trans (hb.mono (uh BB).size)⟩
 have h4b : ((m.paces.length : Int) != (m.rooms.length : Int)) = false := by simp; omega
 cases h5 : inB m.now 0 1000000
 ·have Q5 := hide h5
  clear h5
  refine wq ?_
  repeat (go_big_quiet_step (first | exact Calls.regrown_of (specHallOk_v (uh Q0) ((uh Hv).below (below_regrown _ _ _)).rooms) | exact Calls.regrown_of (specGuildsOk_q (uh Q1) ((uh Hv).below (below_regrown _ _ _)).guilds) | exact Calls.regrown_of (l4Count_v (uh Q3) ((uh Hv).below (below_regrown _ _ _)).rooms (uh QA)) | exact Calls.regrown_of (l1In_q (uh Q5) _)))
  refine wqn fun W1 hb => ?_
  clear c0 c1 c2 c3 c4 c5
  go_wp2_with fail
  go_ret
  exact ⟨ret_bool (looseB_head (by unfold headB; rw [uh Q0, uh Q1, uh Q3, uh Q5]; simp)).symm, (uh BB).trans (hb.mono (uh BB).size)⟩
 have Q5 := hide h5
 clear h5
 have QH : Hid (headB m = true) := hide (by unfold headB; rw [uh Q0, uh Q1, uh Q3, uh Q5]; simp [h3, h4]; omega)
 refine wq ?_
 repeat (go_big_quiet_step (first | exact Calls.regrown_of (specHallOk_v (uh Q0) ((uh Hv).below (below_regrown _ _ _)).rooms) | exact Calls.regrown_of (specGuildsOk_q (uh Q1) ((uh Hv).below (below_regrown _ _ _)).guilds) | exact Calls.regrown_of (l4Count_v (uh Q3) ((uh Hv).below (below_regrown _ _ _)).rooms (uh QA)) | exact Calls.regrown_of (l1In_q (uh Q5) _)))
 refine wqn fun W1 hb => ?_
 clear c0 c1 c2 c3 c4 c5
 replace kb := bl kb hb
 replace Hv := hide ((uh Hv).below hb)
 replace BB := bt BB hb
 clear hb
 have H3 := hide h3
 have H4 := hide h4
 clear Hv Q0 Q1 Q3 Q5 QA h2d h3b h4b h3 h4
 have c3 := (uh kb).cell (i := 3) (v := .slice a3 m.desks.length p3) rfl
 go_wp2_with fail
 clear c3
 go_loopw [3, 4] (fun o i wr => ∃ k : Nat, k ≤ m.desks.length ∧ o = .bool (upOpen m k) ∧ i = .int .i64 k ∧ upDesks m k = true ∧ Blk wr w.heap.size 32 (S6 a0 p0 a1 p1 a2 p2 a3 p3 a4 p4 m) ∧ Below w.heap.size w wr) (fun _ i _ => m.desks.length - (intOf i).toNat)
 case atStart => exact ⟨0, Nat.zero_le _, rfl, rfl, rfl, uh kb, uh BB⟩
 case round =>
  obtain ⟨k, hk, rfl, rfl, hup, kb1, hb1⟩ := hrel
  clear kb BB
  have kb := hide kb1
  have BB := hide hb1
  have Hup := hide hup
  clear kb1 hb1 hup
  obtain ⟨ob, hob⟩ : ∃ b, upOpen m k = b := ⟨_, rfl⟩
  rw [hob]
  have Hob := hide hob
  clear hob
  have c3 := (uh kb).cell (i := 3) (v := .slice a3 m.desks.length p3) rfl
  by_cases hlt : k < m.desks.length
  ·rcases uh R3 with e0 | ⟨b, off, rfl, hbw, hcl⟩
   ·rw [e0] at hlt; simp at hlt
   obtain ⟨d0, d1, d2⟩ := desk_cells hcl hlt
   rw [← (uh BB).cell (p := ⟨b, off + k * 3, none⟩) hbw] at d0
   rw [← (uh BB).cell (p := ⟨b, off + k * 3 + 2, none⟩) hbw] at d2
   clear d1 hcl
   have HU := hide (show upDesks m (k + 1) = (upDesks m k && deskB (recAt m.desks k)) from all_up k)
   have HO := hide (show upOpen m (k + 1) = (upOpen m k || (recAt m.desks k).1) from any_up k)
   have HL := hide (looseB_desk (m := m) hlt)
   generalize recAt m.desks k = dd at *
   obtain ⟨op, who, mk⟩ := dd
   simp only at d0 d2
   cases hmk : inB mk (-900000000000) 900000000000
   ·cases ob
    all_goals
     go_wp2_with (go_at_call 40; refine (l1In_any _ _ _ _).mono ?_; rintro e w' ⟨rfl, h9⟩; subst w')
     go_ret
     exact ⟨ret_bool (uh HL hmk).symm, uh BB⟩
   ·cases ob
    all_goals
     go_wp2_with (go_at_call 40; refine (l1In_any _ _ _ _).mono ?_; rintro e w' ⟨rfl, h9⟩; subst w')
     go_roundw
     case rel => exact ⟨k + 1, by omega, by rw [uh HO, uh Hob]; simp, by go_num, by rw [uh HU, uh Hup]; exact hmk, uh kb, uh BB⟩
     case measure => exact ms
  ·obtain rfl : k = m.desks.length := by omega
   have QD := Hup
   clear Hup
   have c4 := (uh kb).cell (i := 4) (v := .slice a4 m.paces.length p4) rfl
   go_wp2_with fail
   clear c3 c4
   go_loopw [5] (fun i wr => ∃ k : Nat, k ≤ m.paces.length ∧ i = .int .i64 k ∧ upPaces m k = true ∧ Blk wr w.heap.size 32 (S6 a0 p0 a1 p1 a2 p2 a3 p3 a4 p4 m) ∧ Below w.heap.size w wr) (fun i _ => m.paces.length - (intOf i).toNat)
   case atStart => exact ⟨0, Nat.zero_le _, rfl, rfl, uh kb, uh BB⟩
   case round =>
    obtain ⟨k, hk, rfl, hup, kb1, hb1⟩ := hrel
    clear kb BB
    have kb := hide kb1
    have BB := hide hb1
    have Hup := hide hup
    clear kb1 hb1 hup
    have c0 := (uh kb).cell (i := 0) (v := .slice a0 m.rooms.length p0) rfl
    have c4 := (uh kb).cell (i := 4) (v := .slice a4 m.paces.length p4) rfl
    by_cases hlt : k < m.paces.length
    ·have hlr : k < m.rooms.length := by have := uh H4; omega
     rcases uh R4 with e0 | ⟨b, off, rfl, hbw, hcl⟩
     ·rw [e0] at hlt; simp at hlt
     rcases uh R0 with e0 | ⟨b', off', rfl, hbw', hcl'⟩
     ·rw [e0] at hlr; simp at hlr
     have d0 := num_cell hcl hlt
     obtain ⟨_, pv, d1, hip⟩ := hcl' k hlr
     rw [← (uh BB).cell (p := ⟨b, off + k, none⟩) hbw] at d0
     rw [← (uh BB).cell (p := ⟨b', off' + k * 2 + 1, none⟩) hbw'] at d1
     obtain ⟨pa, pcap, rfl, hpc, hpm, _⟩ := hip
     clear hcl hcl'
     have HU := hide (show upPaces m (k + 1) = (upPaces m k && paceInB m k) from all_up k)
     have HL := hide (looseB_pace (m := m) hlt)
     have HP := hide (show paceInB m k = inB (recAt m.paces k) 0 (((roomAt m.rooms k).2.length : Int) - 1) from rfl)
     generalize recAt m.paces k = z at *
     generalize (roomAt m.rooms k).2.length = nl at *
     have hwr : IntKind.i64.wrap ((nl : Int) - 1) = (nl : Int) - 1 := by rw [IntKind.wrap_i64]; omega
     cases hz : inB z 0 ((nl : Int) - 1)
     ·go_wp2_with fail
      go_quiet (exact Calls.quiet_of_same (l1In_any _ _ _ _))
      go_wp2_with fail
      go_ret
      exact ⟨ret_bool (uh HL (by rw [uh HP]; exact hz)).symm, drewN_below (uh BB) _⟩
     ·go_wp2_with fail
      go_quiet (exact Calls.quiet_of_same (l1In_any _ _ _ _))
      go_wp2_with fail
      go_roundw
      case rel => exact ⟨k + 1, by omega, by go_num, by rw [uh HU, uh Hup, uh HP, hz]; rfl, (uh kb).drewN _, drewN_below (uh BB) _⟩
      case measure => exact ms
    ·obtain rfl : k = m.paces.length := by omega
     have QP := Hup
     clear Hup
     have c2 := (uh kb).cell (i := 2) (v := .slice a2 m.smiths.length p2) rfl
     go_wp2_with fail
     clear c0 c2 c4
     go_loopw [6] (fun i wr => ∃ k : Nat, k ≤ m.smiths.length ∧ i = .int .i64 k ∧ upSmiths m k = true ∧ Blk wr w.heap.size 32 (S6 a0 p0 a1 p1 a2 p2 a3 p3 a4 p4 m) ∧ Below w.heap.size w wr) (fun i _ => m.smiths.length - (intOf i).toNat)
     case atStart => exact ⟨0, Nat.zero_le _, rfl, rfl, uh kb, uh BB⟩
     case round =>
      obtain ⟨k, hk, rfl, hup, kb1, hb1⟩ := hrel
      clear kb BB
      have kb := hide kb1
      have BB := hide hb1
      have Hup := hide hup
      clear kb1 hb1 hup
      have c1 := (uh kb).cell (i := 1) (v := .slice a1 m.guilds.length p1) rfl
      have c2 := (uh kb).cell (i := 2) (v := .slice a2 m.smiths.length p2) rfl
      have c3 := (uh kb).cell (i := 3) (v := .slice a3 m.desks.length p3) rfl
      by_cases hlt : k < m.smiths.length
      ·rcases uh R2 with e0 | ⟨b, off, rfl, hbw, hcl⟩
       ·rw [e0] at hlt; simp at hlt
       obtain ⟨d0, d1, d2, d3, d4, d5, d6, d7, d8, d9, d10⟩ := smith_cells hcl hlt
       rw [← (uh BB).cell (p := ⟨b, off + k * 11, none⟩) hbw] at d0
       rw [← (uh BB).cell (p := ⟨b, off + k * 11 + 1, none⟩) hbw] at d1
       rw [← (uh BB).cell (p := ⟨b, off + k * 11 + 2, none⟩) hbw] at d2
       rw [← (uh BB).cell (p := ⟨b, off + k * 11 + 3, none⟩) hbw] at d3
       rw [← (uh BB).cell (p := ⟨b, off + k * 11 + 4, none⟩) hbw] at d4
       rw [← (uh BB).cell (p := ⟨b, off + k * 11 + 5, none⟩) hbw] at d5
       rw [← (uh BB).cell (p := ⟨b, off + k * 11 + 6, none⟩) hbw] at d6
       rw [← (uh BB).cell (p := ⟨b, off + k * 11 + 7, none⟩) hbw] at d7
       rw [← (uh BB).cell (p := ⟨b, off + k * 11 + 8, none⟩) hbw] at d8
       rw [← (uh BB).cell (p := ⟨b, off + k * 11 + 9, none⟩) hbw] at d9
       rw [← (uh BB).cell (p := ⟨b, off + k * 11 + 10, none⟩) hbw] at d10
       clear hcl
       have HU := hide (show upSmiths m (k + 1) = (upSmiths m k && (hereB m (recAt m.smiths k) && seatB m (recAt m.smiths k))) from all_up k)
       have HL := hide (looseB_smith (m := m) hlt)
       generalize recAt m.smiths k = ss at *
       obtain ⟨st, be, rk, my, gu, lo, hi, hd, ca, ut, wk⟩ := ss
       simp only at d0 d1 d2 d3 d4 d5 d6 d7 d8 d9 d10
       have hl0 : w.heap.size < wr.heap.size := (uh kb).lt
       go_wp2_with fail
       clear c1 c2 c3 d0 d1 d2 d3 d4 d5 d6 d7 d8 d9 d10
       obtain ⟨qs, hqs⟩ : ∃ q, smithB (st, be, rk, my, gu, lo, hi, hd, ca, ut, wk) = q := ⟨_, rfl⟩
       have Hqs := hide hqs
       clear hqs
       refine ck (specSmithOk_q (uh Hqs) _) fun w1 hb => ?_
       have ks : Hid (Blk w1 wr.heap.size 39 (I11 st be rk my gu lo hi hd ca ut wk)) := hide ((Blk.new wr _ _).below hb (by simp))
       replace kb := hide (((uh kb).alloc (.cells (I11 st be rk my gu lo hi hd ca ut wk) 39)).below hb (by simp; omega))
       replace BB := hide ((((uh BB).alloc (uh BB).size (.cells (I11 st be rk my gu lo hi hd ca ut wk) 39))).trans (hb.mono (by simp; have := (uh BB).size; omega)))
       clear hb hl0
       generalize wr.heap.size = sb at *
       have c1 := (uh kb).cell (i := 1) (v := .slice a1 m.guilds.length p1) rfl
       have c3 := (uh kb).cell (i := 3) (v := .slice a3 m.desks.length p3) rfl
       have d0 := (uh ks).cell (i := 0) (v := .int .i64 st) rfl
       have d1 := (uh ks).cell (i := 1) (v := .int .i64 be) rfl
       have d4 := (uh ks).cell (i := 4) (v := .int .i64 gu) rfl
       cases qs
       ·go_wp2_with fail
        go_ret
        exact ⟨ret_bool (uh HL (by unfold hereB; rw [uh Hqs]; rfl)).symm, uh BB⟩
       ·by_cases hst : st = 0
        ·subst hst
         have hne : ((0 : Int) != 0) = false := rfl
         go_wp2_with fail
         have Hps : Hid (presS (0, be, rk, my, gu, lo, hi, hd, ca, ut, wk) = false) := hide rfl
         have e0 := cell_regrown ((uh ks).cell (i := 0) (v := .int .i64 0) rfl)
         have e1 := cell_regrown ((uh ks).cell (i := 1) (v := .int .i64 be) rfl)
         have e2 := cell_regrown ((uh ks).cell (i := 2) (v := .int .i64 rk) rfl)
         have e3 := cell_regrown ((uh ks).cell (i := 3) (v := .int .i64 my) rfl)
         have e4 := cell_regrown ((uh ks).cell (i := 4) (v := .int .i64 gu) rfl)
         have e5 := cell_regrown ((uh ks).cell (i := 5) (v := .int .i64 lo) rfl)
         have e6 := cell_regrown ((uh ks).cell (i := 6) (v := .int .i64 hi) rfl)
         have e7 := cell_regrown ((uh ks).cell (i := 7) (v := .int .i64 hd) rfl)
         have e8 := cell_regrown ((uh ks).cell (i := 8) (v := .int .i64 ca) rfl)
         have e9 := cell_regrown ((uh ks).cell (i := 9) (v := .int .i64 ut) rfl)
         have e10 := cell_regrown ((uh ks).cell (i := 10) (v := .int .i64 wk) rfl)
         refine wq ?_
         repeat (go_big_quiet_step (first | exact Calls.regrown_of (l11Present_q (uh Hps) _)))
         refine wqn fun W1 hb => ?_
         replace kb := bl kb hb
         replace BB := bt BB hb
         clear hb
         go_wp2_with fail
         go_roundw
         case rel => exact ⟨k + 1, by omega, by go_num, by rw [uh HU, uh Hup]; unfold hereB seatB; rw [uh Hqs, uh Hps]; rfl, uh kb, uh BB⟩
         case measure => exact ms
        have hne : (st != 0) = true := by simpa using hst
        by_cases hgu : (m.guilds.length : Int) ≤ gu
        ·go_wp2_with fail
         go_ret
         exact ⟨ret_bool (uh HL (by unfold hereB; rw [uh Hqs]; simp [hst]; intro h9; omega)).symm, uh BB⟩
        by_cases hbe : (m.desks.length : Int) ≤ be
        ·go_wp2_with fail
         go_ret
         exact ⟨ret_bool (uh HL (by unfold hereB; rw [uh Hqs]; simp [hst]; intro h9; omega)).symm, uh BB⟩
        go_wp2_with fail
        have Hh : Hid (hereB m (st, be, rk, my, gu, lo, hi, hd, ca, ut, wk) = true) := hide (by unfold hereB; rw [uh Hqs]; simp; omega)
        obtain ⟨ps, hps⟩ : ∃ q, presS (st, be, rk, my, gu, lo, hi, hd, ca, ut, wk) = q := ⟨_, rfl⟩
        have Hps := hide hps
        clear hps
        have e0 := cell_regrown ((uh ks).cell (i := 0) (v := .int .i64 st) rfl)
        have e1 := cell_regrown ((uh ks).cell (i := 1) (v := .int .i64 be) rfl)
        have e2 := cell_regrown ((uh ks).cell (i := 2) (v := .int .i64 rk) rfl)
        have e3 := cell_regrown ((uh ks).cell (i := 3) (v := .int .i64 my) rfl)
        have e4 := cell_regrown ((uh ks).cell (i := 4) (v := .int .i64 gu) rfl)
        have e5 := cell_regrown ((uh ks).cell (i := 5) (v := .int .i64 lo) rfl)
        have e6 := cell_regrown ((uh ks).cell (i := 6) (v := .int .i64 hi) rfl)
        have e7 := cell_regrown ((uh ks).cell (i := 7) (v := .int .i64 hd) rfl)
        have e8 := cell_regrown ((uh ks).cell (i := 8) (v := .int .i64 ca) rfl)
        have e9 := cell_regrown ((uh ks).cell (i := 9) (v := .int .i64 ut) rfl)
        have e10 := cell_regrown ((uh ks).cell (i := 10) (v := .int .i64 wk) rfl)
        have e11 := cell_regrown ((uh kb).cell (i := 3) (v := .slice a3 m.desks.length p3) rfl)
        cases ps
        ·refine wq ?_
         repeat (go_big_quiet_step (first | exact Calls.regrown_of (l11Present_q (uh Hps) _)))
         refine wqn fun W1 hb => ?_
         replace kb := bl kb hb
         replace BB := bt BB hb
         clear hb
         go_wp2_with fail
         go_roundw
         case rel => exact ⟨k + 1, by omega, by go_num, by rw [uh HU, uh Hup]; rw [uh Hh]; unfold seatB; rw [uh Hps]; rfl, uh kb, uh BB⟩
         case measure => exact ms
        obtain ⟨b0, b1, b2, m0, m1, _⟩ := hereB_of (uh Hh) (uh Hps)
        simp only at b0 b1 b2 m0 m1
        obtain ⟨j, rfl⟩ : ∃ j : Nat, be = j := ⟨be.toNat, by omega⟩
        have hj : j < m.desks.length := by omega
        rcases uh R3 with e9 | ⟨b', off', rfl, hbw', hcl'⟩
        ·rw [e9] at hj; simp at hj
        obtain ⟨t0, _, t2⟩ := desk_cells hcl' hj
        rw [← (uh BB).cell (p := ⟨b', off' + j * 3, none⟩) hbw'] at t0
        rw [← (uh BB).cell (p := ⟨b', off' + j * 3 + 2, none⟩) hbw'] at t2
        clear hcl'
        have HS := hide (show seatB m (st, (j : Int), rk, my, gu, lo, hi, hd, ca, ut, wk) = (!presS (st, (j : Int), rk, my, gu, lo, hi, hd, ca, ut, wk) || ((recAt m.desks j).1 && (bitB my j && bandB hd (recAt m.desks j).2.2))) from rfl)
        generalize recAt m.desks j = dd at *
        obtain ⟨op, who, mk⟩ := dd
        simp only at t0 t2
        have t0 := cell_regrown t0
        have t2 := cell_regrown t2
        obtain ⟨qb, hqb⟩ : ∃ q, bitB my j = q := ⟨_, rfl⟩
        have Hbit := hide hqb
        obtain ⟨qd, hqd⟩ : ∃ q, bandB hd mk = q := ⟨_, rfl⟩
        have Hbd := hide hqd
        clear hqb hqd
        have HS2 := uh HS
        simp only [uh Hps, uh Hbit, uh Hbd] at HS2
        have HS3 := hide HS2
        clear HS HS2
        cases op
        ·refine wq ?_
         repeat (go_big_quiet_step (first | exact Calls.regrown_of (l11Present_q (uh Hps) _) | exact Calls.regrown_of (l2Has_q (uh Hbit) (by omega) (by omega) (by omega) (by omega) _) | exact Calls.regrown_of (specInBand_q (uh Hbd) _)))
         refine wqn fun W1 hb => ?_
         replace kb := bl kb hb
         replace BB := bt BB hb
         clear hb
         go_wp2_with fail
         go_ret
         exact ⟨ret_bool (uh HL (by rw [uh HS3]; simp)).symm, uh BB⟩
        cases qb
        ·refine wq ?_
         repeat (go_big_quiet_step (first | exact Calls.regrown_of (l11Present_q (uh Hps) _) | exact Calls.regrown_of (l2Has_q (uh Hbit) (by omega) (by omega) (by omega) (by omega) _) | exact Calls.regrown_of (specInBand_q (uh Hbd) _)))
         refine wqn fun W1 hb => ?_
         replace kb := bl kb hb
         replace BB := bt BB hb
         clear hb
         go_wp2_with fail
         go_ret
         exact ⟨ret_bool (uh HL (by rw [uh HS3]; simp)).symm, uh BB⟩
        cases qd
        ·refine wq ?_
         repeat (go_big_quiet_step (first | exact Calls.regrown_of (l11Present_q (uh Hps) _) | exact Calls.regrown_of (l2Has_q (uh Hbit) (by omega) (by omega) (by omega) (by omega) _) | exact Calls.regrown_of (specInBand_q (uh Hbd) _)))
         refine wqn fun W1 hb => ?_
         replace kb := bl kb hb
         replace BB := bt BB hb
         clear hb
         go_wp2_with fail
         go_ret
         exact ⟨ret_bool (uh HL (by rw [uh HS3]; simp)).symm, uh BB⟩
        refine wq ?_
        repeat (go_big_quiet_step (first | exact Calls.regrown_of (l11Present_q (uh Hps) _) | exact Calls.regrown_of (l2Has_q (uh Hbit) (by omega) (by omega) (by omega) (by omega) _) | exact Calls.regrown_of (specInBand_q (uh Hbd) _)))
        refine wqn fun W1 hb => ?_
        replace kb := bl kb hb
        replace BB := bt BB hb
        clear hb
        go_wp2_with fail
        go_roundw
        case rel => exact ⟨k + 1, by omega, by go_num, by rw [uh HU, uh Hup]; rw [uh Hh, uh HS3]; rfl, uh kb, uh BB⟩
        case measure => exact ms
      ·obtain rfl : k = m.smiths.length := by omega
       go_wp2_with fail
       go_ret
       exact ⟨ret_bool (by rw [looseB_all (uh QH) (uh QD) (uh QP) (uh Hup)]; exact (uh Hob).symm), uh BB⟩
theorem scan_none {ss : List SmithV} {b : Int} {k : Nat} (h : scanV ss b k = none) : ∀ n, k ≤ n → scanV ss b n = none
  | 0, hn => by obtain rfl : k = 0 := by omega
                exact h
  | n + 1, hn => by
    by_cases e : k = n + 1
    · rw [← e]; exact h
    · have := scan_none h n (by omega)
      unfold scanV; rw [this]
theorem scan_skip {ss : List SmithV} {b wk : Int} {wt : Bool} {k : Nat} (h : scanV ss b k = some (wk, wt)) (hs : ¬ ((recAt ss k).2.1 = b ∧ presS (recAt ss k) = true)) : scanV ss b (k + 1) = some (wk, wt) := by
  unfold scanV; rw [h]; simp only [if_neg hs]
theorem scan_wait {ss : List SmithV} {b wk : Int} {wt : Bool} {k : Nat} (h : scanV ss b k = some (wk, wt)) (h1 : (recAt ss k).2.1 = b) (h2 : presS (recAt ss k) = true) (h3 : (recAt ss k).1 = 2) : scanV ss b (k + 1) = some (wk, true) := by
  unfold scanV; rw [h]; simp only [if_pos (And.intro h1 h2), if_pos h3]
theorem scan_two {ss : List SmithV} {b wk : Int} {wt : Bool} {k : Nat} (h : scanV ss b k = some (wk, wt)) (h1 : (recAt ss k).2.1 = b) (h2 : presS (recAt ss k) = true) (h3 : ¬ (recAt ss k).1 = 2) (h4 : 0 ≤ wk) : scanV ss b (k + 1) = none := by
  unfold scanV; rw [h]; simp only [if_pos (And.intro h1 h2), if_neg h3, if_pos h4]
theorem scan_work {ss : List SmithV} {b wk : Int} {wt : Bool} {k : Nat} (h : scanV ss b k = some (wk, wt)) (h1 : (recAt ss k).2.1 = b) (h2 : presS (recAt ss k) = true) (h3 : ¬ (recAt ss k).1 = 2) (h4 : ¬ 0 ≤ wk) : scanV ss b (k + 1) = some ((k : Int), wt) := by
  unfold scanV; rw [h]; simp only [if_pos (And.intro h1 h2), if_neg h3, if_neg h4]
theorem smyB_loose {m : SmyV} (h : looseB m = false) : smyB m = false := by unfold smyB; rw [h]; rfl
theorem smyB_bench {m : SmyV} {k : Nat} (hk : k < m.desks.length) (h : benchOkB m k = false) : smyB m = false := by unfold smyB; rw [all_no hk h]; simp
theorem smyB_all {m : SmyV} (h : looseB m = true) (h2 : (List.range m.desks.length).all (benchOkB m) = true) : smyB m = true := by unfold smyB; rw [h, h2]; rfl
theorem benchOkB_none {m : SmyV} {k : Nat} (h : scanV m.smiths k m.smiths.length = none) : benchOkB m k = false := by unfold benchOkB; rw [h]
theorem benchOkB_some {m : SmyV} {k : Nat} {wk : Int} {wt : Bool} (h : scanV m.smiths k m.smiths.length = some (wk, wt)) : benchOkB m k = ((recAt m.desks k).2.1 == wk && !(wt && decide (wk < 0))) := by unfold benchOkB; rw [h]
theorem l11Loose_q {w : World} {v0 v1 v2 v3 v4 : Value} {m : SmyV} {q : Bool} (hq : looseB m = q) (h : Smy w v0 v1 v2 v3 v4 m) :
    Calls Tryz.prog 43 #[.agg #[v0, v1, v2, v3, v4, .int .i64 m.now]] w fun e w' => e = .returned (.bool q) ∧ Below w.heap.size w w' := by
  have := l11Loose_any h; rw [hq] at this; exact this
theorem specSmithyOk_any {w : World} {v0 v1 v2 v3 v4 : Value} {m : SmyV} (h : Smy w v0 v1 v2 v3 v4 m) :
    Calls Tryz.prog 12 #[.agg #[v0, v1, v2, v3, v4, .int .i64 m.now]] w fun e w' => e = .returned (.bool (smyB m)) ∧ Below w.heap.size w w' := by
  have Hv := hide (h.alloc (.cells #[v0, v1, v2, v3, v4, .int .i64 m.now] 32))
  obtain ⟨h0, h1, h2, h3, h4⟩ := h
  obtain ⟨a0, p0, rfl, hc0, hm0, _⟩ := h0
  obtain ⟨a1, p1, rfl, hc1, hm1, _⟩ := h1
  obtain ⟨a2, p2, rfl, hc2, hm2, r2⟩ := h2
  obtain ⟨a3, p3, rfl, hc3, hm3, r3⟩ := h3
  obtain ⟨a4, p4, rfl, hc4, hm4, _⟩ := h4
  have R2 := hide r2
  have R3 := hide r3
  clear r2 r3
  obtain ⟨ql, hql⟩ : ∃ q, looseB m = q := ⟨_, rfl⟩
  have QL := hide hql
  clear hql
  go_enter Tryz.func12, Tryz.ntmps12
  go_wp2_with fail
  refine ck (l11Loose_q (uh QL) (uh Hv)) fun w1 hb => ?_
  have kb : Hid (Blk w1 w.heap.size 32 (S6 a0 p0 a1 p1 a2 p2 a3 p3 a4 p4 m)) := hide ((Blk.new w _ _).below hb (by simp))
  have BB : Hid (Below w.heap.size w w1) := hide (((ba _ _)).trans (hb.mono (by simp)))
  clear hb Hv
  have c3 := (uh kb).cell (i := 3) (v := .slice a3 m.desks.length p3) rfl
  cases ql
  · go_wp2_with fail
    go_ret
    exact ⟨ret_bool (smyB_loose (uh QL)).symm, uh BB⟩
  go_wp2_with fail
  clear c3
  go_loopw [3] (fun b wr => ∃ k : Nat, k ≤ m.desks.length ∧ b = .int .i64 k ∧ (List.range k).all (benchOkB m) = true ∧ Blk wr w.heap.size 32 (S6 a0 p0 a1 p1 a2 p2 a3 p3 a4 p4 m) ∧ Below w.heap.size w wr) (fun b _ => m.desks.length - (intOf b).toNat)
  case atStart => exact ⟨0, Nat.zero_le _, rfl, rfl, uh kb, uh BB⟩
  case round =>
    obtain ⟨j, hj, rfl, hup, kb1, hb1⟩ := hrel
    clear kb BB
    have kb := hide kb1
    have BB := hide hb1
    have Hup := hide hup
    clear kb1 hb1 hup
    have c3 := (uh kb).cell (i := 3) (v := .slice a3 m.desks.length p3) rfl
    by_cases hlt : j < m.desks.length
    · have c2 := (uh kb).cell (i := 2) (v := .slice a2 m.smiths.length p2) rfl
      go_wp2_with fail
      clear c2 c3
      obtain ⟨wo, rfl⟩ : ∃ wo, wo = wr := ⟨wr, rfl⟩
      go_loopw [4, 5, 6] (fun x y i wr => ∃ (k : Nat) (wk : Int) (wt : Bool), k ≤ m.smiths.length ∧ x = .int .i64 wk ∧ y = .bool wt ∧ i = .int .i64 k ∧ -1 ≤ wk ∧ wk ≤ (k : Int) ∧ scanV m.smiths j k = some (wk, wt) ∧ Blk wr w.heap.size 32 (S6 a0 p0 a1 p1 a2 p2 a3 p3 a4 p4 m) ∧ Below w.heap.size w wr) (fun _ _ i _ => m.smiths.length - (intOf i).toNat)
      case atStart => exact ⟨0, -1, false, Nat.zero_le _, rfl, rfl, rfl, by omega, by omega, rfl, uh kb, uh BB⟩
      case round =>
        obtain ⟨k, wkk, wt, hk, rfl, rfl, rfl, wk0, wk1, hsc, kb1, hb1⟩ := hrel
        clear kb BB
        have kb := hide kb1
        have BB := hide hb1
        have Hsc := hide hsc
        clear kb1 hb1 hsc
        have c2 := (uh kb).cell (i := 2) (v := .slice a2 m.smiths.length p2) rfl
        by_cases hls : k < m.smiths.length
        · rcases uh R2 with e0 | ⟨b, off, rfl, hbw, hcl⟩
          · rw [e0] at hls; simp at hls
          obtain ⟨d0, d1, d2, d3, d4, d5, d6, d7, d8, d9, d10⟩ := smith_cells hcl hls
          rw [← (uh BB).cell (p := ⟨b, off + k * 11, none⟩) hbw] at d0
          rw [← (uh BB).cell (p := ⟨b, off + k * 11 + 1, none⟩) hbw] at d1
          rw [← (uh BB).cell (p := ⟨b, off + k * 11 + 2, none⟩) hbw] at d2
          rw [← (uh BB).cell (p := ⟨b, off + k * 11 + 3, none⟩) hbw] at d3
          rw [← (uh BB).cell (p := ⟨b, off + k * 11 + 4, none⟩) hbw] at d4
          rw [← (uh BB).cell (p := ⟨b, off + k * 11 + 5, none⟩) hbw] at d5
          rw [← (uh BB).cell (p := ⟨b, off + k * 11 + 6, none⟩) hbw] at d6
          rw [← (uh BB).cell (p := ⟨b, off + k * 11 + 7, none⟩) hbw] at d7
          rw [← (uh BB).cell (p := ⟨b, off + k * 11 + 8, none⟩) hbw] at d8
          rw [← (uh BB).cell (p := ⟨b, off + k * 11 + 9, none⟩) hbw] at d9
          rw [← (uh BB).cell (p := ⟨b, off + k * 11 + 10, none⟩) hbw] at d10
          clear hcl
          have S1 := hide (fun hs => scan_skip (uh Hsc) hs)
          have S2 := hide (fun h1 h2 h3 => scan_wait (uh Hsc) h1 h2 h3)
          have S3 := hide (fun h1 h2 h3 h4 => scan_two (uh Hsc) h1 h2 h3 h4)
          have S4 := hide (fun h1 h2 h3 h4 => scan_work (uh Hsc) h1 h2 h3 h4)
          generalize recAt m.smiths k = ss at *
          obtain ⟨st, be, rk, my, gu, lo, hi, hd, ca, ut, wk⟩ := ss
          simp only at d0 d1 d2 d3 d4 d5 d6 d7 d8 d9 d10
          have hl0 : w.heap.size < wr.heap.size := (uh kb).lt
          by_cases hbe : be = (j : Int)
          rotate_left
          · have hbn : (be != (j : Int)) = true := by simpa using hbe
            go_wp2_with fail
            go_roundw
            case rel => exact ⟨k + 1, wkk, wt, by omega, rfl, rfl, by go_num, by omega, by omega, uh S1 (fun h9 => hbe h9.1), (uh kb).alloc _, (uh BB).alloc (uh BB).size _⟩
            case measure => exact ms
          subst hbe
          have hbn : ((j : Int) != (j : Int)) = false := by simp
          obtain ⟨ps, hps⟩ : ∃ q, presS (st, (j : Int), rk, my, gu, lo, hi, hd, ca, ut, wk) = q := ⟨_, rfl⟩
          have Hps := hide hps
          clear hps
          go_wp2_with fail
          clear c2 d0 d1 d2 d3 d4 d5 d6 d7 d8 d9 d10
          refine ck (l11Present_q (uh Hps) _) fun w2 hb => ?_
          have ks : Hid (Blk w2 wr.heap.size 39 (I11 st (j : Int) rk my gu lo hi hd ca ut wk)) := hide ((Blk.new wr _ _).below hb (by simp))
          replace kb := hide (((uh kb).alloc (.cells (I11 st (j : Int) rk my gu lo hi hd ca ut wk) 39)).below hb (by simp; omega))
          replace BB := hide ((((uh BB).alloc (uh BB).size (.cells (I11 st (j : Int) rk my gu lo hi hd ca ut wk) 39))).trans (hb.mono (by simp; have := (uh BB).size; omega)))
          clear hb hl0
          have d0 := (uh ks).cell (i := 0) (v := .int .i64 st) rfl
          cases ps
          · go_wp2_with fail
            go_roundw
            case rel => exact ⟨k + 1, wkk, wt, by omega, rfl, rfl, by go_num, by omega, by omega, uh S1 (fun h9 => by have h8 := h9.2; rw [uh Hps] at h8; cases h8), uh kb, uh BB⟩
            case measure => exact ms
          by_cases hst : st = 2
          · subst hst
            go_wp2_with fail
            go_roundw
            case rel => exact ⟨k + 1, wkk, true, by omega, rfl, rfl, by go_num, by omega, by omega, uh S2 (by first | rfl | trivial) (uh Hps) (by first | rfl | trivial), uh kb, uh BB⟩
            case measure => exact ms
          have hsn : (st == 2) = false := by simpa using hst
          by_cases hw0 : 0 ≤ wkk
          · go_wp2_with fail
            go_ret
            exact ⟨ret_bool (smyB_bench hlt (benchOkB_none (scan_none (uh S3 (by first | rfl | trivial) (uh Hps) hst hw0) _ (by omega)))).symm, uh BB⟩
          go_wp2_with fail
          go_roundw
          case rel => exact ⟨k + 1, (k : Int), wt, by omega, rfl, rfl, by go_num, by omega, by omega, uh S4 (by first | rfl | trivial) (uh Hps) hst hw0, uh kb, uh BB⟩
          case measure => exact ms
        · obtain rfl : k = m.smiths.length := by omega
          have c3 := (uh kb).cell (i := 3) (v := .slice a3 m.desks.length p3) rfl
          rcases uh R3 with e0 | ⟨b', off', rfl, hbw', hcl'⟩
          · rw [e0] at hlt; simp at hlt
          obtain ⟨_, t1, _⟩ := desk_cells hcl' hlt
          rw [← (uh BB).cell (p := ⟨b', off' + j * 3 + 1, none⟩) hbw'] at t1
          clear hcl'
          have HB := hide (benchOkB_some (uh Hsc))
          have HL := hide (smyB_bench (m := m) hlt)
          have HU := hide (show (List.range (j + 1)).all (benchOkB m) = ((List.range j).all (benchOkB m) && benchOkB m j) from all_up j)
          generalize recAt m.desks j = dd at *
          obtain ⟨op, who, mk⟩ := dd
          simp only at t1
          by_cases hwho : who = wkk
          rotate_left
          · have hwn : (who != wkk) = true := by simpa using hwho
            go_wp2_with fail
            go_ret
            exact ⟨ret_bool (uh HL (by rw [uh HB]; simp [hwho])).symm, uh BB⟩
          have hwn : (who != wkk) = false := by simpa using hwho
          have Hwho := hide hwho
          clear hwho
          cases wt
          · go_wp2_with fail
            go_roundw
            case rel => exact ⟨j + 1, by omega, by go_num, by rw [uh HU, uh Hup, uh HB, uh Hwho]; simp, uh kb, uh BB⟩
            case measure => exact ms
          by_cases hw0 : wkk < 0
          · go_wp2_with fail
            go_ret
            exact ⟨ret_bool (uh HL (by rw [uh HB]; simp [hw0])).symm, uh BB⟩
          go_wp2_with fail
          go_roundw
          case rel => exact ⟨j + 1, by omega, by go_num, by rw [uh HU, uh Hup, uh HB, uh Hwho]; simp; omega, uh kb, uh BB⟩
          case measure => exact ms
    · obtain rfl : j = m.desks.length := by omega
      go_wp2_with fail
      go_ret
      exact ⟨ret_bool (smyB_all (uh QL) (uh Hup)).symm, uh BB⟩
theorem turnK_loose {m : SmyV} (h : Loose m) (k : Nat) (hk : k ≤ m.desks.length) : Loose (turnK m k) := by
 obtain ⟨e1, e2, e3, e4, e5, e6⟩ := turnK_same m k
 have hd := fun j => turnK_desk m j k hk
 have hopen : ∀ j, (recAt (turnK m k).desks j).1 = (recAt m.desks j).1 := by
  intro j
  rw [hd j]
  split
  ·unfold turnedD; split <;> rfl
  ·rfl
 have hmark : ∀ j, j < m.desks.length → (-900000000000 ≤ (recAt (turnK m k).desks j).2.2 ∧ (recAt (turnK m k).desks j).2.2 ≤ 900000000000) ∧ (recAt m.desks j).2.2 ≤ (recAt (turnK m k).desks j).2.2 ∧ ((recAt (turnK m k).desks j).2.2 ≤ (recAt m.desks j).2.2 ∨ ∀ i, i < m.smiths.length → (recAt m.smiths i).2.1 = (j : Int) → presS (recAt m.smiths i) = true → (recAt (turnK m k).desks j).2.2 ≤ hadS (recAt m.smiths i)) := by
  intro j hj
  obtain ⟨k0, k1⟩ := deskB_of (h.desk j hj)
  rw [hd j]
  split
  ·unfold turnedD
   split
   ·exact ⟨⟨k0, k1⟩, Int.le_refl _, .inl (Int.le_refl _)⟩
   ·rename_i e t hq
    obtain ⟨_, i, hi, hib, hip, rfl⟩ := firstAt_some hq
    obtain ⟨_, _, _, _, hband⟩ := h.at hi hip
    obtain ⟨a0, a1, _⟩ := bandB_of hband
    have hm := marked_in (m := (recAt m.desks j).2.2) (f := hadS (recAt m.smiths i)) (by omega) (by omega) a0 a1
    show (-900000000000 ≤ markedV _ _ ∧ markedV _ _ ≤ 900000000000) ∧ _ ≤ markedV _ _ ∧ (markedV _ _ ≤ _ ∨ _)
    rw [hm]
    refine ⟨by omega, by omega, ?_⟩
    by_cases hc : hadS (recAt m.smiths i) ≤ (recAt m.desks j).2.2
    ·left; omega
    ·right
     intro i' hi' hb' hp'
     have := first_least hq hi' hb' hp'
     simp only at this
     show min (max (recAt m.desks j).2.2 (hadS (recAt m.smiths i))) 900000000000 ≤ _
     omega
  ·exact ⟨⟨k0, k1⟩, Int.le_refl _, .inl (Int.le_refl _)⟩
 refine ⟨?_, ?_, ?_, ?_, ?_, ?_⟩
 ·have := h.head
  unfold headB at this ⊢
  rw [e1, e2, e3, e4, e5, e6]
  exact this
 ·intro j hj
  have hj' : j < m.desks.length := by omega
  exact inB_t (hmark j hj').1.1 (hmark j hj').1.2
 ·intro j hj
  have hj' : j < m.paces.length := by rw [e3] at hj; exact hj
  have := h.pace j hj'
  unfold paceInB at this ⊢
  rw [e1, e3]
  exact this
 ·intro i hi
  have hi' : i < m.smiths.length := by omega
  rw [hereB_same (m := m) (by rw [e2]) (by rw [e6])]
  rw [turnK_smith m hi']
  split
  ·rename_i hp
   exact hereB_st (h.here i hi') hp.2 (by split <;> omega) (by split <;> omega)
  ·exact h.here i hi'
 ·intro i hi
  have hi' : i < m.smiths.length := by omega
  have ha := turnK_alike m k i hi'
  unfold seatB
  show (!presS (recAt (turnK m k).smiths i) || _) = true
  rw [ha.2.1]
  cases hp : presS (recAt m.smiths i)
  ·rfl
  ·obtain ⟨b0, b1, ho, hm, hband⟩ := h.at hi' hp
   obtain ⟨a0, a1, a2, a3, a4, a5⟩ := bandB_of hband
   obtain ⟨⟨q0, q1⟩, q2, q3⟩ := hmark (recAt m.smiths i).2.1.toNat (by omega)
   have hmay : (recAt (turnK m k).smiths i).2.2.2.1 = (recAt m.smiths i).2.2.2.1 := by
    rw [turnK_smith m hi']; split <;> rfl
   show (!true || ((recAt (turnK m k).desks (recAt (turnK m k).smiths i).2.1.toNat).1 && (bitB (recAt (turnK m k).smiths i).2.2.2.1 (recAt (turnK m k).smiths i).2.1 && bandB (hadS (recAt (turnK m k).smiths i)) (recAt (turnK m k).desks (recAt (turnK m k).smiths i).2.1.toNat).2.2))) = true
   rw [ha.1, ha.2.2, hmay, hopen, ho, hm]
   rw [bandB_t a0 a1 (by omega) (by omega) ?_ (by omega)]
   ·rfl
   ·rcases q3 with q3 | q3
    ·omega
    ·have := q3 i hi' (by omega) hp
     omega
 ·obtain ⟨j, hj, ho⟩ := h.openD
  exact ⟨j, by omega, by rw [hopen]; exact ho⟩
theorem recs_ext {α : Type} [Inhabited α] {xs ys : List α} (hl : xs.length = ys.length) (h : ∀ i, i < xs.length → recAt xs i = recAt ys i) : xs = ys := by
 apply List.ext_getElem hl
 intro i h1 h2
 have := h i h1
 unfold recAt at this
 rwa [List.getD_eq_getElem?_getD, List.getD_eq_getElem?_getD, List.getElem?_eq_getElem h1, List.getElem?_eq_getElem h2] at this
theorem turn_way {ss : List SmithV} {b : Int} {e : PaceV} {t : List PaceV} (h : atV ss b ss.length = e :: t) : (waitAll ss (e :: t)).set e.2.toNat (stS (recAt (waitAll ss (e :: t)) e.2.toNat) 3) = waitAll (ss.set e.2.toNat (stS (recAt ss e.2.toNat) 3)) t := by
 have hmem : ∀ x ∈ e :: t, 0 ≤ x.2 ∧ x.2 < ss.length := fun x hx => by
  rw [← h] at hx
  obtain ⟨i, hi, _, _, rfl⟩ := (atV_mem ss b x ss.length).1 hx
  exact ⟨by show (0 : Int) ≤ (i : Int); omega, by show (i : Int) < _; omega⟩
 have hw := atV_whos ss b ss.length
 rw [h, List.pairwise_cons] at hw
 obtain ⟨he0, he1⟩ := hmem e (List.mem_cons_self ..)
 have hel : e.2.toNat < ss.length := by omega
 have hse : ∀ x ∈ t, 0 ≤ x.2 ∧ x.2 < (ss.set e.2.toNat (stS (recAt ss e.2.toNat) 3)).length := fun x hx => by rw [List.length_set]; exact hmem x (List.mem_cons_of_mem _ hx)
 refine recs_ext (by rw [List.length_set, waitAll_len, waitAll_len, List.length_set]) fun i hi => ?_
 rw [List.length_set, waitAll_len] at hi
 rw [recAt_set (by rw [waitAll_len]; exact hel)]
 obtain ⟨p1, p2⟩ := waitAll_at (e :: t) ss i hmem
 obtain ⟨r1, r2⟩ := waitAll_at t (ss.set e.2.toNat (stS (recAt ss e.2.toNat) 3)) i hse
 by_cases hie : i = e.2.toNat
 ·subst hie
  have hn : ∀ x ∈ t, x.2 ≠ ((e.2.toNat : Nat) : Int) := fun x hx e9 => hw.1 x hx (by omega)
  rw [if_pos rfl, r2 hn, recAt_set hel, if_pos rfl, p1 ⟨e, List.mem_cons_self .., by omega⟩]
  rfl
 ·rw [if_neg hie]
  by_cases hx : ∃ x ∈ t, x.2 = (i : Int)
  ·obtain ⟨x, hx, hxi⟩ := hx
   rw [p1 ⟨x, List.mem_cons_of_mem _ hx, hxi⟩, r1 ⟨x, hx, hxi⟩, recAt_set hel, if_neg hie]
  ·have hn : ∀ x ∈ t, x.2 ≠ (i : Int) := fun x hx' e9 => hx ⟨x, hx', e9⟩
   rw [p2 (fun x hx' => by
    rcases List.mem_cons.1 hx' with rfl | hx'
    ·omega
    ·exact hn x hx'), r2 hn, recAt_set hel, if_neg hie]
def turnedV (m : SmyV) : SmyV := if looseB m then turnV m else zeroM
theorem infoEntry : (Tryz.prog.info? 151).map (fun i => (i.zero, i.size, i.bytes)) = some (some (.agg #[.int .i64 0, .int .i64 0]), 2, 16) := by kernel_rfl
theorem pcells_len (ps : List PaceV) : (pcells ps).length = ps.length * 2 := by unfold pcells; exact pairs_len ps
theorem pcells_append (ps qs : List PaceV) : pcells (ps ++ qs) = pcells ps ++ pcells qs := by unfold pcells; rw [List.flatMap_append]
theorem pcells_take : ∀ (ps : List PaceV) (n : Nat), pcells (ps.take n) = (pcells ps).take (n * 2)
 | [], n => by simp [pcells]
 | p :: ps, 0 => by simp [pcells]
 | p :: ps, n + 1 => by
  have ih := pcells_take ps n
  unfold pcells at ih ⊢
  rw [show (n + 1) * 2 = n * 2 + 2 by omega]
  simpa using ih
def EntsAt (n₀ : Nat) (w : World) (v : Value) (ps : List PaceV) : Prop := w.ownsRow n₀ 151 2 v ps.length (pcells ps)
theorem EntsAt.lt {n₀ : Nat} {w : World} {v : Value} {ps : List PaceV} (h : EntsAt n₀ w v ps) {k : Nat} (hk : v.ownBlock = some k) : n₀ ≤ k ∧ k < w.heap.size := World.ownsRow.lt h k hk
theorem EntsAt.mono {n₀ n₁ : Nat} {w : World} {v : Value} {ps : List PaceV} (h : EntsAt n₀ w v ps) (hn : n₁ ≤ n₀) : EntsAt n₁ w v ps := own_mono h hn
theorem EntsAt.same {n₀ : Nat} {w w' : World} {v : Value} {ps : List PaceV} (h : EntsAt n₀ w v ps) (hs : ∀ k, v.ownBlock = some k → w'.heap[k]? = w.heap[k]?) : EntsAt n₀ w' v ps := own_same h hs
theorem EntsAt.later {n₀ : Nat} {w w' : World} {v : Value} {ps : List PaceV} (h : EntsAt n₀ w v ps) (hb : Below w.heap.size w w') : EntsAt n₀ w' v ps := h.same fun k hk => hb.block k (h.lt hk).2
theorem EntsAt.paces {n₀ : Nat} {w : World} {v : Value} {ps : List PaceV} (h : EntsAt n₀ w v ps) : IsPaces w v ps := by
 have h' := h
 rcases h.2 with ⟨rfl, hz⟩ | ⟨g, cap, cur, rfl, hb, hg, hnc, hcm, r⟩
 ·exact ⟨none, 0, by rw [hz], by omega, by omega, .inl (List.eq_nil_of_length_eq_zero hz)⟩
 ·refine ⟨_, cap, rfl, hnc, by unfold maxLen at hcm; omega, .inr ⟨g, 0, rfl, (Array.getElem?_eq_some_iff.1 hg).1, fun k hk => ?_⟩⟩
  have hp := pairs_get (f := fun p : PaceV => Value.int .i64 p.1) (g := fun p : PaceV => Value.int .i64 p.2) ps k hk
  have hat : paceAt ps k = ps[k] := by unfold paceAt; simp [List.getD, hk]
  rw [Nat.zero_add, hat]
  exact ⟨(World.ownsRow.cellAt h' (k * 2) (by omega)).trans hp.1, (World.ownsRow.cellAt h' (k * 2 + 1) (by omega)).trans hp.2⟩
theorem EntsAt.shape {n₀ : Nat} {w : World} {v : Value} {ps : List PaceV} (h : EntsAt n₀ w v ps) : ∃ a cap, v = .slice a ps.length cap := by
 rcases h.2 with ⟨rfl, hz⟩ | ⟨g, cap, cur, rfl, _⟩
 ·exact ⟨none, 0, by rw [hz]⟩
 ·exact ⟨_, cap, rfl⟩
theorem EntsAt.cut {n₀ : Nat} {w : World} {a : Option Addr} {len cap : Nat} {ps : List PaceV} (h : EntsAt n₀ w (.slice a len cap) ps) {n : Nat} (hn : n ≤ ps.length) (ha : a ≠ none) : EntsAt n₀ w (.slice a n cap) (ps.take n) := by
 have hl : (ps.take n).length = n := by simp; omega
 unfold EntsAt
 rw [hl, pcells_take]
 rcases h.2 with ⟨hv, hz⟩ | ⟨g, cap', cur, hv, hb, hg, hnc, hcm, hs, ht⟩
 ·cases hv; exact absurd rfl ha
 ·cases hv
  refine ⟨by rw [List.length_take, pcells_len]; omega, .inr ⟨g, cap, cur, rfl, hb, hg, by omega, hcm, hs, ?_⟩⟩
  rw [← ht, List.take_take]; congr 1; omega
theorem IsPaces.cut {w : World} {a : Option Addr} {len cap : Nat} {ps : List PaceV} (h : IsPaces w (.slice a len cap) ps) {n : Nat} (hn : n ≤ ps.length) : IsPaces w (.slice a n cap) (ps.take n) := by
 obtain ⟨a', cap', he, hc, hm, hr⟩ := h
 cases he
 have hl : (ps.take n).length = n := by simp; omega
 refine ⟨a, cap, by rw [hl], by omega, hm, ?_⟩
 rcases hr with hr | ⟨b, off, rfl, hlt, hcl⟩
 ·exact .inl (by rw [hr]; simp)
 ·refine .inr ⟨b, off, rfl, hlt, fun k hk => ?_⟩
  rw [paceAt_take (by omega)]
  exact hcl k (by omega)
theorem ltB_had {a b c d : Int} (h : a ≠ c) : ltB (a, b) (c, d) = decide (a < c) := by unfold ltB; simp; omega
theorem ltB_who {a b d : Int} : ltB (a, b) (a, d) = decide (b < d) := by unfold ltB; simp
theorem specLess_any (a b c d : Int) (w : World) : Calls Tryz.prog 234 #[.agg #[.int .i64 a, .int .i64 b], .agg #[.int .i64 c, .int .i64 d]] w fun e w' => e = .returned (.bool (ltB (a, b) (c, d))) ∧ Below w.heap.size w w' := by
 by_cases h : a = c
 ·subst h
  rw [ltB_who]
  go_enter Tryz.func234, Tryz.ntmps234
  go_wp2_with fail
  go_ret
  exact ⟨rfl, ((ba _ _)).alloc (by simp) _⟩
 ·rw [ltB_had h]
  have h' : (a == c) = false := by simpa using h
  have h2 : (a != c) = true := by simpa using h
  clear h
  go_enter Tryz.func234, Tryz.ntmps234
  go_wp2_with fail
  go_ret
  exact ⟨rfl, ((ba _ _)).alloc (by simp) _⟩
theorem implLess_any (a b c d : Int) (w : World) : Calls Tryz.prog 290 #[.agg #[.int .i64 a, .int .i64 b], .agg #[.int .i64 c, .int .i64 d]] w fun e w' => e = .returned (.bool (ltB (a, b) (c, d))) ∧ Below w.heap.size w w' := by
 by_cases h : a = c
 ·subst h
  rw [ltB_who]
  go_enter Tryz.func290, Tryz.ntmps290
  go_wp2_with fail
  go_ret
  exact ⟨rfl, ((ba _ _)).alloc (by simp) _⟩
 ·rw [ltB_had h]
  have h' : (a == c) = false := by simpa using h
  have h2 : (a != c) = true := by simpa using h
  clear h
  go_enter Tryz.func290, Tryz.ntmps290
  go_wp2_with fail
  go_ret
  exact ⟨rfl, ((ba _ _)).alloc (by simp) _⟩
theorem isHad_any (n : Int) (w : World) : Calls Tryz.prog 310 #[.int .i64 n] w fun e w' => e = .returned (.bool (inB n (-1000000000000) 1000000000000)) ∧ w' = w := by
 go_enter Tryz.func310, Tryz.ntmps310
 go_wp2_with (go_at_call 117; refine (liesFrom_any _ _ _ _).mono ?_; rintro e w' ⟨rfl, rfl⟩)
 go_ret
 exact ⟨rfl, rfl⟩
theorem isEntry_any (f c : Int) (w : World) : Calls Tryz.prog 289 #[.agg #[.int .i64 f, .int .i64 c]] w fun e w' => e = .returned (.bool (entB (f, c))) ∧ Below w.heap.size w w' := by
 cases h1 : inB f (-1000000000000) 1000000000000
 ·go_enter Tryz.func289, Tryz.ntmps289
  go_wp2_with fail
  refine (isHad_any _ _).mono ?_
  rintro e w' ⟨rfl, rfl⟩
  go_wp2_with fail
  go_ret
  exact ⟨ret_bool (by unfold entB; simp [h1]), (ba _ _)⟩
 ·go_enter Tryz.func289, Tryz.ntmps289
  go_wp2_with fail
  refine (isHad_any _ _).mono ?_
  rintro e w' ⟨rfl, rfl⟩
  go_wp2_with fail
  refine (liesFrom_any _ _ _ _).mono ?_
  rintro e w' ⟨rfl, rfl⟩
  go_wp2_with fail
  go_ret
  exact ⟨ret_bool (by unfold entB; simp [h1]), (ba _ _)⟩
theorem isWho_any (f c who : Int) (B : Nat) (w : World) (hc : w.cell? ⟨B, 0, none⟩ = some (.int .i64 who)) (hB : B < w.heap.size) :
  Calls Tryz.prog 312 #[.agg #[.int .i64 f, .int .i64 c], .pointer (some ⟨B, 0, none⟩)] w fun e w' => e = .returned (.bool (c == who)) ∧ Below w.heap.size w w' := by
 have hne : B ≠ w.heap.size := Nat.ne_of_lt hB
 go_enter Tryz.func312, Tryz.ntmps312
 go_wp2_with fail
 go_ret
 exact ⟨rfl, (ba _ _)⟩
theorem idxFunc_any {w : World} {v : Value} {ps : List PaceV} (who : Int) (B : Nat) (h : IsPaces w v ps) (hc : w.cell? ⟨B, 0, none⟩ = some (.int .i64 who)) (hB : B < w.heap.size) :
  Calls Tryz.prog 311 #[v, .func (Fn.func 312) #[] #[.pointer (some ⟨B, 0, none⟩)]] w fun e w' => e = .returned (.int .i64 (findV ps who)) ∧ Below w.heap.size w w' := by
 obtain ⟨a, cap, rfl, hcc, hm, hr⟩ := h
 have Hr := hide hr
 have Hc := hide hc
 clear hr hc
 go_enter Tryz.func311, Tryz.ntmps311
 go_wp2_with fail
 go_loopw [5, 8] (fun _ i wr => ∃ k : Nat, k ≤ ps.length ∧ i = .int .i64 k ∧ Hid (∀ j, j < k → (paceAt ps j).2 ≠ who) ∧ Below w.heap.size w wr) (fun _ i _ => ps.length - (intOf i).toNat)
 case atStart => exact ⟨0, Nat.zero_le _, rfl, hide (fun j hj => by omega), Below.refl _ _⟩
 case round =>
  obtain ⟨k, hk, rfl, hno, hb⟩ := hrel
  have Hb := hide hb
  by_cases hlt : k < ps.length
  ·rcases uh Hr with h0 | ⟨b, off, rfl, hbw, hcl⟩
   ·rw [h0] at hlt; simp at hlt
   obtain ⟨c0, c1⟩ := hcl k hlt
   rw [← hb.cell (p := ⟨b, off + k * 2, none⟩) hbw] at c0
   rw [← hb.cell (p := ⟨b, off + k * 2 + 1, none⟩) hbw] at c1
   generalize hz : paceAt ps k = p at *
   obtain ⟨f, z⟩ := p
   simp only at c0 c1
   have hcb := (hb.cell (p := ⟨B, 0, none⟩) hB).trans (uh Hc)
   have hBr : B < wr.heap.size := Nat.lt_of_lt_of_le hB hb.size
   have Hz := hide hz
   have Hcb := hide hcb
   clear hz hcl hb hcb
   by_cases hx : z = who
   ·subst hx
    go_wp2_with fail
    refine ck (isWho_any _ _ _ _ _ (uh Hcb) hBr) fun w1 hb1 => ?_
    have Hb1 := hide hb1
    clear hb1
    go_wp2_with fail
    go_ret
    exact ⟨ret_int (findV_some hlt (by rw [uh Hz]) (uh hno)).symm, (uh Hb).trans ((uh Hb1).mono (uh Hb).size)⟩
   ·have hx' : (z == who) = false := by simpa using hx
    have Hx := hide hx
    clear hx
    go_wp2_with fail
    refine (isWho_any _ _ _ _ _ (uh Hcb) hBr).mono ?_
    rw [hx']
    rintro e w1 ⟨rfl, hb1⟩
    have Hb1 := hide hb1
    clear hb1
    go_wp2_with fail
    go_roundw
    case rel => exact ⟨k + 1, by omega, by go_num, hide (next_all (uh hno) (by rw [uh Hz]; exact uh Hx)), (uh Hb).trans ((uh Hb1).mono (uh Hb).size)⟩
    case measure => exact ms
  ·obtain rfl : k = ps.length := by omega
   go_wp2_with fail
   go_ret
   exact ⟨ret_int (findV_none (uh hno)).symm, hb⟩
theorem placeOf_any {w : World} {v : Value} {ps : List PaceV} (who : Int) (h : IsPaces w v ps) :
  Calls Tryz.prog 291 #[v, .int .i64 who] w fun e w' => e = .returned (.int .i64 (findV ps who)) ∧ Below w.heap.size w w' := by
 have Hv := hide h
 obtain ⟨a, cap, rfl, hcc, hm, hr⟩ := h
 clear hr
 go_enter Tryz.func291, Tryz.ntmps291
 go_wp2_with fail
 refine ck (idxFunc_any who w.heap.size ((uh Hv).below ((ba _ _))) (by simp) (by simp)) fun w1 hb => ?_
 have Hb := hide hb
 clear hb
 go_wp2_with fail
 go_ret
 exact ⟨rfl, ((ba _ _)).trans ((uh Hb).mono (by simp))⟩
structure Fr (bx : Nat) (r : Option Nat) (w w' : World) : Prop where
 os : w'.os = w.os
 tape : w'.tape = w.tape
 output : w'.output = w.output
 size : w.heap.size ≤ w'.heap.size
 block : ∀ k, k < w.heap.size → k ≠ bx → r ≠ some k → w'.heap[k]? = w.heap[k]?
theorem Fr.refl (bx : Nat) (r : Option Nat) (w : World) : Fr bx r w w := ⟨rfl, rfl, rfl, Nat.le_refl _, fun _ _ _ _ => rfl⟩
theorem Fr.trans {bx : Nat} {r : Option Nat} {a b c : World} (h : Fr bx r a b) (k : Fr bx r b c) : Fr bx r a c :=
 ⟨k.os.trans h.os, k.tape.trans h.tape, k.output.trans h.output, Nat.le_trans h.size k.size, fun i hi hn hr => (k.block i (Nat.lt_of_lt_of_le hi h.size) hn hr).trans (h.block i hi hn hr)⟩
theorem Fr.of_below {bx : Nat} {r : Option Nat} {w w' : World} (h : Below w.heap.size w w') : Fr bx r w w' := ⟨h.os, h.tape, h.output, h.size, fun k hk _ _ => h.block k hk⟩
theorem Fr.of_grown {bx : Nat} {r : Option Nat} {w w' : World} (h : w.grownBy w' r) : Fr bx r w w' := ⟨h.os, h.tape, h.output, h.size, fun k hk _ hr => h.block k hk (fun e => hr e.symm)⟩
theorem Fr.box {bx : Nat} {r : Option Nat} (w : World) (v : Value) : Fr bx r w (w.setCell ⟨bx, 0, none⟩ v) := ⟨rfl, rfl, rfl, by simp, fun k hk hn _ => Below.heap_setCell w ⟨bx, 0, none⟩ v k hn⟩
theorem Fr.below {bx B : Nat} {r : Option Nat} {w w' : World} (h : Fr bx r w w') (hx : B ≤ bx) (hr : ∀ k, r = some k → B ≤ k) (hs : B ≤ w.heap.size) : Below B w w' :=
 ⟨h.os, h.tape, h.output, h.size, fun k hk => h.block k (by omega) (by omega) (fun e => by have := hr k e; omega)⟩
theorem EntsAt.fr {n₀ bx : Nat} {r : Option Nat} {w w' : World} {v : Value} {ps : List PaceV} (h : EntsAt n₀ w v ps) (hf : Fr bx r w w') (h1 : v.ownBlock ≠ some bx) (h2 : ∀ k, v.ownBlock = some k → r ≠ some k) : EntsAt n₀ w' v ps :=
 h.same fun k hk => hf.block k (h.lt hk).2 (fun e => h1 (by rw [hk, e])) (h2 k hk)
structure HeapIs (n₀ bx : Nat) (v : Value) (w : World) (ps : List PaceV) : Prop where
 cell : w.cell? ⟨bx, 0, none⟩ = some v
 free : w.frozen? ⟨bx, 0, none⟩ = false
 lt : bx < w.heap.size
 row : EntsAt n₀ w v ps
 off : v.ownBlock ≠ some bx
theorem HeapIs.later {n₀ bx : Nat} {v : Value} {w w' : World} {ps : List PaceV} (h : HeapIs n₀ bx v w ps) (hb : Below w.heap.size w w') : HeapIs n₀ bx v w' ps :=
 ⟨(hb.cell (p := ⟨bx, 0, none⟩) h.lt).trans h.cell, (hb.frozen (p := ⟨bx, 0, none⟩) h.lt).trans h.free, Nat.lt_of_lt_of_le h.lt hb.size, h.row.later hb, h.off⟩
theorem HeapIs.view {n₀ bx : Nat} {v : Value} {w : World} {ps : List PaceV} (h : HeapIs n₀ bx v w ps) (hl : 0 < ps.length) : ∃ g cap, v = .slice (some ⟨g, 0, none⟩) ps.length cap ∧ g ≠ bx ∧ g < w.heap.size ∧ n₀ ≤ g ∧ ps.length ≤ cap ∧ cap ≤ 9223372036854775807 ∧
  (∀ k, k < ps.length → w.cell? ⟨g, k * 2, none⟩ = some (.int .i64 (paceAt ps k).1) ∧ w.cell? ⟨g, k * 2 + 1, none⟩ = some (.int .i64 (paceAt ps k).2)) ∧ (∀ k, w.frozen? ⟨g, k, none⟩ = false) := by
 have hr := h.row
 rcases h.row.2 with ⟨hv, hz⟩ | ⟨g, cap, cur, rfl, hb, hg, hnc, hcm, r⟩
 ·omega
 ·obtain ⟨a, cap', he, _, _, hrr⟩ := hr.paces
  cases he
  refine ⟨g, cap, rfl, fun e => h.off (by rw [e]; rfl), (Array.getElem?_eq_some_iff.1 hg).1, hb, hnc, by unfold maxLen at hcm; omega, ?_, fun k => World.ownsRow.frozenAt hr k⟩
  rcases hrr with h0 | ⟨b, off, he, _, hcl⟩
  ·rw [h0] at hl; simp at hl
  ·cases he
   intro k hk
   have := hcl k hk
   simpa using this
theorem len_any {n₀ bx : Nat} {v : Value} {w : World} {ps : List PaceV} (h : HeapIs n₀ bx v w ps) : Calls Tryz.prog 308 #[.pointer (some ⟨bx, 0, none⟩)] w fun e w' => e = .returned (.int .i64 ps.length) ∧ w' = w := by
 have hc := h.cell
 obtain ⟨a, cap, rfl⟩ := h.row.shape
 go_enter Tryz.func308, Tryz.ntmps308
 go_wp2_with fail
 go_ret
 exact ⟨rfl, rfl⟩
theorem less_any {n₀ bx : Nat} {v : Value} {w : World} {ps : List PaceV} (h : HeapIs n₀ bx v w ps) {i j : Nat} (hi : i < ps.length) (hj : j < ps.length) :
  Calls Tryz.prog 373 #[.pointer (some ⟨bx, 0, none⟩), .int .i64 i, .int .i64 j] w fun e w' => e = .returned (.bool (ltB (paceAt ps i) (paceAt ps j))) ∧ Below w.heap.size w w' := by
 obtain ⟨g, cap, rfl, hne, hlt, _, hnc, hcm, hcl, _⟩ := h.view (by omega)
 have hc := h.cell
 obtain ⟨a0, a1⟩ := hcl i hi
 obtain ⟨b0, b1⟩ := hcl j hj
 generalize paceAt ps i = p at *
 generalize paceAt ps j = q at *
 obtain ⟨f, z⟩ := p
 obtain ⟨f', z'⟩ := q
 simp only at a0 a1 b0 b1
 have hi0 : (0 : Int) ≤ (i : Int) := by omega
 have hj0 : (0 : Int) ≤ (j : Int) := by omega
 have hi1 : (i : Int) < (ps.length : Int) := by omega
 have hj1 : (j : Int) < (ps.length : Int) := by omega
 have k0 := cell_regrown a0
 have k1 := cell_regrown a1
 have k2 := cell_regrown b0
 have k3 := cell_regrown b1
 have k4 := cell_regrown hc
 clear hcl h hc a0 a1 b0 b1
 go_enter Tryz.func373, Tryz.ntmps373
 go_wp2_with fail
 refine wq ?_
 repeat (go_big_quiet_step (exact Calls.regrown_of (implLess_any _ _ _ _ _)))
 refine wpQuiet_nil ?_
 intro _ hw'
 obtain ⟨⟨dq, osq⟩, hw''⟩ := hw'
 subst hw''
 go_wp2_with fail
 go_ret
 exact ⟨rfl, below_regrown _ _ _⟩
end Go.Proofs.YtffcgajndmhpkaaGreatDoor
