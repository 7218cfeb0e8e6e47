/- What the proof rests on, part 6: lists and numbers, how they lie in memory, and contracts of the calls. No condition but those that a theorem names. -/
import Derived.Test.YtmfmfdiphlkdiaaGreatXt01
import Derived.Test.YtmfmfdiphlkdiaaGreatXt02
import Derived.Test.YtmfmfdiphlkdiaaGreatXt05
import Derived.BigQuiet
import Derived.Lib.QuietBelow
import Derived.WalkKit
import Derived.ProofKit
import Derived.OpenShut
import Derived.Outline
import Derived.Deep.RegionWith
import Derived.Deep.QuietTactic
import Derived.Laws.OwnMore
import Derived.OwnWalk
import Derived.Maps.AppendAt
import Derived.Lib.SmallJoins
import Derived.Deep.Fields
import Derived.Deep.Slices
import Derived.Laws.StructEq
/- The model's SmithOk: its contract. No condition. -/
namespace Go.Proofs.YtmfmfdiphlkdiaaGreat
open Go.ChangeShapes Go.WideShapes Go.ChangeAt Go.RowKit Go.Sort
set_option linter.unusedVariables false
attribute [local go_sem ↓] smith_eql smith_neq

theorem specHad_any (n : Int) (w : World) : Calls Tryz.prog 126 #[.int .i64 n] w fun e w' => e = .returned (.bool (inB n (-1000000000000) 1000000000000)) ∧ w' = w := by
  go_enter Tryz.func126, Tryz.ntmps126
  go_wp2_with (go_at_call 110; refine (l1In_any _ _ _ _).mono ?_; rintro e w' ⟨rfl, rfl⟩)
  go_ret
  exact ⟨rfl, rfl⟩

set_option maxRecDepth 100000 in
set_option maxHeartbeats 8000000 in
theorem specSmithOk_any (st be rk my gu lo hi hd ca ut wk : Int) (w : World) : Calls Tryz.prog 121 #[.agg #[.int .i64 st, .int .i64 be, .int .i64 rk, .int .i64 my, .int .i64 gu, .int .i64 lo, .int .i64 hi, .int .i64 hd, .int .i64 ca, .int .i64 ut, .int .i64 wk]] w fun e w' => e = .returned (.bool (smithB (st, be, rk, my, gu, lo, hi, hd, ca, ut, wk))) ∧ Below w.heap.size w w' := by
  by_cases hst : st = 0
  · subst hst
    unfold smithB
    rw [presB_st rfl, Bool.or_false]
    obtain ⟨q, hq⟩ : ∃ q, goneB (0, be, rk, my, gu, lo, hi, hd, ca, ut, wk) = q := ⟨_, rfl⟩
    rw [hq]
    have hz : sameB (0, be, rk, my, gu, lo, hi, hd, ca, ut, wk) (0, 0, 0, 0, 0, 0, 0, 0, 0, 0, 0) = q := hq
    clear hq
    go_enter Tryz.func121, Tryz.ntmps121
    go_wp2_with fail
    go_ret
    exact ⟨rfl, (Below.refl _ _).alloc (Nat.le_refl _) _⟩
  · have hne : (st == 0) = false := by simpa using hst
    unfold smithB
    rw [goneB_st hst, Bool.false_or]
    unfold presB
    simp only
    obtain ⟨x0, x1⟩ := weight_in rk
    obtain ⟨x, hx⟩ : ∃ x, weightV rk = x := ⟨_, rfl⟩
    rw [hx] at x0 x1 ⊢
    have Hw := hide hx
    have hwr : IntKind.i64.wrap (x - 1) = x - 1 := by rw [IntKind.wrap_i64]; omega
    clear hx hst
    cases h0 : inB st 1 3
    · go_enter Tryz.func121, Tryz.ntmps121
      go_wp2_with (first | (go_at_call 110; refine (l1In_any _ _ _ _).mono ?_; rintro e w' ⟨rfl, rfl⟩) | (go_at_call 182; refine (l3Rank_any _ _).mono ?_; rintro e w' ⟨rfl, rfl⟩) | (go_at_call 64; refine (l8Pair_any _ _ _).mono ?_; rintro e w' ⟨rfl, rfl⟩))
      go_ret
      exact ⟨rfl, (Below.refl _ _).alloc (Nat.le_refl _) _⟩
    cases h1 : inB be 0 7
    · go_enter Tryz.func121, Tryz.ntmps121
      go_wp2_with (first | (go_at_call 110; refine (l1In_any _ _ _ _).mono ?_; rintro e w' ⟨rfl, rfl⟩) | (go_at_call 182; refine (l3Rank_any _ _).mono ?_; rintro e w' ⟨rfl, rfl⟩) | (go_at_call 64; refine (l8Pair_any _ _ _).mono ?_; rintro e w' ⟨rfl, rfl⟩))
      go_ret
      exact ⟨rfl, (Below.refl _ _).alloc (Nat.le_refl _) _⟩
    cases h2 : inB rk (-5) 5
    · go_enter Tryz.func121, Tryz.ntmps121
      go_wp2_with (first | (go_at_call 110; refine (l1In_any _ _ _ _).mono ?_; rintro e w' ⟨rfl, rfl⟩) | (go_at_call 182; refine (l3Rank_any _ _).mono ?_; rintro e w' ⟨rfl, rfl⟩) | (go_at_call 64; refine (l8Pair_any _ _ _).mono ?_; rintro e w' ⟨rfl, rfl⟩))
      go_ret
      exact ⟨rfl, (Below.refl _ _).alloc (Nat.le_refl _) _⟩
    cases h3 : inB my 1 255
    · go_enter Tryz.func121, Tryz.ntmps121
      go_wp2_with (first | (go_at_call 110; refine (l1In_any _ _ _ _).mono ?_; rintro e w' ⟨rfl, rfl⟩) | (go_at_call 182; refine (l3Rank_any _ _).mono ?_; rintro e w' ⟨rfl, rfl⟩) | (go_at_call 64; refine (l8Pair_any _ _ _).mono ?_; rintro e w' ⟨rfl, rfl⟩))
      go_ret
      exact ⟨rfl, (Below.refl _ _).alloc (Nat.le_refl _) _⟩
    cases h4 : inB gu (-1) 5
    · go_enter Tryz.func121, Tryz.ntmps121
      go_wp2_with (first | (go_at_call 110; refine (l1In_any _ _ _ _).mono ?_; rintro e w' ⟨rfl, rfl⟩) | (go_at_call 182; refine (l3Rank_any _ _).mono ?_; rintro e w' ⟨rfl, rfl⟩) | (go_at_call 64; refine (l8Pair_any _ _ _).mono ?_; rintro e w' ⟨rfl, rfl⟩))
      go_ret
      exact ⟨rfl, (Below.refl _ _).alloc (Nat.le_refl _) _⟩
    cases h5 : pairB lo hi
    · go_enter Tryz.func121, Tryz.ntmps121
      go_wp2_with (first | (go_at_call 110; refine (l1In_any _ _ _ _).mono ?_; rintro e w' ⟨rfl, rfl⟩) | (go_at_call 182; refine (l3Rank_any _ _).mono ?_; rintro e w' ⟨rfl, rfl⟩) | (go_at_call 64; refine (l8Pair_any _ _ _).mono ?_; rintro e w' ⟨rfl, rfl⟩))
      go_ret
      exact ⟨rfl, (Below.refl _ _).alloc (Nat.le_refl _) _⟩
    cases h6 : inB hd (-1000000000000) 1000000000000
    · go_enter Tryz.func121, Tryz.ntmps121
      go_wp2_with (first | (go_at_call 110; refine (l1In_any _ _ _ _).mono ?_; rintro e w' ⟨rfl, rfl⟩) | (go_at_call 182; refine (l3Rank_any _ _).mono ?_; rintro e w' ⟨rfl, rfl⟩) | (go_at_call 64; refine (l8Pair_any _ _ _).mono ?_; rintro e w' ⟨rfl, rfl⟩))
      go_quiet (first | exact Calls.quiet_of_same (l1In_any _ _ _ _) | exact Calls.quiet_of_same (specHad_any _ _) | exact Calls.quiet_of_same (specWeightOf_v (unhide Hw) _) | exact Calls.quiet_of_same (guildForce_any _ _))
      go_wp2_with fail
      go_ret
      exact ⟨rfl, drewN_below ((Below.refl _ _).alloc (Nat.le_refl _) _) _⟩
    cases h7 : inB ca 0 (x - 1)
    · go_enter Tryz.func121, Tryz.ntmps121
      go_wp2_with (first | (go_at_call 110; refine (l1In_any _ _ _ _).mono ?_; rintro e w' ⟨rfl, rfl⟩) | (go_at_call 182; refine (l3Rank_any _ _).mono ?_; rintro e w' ⟨rfl, rfl⟩) | (go_at_call 64; refine (l8Pair_any _ _ _).mono ?_; rintro e w' ⟨rfl, rfl⟩))
      go_quiet (first | exact Calls.quiet_of_same (l1In_any _ _ _ _) | exact Calls.quiet_of_same (specHad_any _ _) | exact Calls.quiet_of_same (specWeightOf_v (unhide Hw) _) | exact Calls.quiet_of_same (guildForce_any _ _))
      go_wp2_with fail
      go_ret
      exact ⟨rfl, drewN_below ((Below.refl _ _).alloc (Nat.le_refl _) _) _⟩
    cases h8 : inB ut 0 1024
    · go_enter Tryz.func121, Tryz.ntmps121
      go_wp2_with (first | (go_at_call 110; refine (l1In_any _ _ _ _).mono ?_; rintro e w' ⟨rfl, rfl⟩) | (go_at_call 182; refine (l3Rank_any _ _).mono ?_; rintro e w' ⟨rfl, rfl⟩) | (go_at_call 64; refine (l8Pair_any _ _ _).mono ?_; rintro e w' ⟨rfl, rfl⟩))
      go_quiet (first | exact Calls.quiet_of_same (l1In_any _ _ _ _) | exact Calls.quiet_of_same (specHad_any _ _) | exact Calls.quiet_of_same (specWeightOf_v (unhide Hw) _) | exact Calls.quiet_of_same (guildForce_any _ _))
      go_wp2_with fail
      go_ret
      exact ⟨rfl, drewN_below ((Below.refl _ _).alloc (Nat.le_refl _) _) _⟩
    cases h9 : inB wk 0 100000000000
    · go_enter Tryz.func121, Tryz.ntmps121
      go_wp2_with (first | (go_at_call 110; refine (l1In_any _ _ _ _).mono ?_; rintro e w' ⟨rfl, rfl⟩) | (go_at_call 182; refine (l3Rank_any _ _).mono ?_; rintro e w' ⟨rfl, rfl⟩) | (go_at_call 64; refine (l8Pair_any _ _ _).mono ?_; rintro e w' ⟨rfl, rfl⟩))
      go_quiet (first | exact Calls.quiet_of_same (l1In_any _ _ _ _) | exact Calls.quiet_of_same (specHad_any _ _) | exact Calls.quiet_of_same (specWeightOf_v (unhide Hw) _) | exact Calls.quiet_of_same (guildForce_any _ _))
      go_wp2_with fail
      go_ret
      exact ⟨rfl, drewN_below ((Below.refl _ _).alloc (Nat.le_refl _) _) _⟩
    go_enter Tryz.func121, Tryz.ntmps121
    go_wp2_with (first | (go_at_call 110; refine (l1In_any _ _ _ _).mono ?_; rintro e w' ⟨rfl, rfl⟩) | (go_at_call 182; refine (l3Rank_any _ _).mono ?_; rintro e w' ⟨rfl, rfl⟩) | (go_at_call 64; refine (l8Pair_any _ _ _).mono ?_; rintro e w' ⟨rfl, rfl⟩))
    go_quiet (first | exact Calls.quiet_of_same (l1In_any _ _ _ _) | exact Calls.quiet_of_same (specHad_any _ _) | exact Calls.quiet_of_same (specWeightOf_v (unhide Hw) _) | exact Calls.quiet_of_same (guildForce_any _ _))
    go_wp2_with fail
    go_ret
    exact ⟨rfl, drewN_below ((Below.refl _ _).alloc (Nat.le_refl _) _) _⟩

end Go.Proofs.YtmfmfdiphlkdiaaGreat

/- The model's small checks of a smithy: who is present, and the band. No condition but those that a theorem names. -/
namespace Go.Proofs.YtmfmfdiphlkdiaaGreat
open Go.ChangeShapes Go.WideShapes Go.ChangeAt Go.RowKit Go.Sort
set_option linter.unusedVariables false

theorem l11Present_any (st be rk my gu lo hi hd ca ut wk : Int) (w : World) : Calls Tryz.prog 62 #[.agg #[.int .i64 st, .int .i64 be, .int .i64 rk, .int .i64 my, .int .i64 gu, .int .i64 lo, .int .i64 hi, .int .i64 hd, .int .i64 ca, .int .i64 ut, .int .i64 wk]] w fun e w' =>
    e = .returned (.bool (presS (st, be, rk, my, gu, lo, hi, hd, ca, ut, wk))) ∧ Below w.heap.size w w' := by
  unfold presS
  simp only
  cases h2 : (st == 2)
  all_goals
    go_enter Tryz.func62, Tryz.ntmps62
    go_wp2_with fail
    go_ret
    exact ⟨by first | rfl | (simp), (Below.refl _ _).alloc (Nat.le_refl _) _⟩

theorem specInBand_any (h m : Int) (w : World) : Calls Tryz.prog 123 #[.int .i64 h, .int .i64 m] w fun e w' => e = .returned (.bool (bandB h m)) ∧ w' = w := by
  unfold bandB
  cases h1 : inB h (-1000000000000) 1000000000000
  · go_enter Tryz.func123, Tryz.ntmps123
    go_wp2_with (first | (go_at_call 126; refine (specHad_any _ _).mono ?_; rintro e w' ⟨rfl, rfl⟩) | (go_at_call 110; refine (l1In_any _ _ _ _).mono ?_; rintro e w' ⟨rfl, rfl⟩))
    go_ret
    exact ⟨rfl, rfl⟩
  cases h2 : inB m (-1000000000000) 1000000000000
  · go_enter Tryz.func123, Tryz.ntmps123
    go_wp2_with (first | (go_at_call 126; refine (specHad_any _ _).mono ?_; rintro e w' ⟨rfl, rfl⟩) | (go_at_call 110; refine (l1In_any _ _ _ _).mono ?_; rintro e w' ⟨rfl, rfl⟩))
    go_ret
    exact ⟨rfl, rfl⟩
  obtain ⟨a0, a1⟩ := inB_of h1
  obtain ⟨b0, b1⟩ := inB_of h2
  go_enter Tryz.func123, Tryz.ntmps123
  go_wp2_with (first | (go_at_call 126; refine (specHad_any _ _).mono ?_; rintro e w' ⟨rfl, rfl⟩) | (go_at_call 110; refine (l1In_any _ _ _ _).mono ?_; rintro e w' ⟨rfl, rfl⟩))
  go_ret
  exact ⟨rfl, rfl⟩

end Go.Proofs.YtmfmfdiphlkdiaaGreat

/- The model's l11Loose: is a smithy right, but for who works? Its contract, its first part. Condition: the smithy can be read. -/
namespace Go.Proofs.YtmfmfdiphlkdiaaGreat
open Go.ChangeShapes Go.WideShapes Go.ChangeAt Go.RowKit Go.Sort
set_option linter.unusedVariables false

theorem specHallOk_v {w : World} {v : Value} {rs : List RoomV} {q : Bool} (hq : hallB rs = q) (h : IsRooms w v rs) : Calls Tryz.prog 118 #[.agg #[v]] w fun e w' => e = .returned (.bool q) ∧ Below w.heap.size w w' := by
  have := specHallOk_any h; rw [hq] at this; exact this
theorem specGuildsOk_q {w : World} {v : Value} {ps : List GuildV} {q : Bool} (hq : guildsB ps = q) (h : IsGuilds w v ps) : Calls Tryz.prog 119 #[v] w fun e w' => e = .returned (.bool q) ∧ Below w.heap.size w w' := by
  have := specGuildsOk_any h; rw [hq] at this; exact this
theorem l4Count_v {w : World} {v : Value} {rs : List RoomV} {n : Int} (hn : benchSum rs = n) (h : IsRooms w v rs) (ha : Adds rs) : Calls Tryz.prog 120 #[.agg #[v]] w fun e w' => e = .returned (.int .i64 n) ∧ Below w.heap.size w w' := by
  have := l4Count_any h ha; rw [hn] at this; exact this
theorem l1In_q {x lo hi : Int} {q : Bool} (hq : inB x lo hi = q) (w : World) : Calls Tryz.prog 110 #[.int .i64 x, .int .i64 lo, .int .i64 hi] w fun e w' => e = .returned (.bool q) ∧ Below w.heap.size w w' := by
  have := l1In_any x lo hi w; rw [hq] at this
  exact this.mono fun e w' ⟨h1, h2⟩ => ⟨h1, by rw [h2]; exact Below.refl _ _⟩

theorem specSmithOk_q {st be rk my gu lo hi hd ca ut wk : Int} {q : Bool} (hq : smithB (st, be, rk, my, gu, lo, hi, hd, ca, ut, wk) = q) (w : World) : Calls Tryz.prog 121 #[.agg #[.int .i64 st, .int .i64 be, .int .i64 rk, .int .i64 my, .int .i64 gu, .int .i64 lo, .int .i64 hi, .int .i64 hd, .int .i64 ca, .int .i64 ut, .int .i64 wk]] w fun e w' => e = .returned (.bool q) ∧ Below w.heap.size w w' := by
  have := specSmithOk_any st be rk my gu lo hi hd ca ut wk w; rw [hq] at this; exact this
theorem l11Present_q {st be rk my gu lo hi hd ca ut wk : Int} {q : Bool} (hq : presS (st, be, rk, my, gu, lo, hi, hd, ca, ut, wk) = q) (w : World) : Calls Tryz.prog 62 #[.agg #[.int .i64 st, .int .i64 be, .int .i64 rk, .int .i64 my, .int .i64 gu, .int .i64 lo, .int .i64 hi, .int .i64 hd, .int .i64 ca, .int .i64 ut, .int .i64 wk]] w fun e w' => e = .returned (.bool q) ∧ Below w.heap.size w w' := by
  have := l11Present_any st be rk my gu lo hi hd ca ut wk w; rw [hq] at this; exact this
theorem l2Has_q {s i : Int} {q : Bool} (hq : bitB s i = q) (h0 : 0 ≤ s) (h1 : s ≤ 255) (h2 : 0 ≤ i) (h3 : i ≤ 7) (w : World) : Calls Tryz.prog 122 #[.int .i64 s, .int .i64 i] w fun e w' => e = .returned (.bool q) ∧ Below w.heap.size w w' := by
  have := l2Has_any s i w h0 h1 h2 h3; rw [hq] at this
  exact this.mono fun e w' ⟨h1, h2⟩ => ⟨h1, by rw [h2]; exact Below.refl _ _⟩
theorem specInBand_q {h k : Int} {q : Bool} (hq : bandB h k = q) (w : World) : Calls Tryz.prog 123 #[.int .i64 h, .int .i64 k] w fun e w' => e = .returned (.bool q) ∧ Below w.heap.size w w' := by
  have := specInBand_any h k w; rw [hq] at this
  exact this.mono fun e w' ⟨h1, h2⟩ => ⟨h1, by rw [h2]; exact Below.refl _ _⟩

set_option maxRecDepth 100000 in
set_option maxHeartbeats 16000000 in
theorem l11Loose_any {w : World} {v0 v1 v2 v3 v4 : Value} {m : SmyV} (h : Smy w v0 v1 v2 v3 v4 m) :
    Calls Tryz.prog 61 #[.agg #[v0, v1, v2, v3, v4, .int .i64 m.now]] w fun e w' => e = .returned (.bool (looseB m)) ∧ Below w.heap.size w w' := by
  have Hv := hide (h.alloc (.cells #[v0, v1, v2, v3, v4, .int .i64 m.now] 32))
  obtain ⟨h0, h1, h2, h3, h4⟩ := h
  obtain ⟨a0, p0, rfl, hc0, hm0, r0⟩ := h0
  obtain ⟨a1, p1, rfl, hc1, hm1, _⟩ := h1
  obtain ⟨a2, p2, rfl, hc2, hm2, r2⟩ := h2
  obtain ⟨a3, p3, rfl, hc3, hm3, r3⟩ := h3
  obtain ⟨a4, p4, rfl, hc4, hm4, r4⟩ := h4
  have R0 := hide r0
  have R2 := hide r2
  have R3 := hide r3
  have R4 := hide r4
  clear r0 r2 r3 r4
  go_enter Tryz.func61, Tryz.ntmps61
  go_wp2_with fail
  have BB : Hid (Below w.heap.size w (w.alloc (.cells #[.slice a0 m.rooms.length p0, .slice a1 m.guilds.length p1, .slice a2 m.smiths.length p2, .slice a3 m.desks.length p3, .slice a4 m.paces.length p4, .int .i64 m.now] 32))) := hide ((Below.refl _ _).alloc (Nat.le_refl _) _)
  have kb : Hid (Blk (w.alloc (.cells #[.slice a0 m.rooms.length p0, .slice a1 m.guilds.length p1, .slice a2 m.smiths.length p2, .slice a3 m.desks.length p3, .slice a4 m.paces.length p4, .int .i64 m.now] 32)) w.heap.size 32 #[.slice a0 m.rooms.length p0, .slice a1 m.guilds.length p1, .slice a2 m.smiths.length p2, .slice a3 m.desks.length p3, .slice a4 m.paces.length p4, .int .i64 m.now]) := hide (Blk.new w _ _)
  generalize w.alloc (.cells #[.slice a0 m.rooms.length p0, .slice a1 m.guilds.length p1, .slice a2 m.smiths.length p2, .slice a3 m.desks.length p3, .slice a4 m.paces.length p4, .int .i64 m.now] 32) = W at *
  have c0 := cell_regrown ((unhide kb).cell (i := 0) (v := .slice a0 m.rooms.length p0) rfl)
  have c1 := cell_regrown ((unhide kb).cell (i := 1) (v := .slice a1 m.guilds.length p1) rfl)
  have c2 := cell_regrown ((unhide kb).cell (i := 2) (v := .slice a2 m.smiths.length p2) rfl)
  have c3 := cell_regrown ((unhide kb).cell (i := 3) (v := .slice a3 m.desks.length p3) rfl)
  have c4 := cell_regrown ((unhide kb).cell (i := 4) (v := .slice a4 m.paces.length p4) rfl)
  have c5 := cell_regrown ((unhide kb).cell (i := 5) (v := .int .i64 m.now) rfl)
  cases h0 : hallB m.rooms
  · have Q0 := hide h0
    clear h0
    refine wp_region_quiet_below (by kernel_rfl) (by kernel_rfl) ?_
    repeat (go_big_quiet_step (first | exact Calls.regrown_of (specHallOk_v (unhide Q0) ((unhide Hv).below (below_regrown _ _ _)).rooms)))
    refine wpQuiet_nil ?_
    intro W1 hw'
    have hb : Below W.heap.size W W1 := by
      obtain ⟨⟨dq, osq⟩, hw''⟩ := hw'
      subst hw''
      exact below_regrown _ _ _
    clear hw' c0 c1 c2 c3 c4 c5
    go_wp2_with fail
    go_ret
    exact ⟨ret_bool (looseB_head (by unfold headB; rw [unhide Q0]; rfl)).symm, (unhide BB).trans (hb.mono (unhide BB).size)⟩
  have Q0 := hide h0
  have QA := hide (adds_hall h0)
  clear h0
  cases h1 : guildsB m.guilds
  · have Q1 := hide h1
    clear h1
    refine wp_region_quiet_below (by kernel_rfl) (by kernel_rfl) ?_
    repeat (go_big_quiet_step (first | exact Calls.regrown_of (specHallOk_v (unhide Q0) ((unhide Hv).below (below_regrown _ _ _)).rooms) | exact Calls.regrown_of (specGuildsOk_q (unhide Q1) ((unhide Hv).below (below_regrown _ _ _)).guilds)))
    refine wpQuiet_nil ?_
    intro W1 hw'
    have hb : Below W.heap.size W W1 := by
      obtain ⟨⟨dq, osq⟩, hw''⟩ := hw'
      subst hw''
      exact below_regrown _ _ _
    clear hw' c0 c1 c2 c3 c4 c5
    go_wp2_with fail
    go_ret
    exact ⟨ret_bool (looseB_head (by unfold headB; rw [unhide Q0, unhide Q1]; rfl)).symm, (unhide BB).trans (hb.mono (unhide BB).size)⟩
  have Q1 := hide h1
  clear h1
  by_cases h2 : 12 < m.smiths.length
  · have h2i : (12 : Int) < (m.smiths.length : Int) := by omega
    have h2d : decide ((12 : Int) < (m.smiths.length : Int)) = true := decide_eq_true h2i
    refine wp_region_quiet_below (by kernel_rfl) (by kernel_rfl) ?_
    repeat (go_big_quiet_step (first | exact Calls.regrown_of (specHallOk_v (unhide Q0) ((unhide Hv).below (below_regrown _ _ _)).rooms) | exact Calls.regrown_of (specGuildsOk_q (unhide Q1) ((unhide Hv).below (below_regrown _ _ _)).guilds)))
    refine wpQuiet_nil ?_
    intro W1 hw'
    have hb : Below W.heap.size W W1 := by
      obtain ⟨⟨dq, osq⟩, hw''⟩ := hw'
      subst hw''
      exact below_regrown _ _ _
    clear hw' c0 c1 c2 c3 c4 c5
    go_wp2_with fail
    go_ret
    exact ⟨ret_bool (looseB_head (by unfold headB; rw [unhide Q0, unhide Q1]; simp; intro h9; omega)).symm, (unhide BB).trans (hb.mono (unhide BB).size)⟩
  have h2i : ¬ (12 : Int) < (m.smiths.length : Int) := by omega
  have h2d : decide ((12 : Int) < (m.smiths.length : Int)) = false := decide_eq_false h2i
  obtain ⟨n, hn⟩ : ∃ n, benchSum m.rooms = n := ⟨_, rfl⟩
  have Q3 := hide hn
  clear hn
  by_cases h3 : (m.desks.length : Int) = n
  rotate_left
  · have h3b : ((m.desks.length : Int) != n) = true := by simpa using h3
    refine wp_region_quiet_below (by kernel_rfl) (by kernel_rfl) ?_
    repeat (go_big_quiet_step (first | exact Calls.regrown_of (specHallOk_v (unhide Q0) ((unhide Hv).below (below_regrown _ _ _)).rooms) | exact Calls.regrown_of (specGuildsOk_q (unhide Q1) ((unhide Hv).below (below_regrown _ _ _)).guilds) | exact Calls.regrown_of (l4Count_v (unhide Q3) ((unhide Hv).below (below_regrown _ _ _)).rooms (unhide QA))))
    refine wpQuiet_nil ?_
    intro W1 hw'
    have hb : Below W.heap.size W W1 := by
      obtain ⟨⟨dq, osq⟩, hw''⟩ := hw'
      subst hw''
      exact below_regrown _ _ _
    clear hw' c0 c1 c2 c3 c4 c5
    go_wp2_with fail
    go_ret
    exact ⟨ret_bool (looseB_head (by unfold headB; rw [unhide Q0, unhide Q1, unhide Q3]; simp [h3])).symm, (unhide BB).trans (hb.mono (unhide BB).size)⟩
  have h3b : ((m.desks.length : Int) != n) = false := by simpa using h3
  by_cases h4 : m.paces.length = m.rooms.length
  rotate_left
  · have h4b : ((m.paces.length : Int) != (m.rooms.length : Int)) = true := by simp; omega
    refine wp_region_quiet_below (by kernel_rfl) (by kernel_rfl) ?_
    repeat (go_big_quiet_step (first | exact Calls.regrown_of (specHallOk_v (unhide Q0) ((unhide Hv).below (below_regrown _ _ _)).rooms) | exact Calls.regrown_of (specGuildsOk_q (unhide Q1) ((unhide Hv).below (below_regrown _ _ _)).guilds) | exact Calls.regrown_of (l4Count_v (unhide Q3) ((unhide Hv).below (below_regrown _ _ _)).rooms (unhide QA))))
    refine wpQuiet_nil ?_
    intro W1 hw'
    have hb : Below W.heap.size W W1 := by
      obtain ⟨⟨dq, osq⟩, hw''⟩ := hw'
      subst hw''
      exact below_regrown _ _ _
    clear hw' c0 c1 c2 c3 c4 c5
    go_wp2_with fail
    go_ret
    exact ⟨ret_bool (looseB_head (by unfold headB; rw [unhide Q0, unhide Q1]; simp [h4])).symm, (unhide BB).trans (hb.mono (unhide BB).size)⟩
  have h4b : ((m.paces.length : Int) != (m.rooms.length : Int)) = false := by simp; omega
  cases h5 : inB m.now 0 1000000
  · have Q5 := hide h5
    clear h5
    refine wp_region_quiet_below (by kernel_rfl) (by kernel_rfl) ?_
    repeat (go_big_quiet_step (first | exact Calls.regrown_of (specHallOk_v (unhide Q0) ((unhide Hv).below (below_regrown _ _ _)).rooms) | exact Calls.regrown_of (specGuildsOk_q (unhide Q1) ((unhide Hv).below (below_regrown _ _ _)).guilds) | exact Calls.regrown_of (l4Count_v (unhide Q3) ((unhide Hv).below (below_regrown _ _ _)).rooms (unhide QA)) | exact Calls.regrown_of (l1In_q (unhide Q5) _)))
    refine wpQuiet_nil ?_
    intro W1 hw'
    have hb : Below W.heap.size W W1 := by
      obtain ⟨⟨dq, osq⟩, hw''⟩ := hw'
      subst hw''
      exact below_regrown _ _ _
    clear hw' c0 c1 c2 c3 c4 c5
    go_wp2_with fail
    go_ret
    exact ⟨ret_bool (looseB_head (by unfold headB; rw [unhide Q0, unhide Q1, unhide Q3, unhide Q5]; simp)).symm, (unhide BB).trans (hb.mono (unhide BB).size)⟩
  have Q5 := hide h5
  clear h5
  have QH : Hid (headB m = true) := hide (by unfold headB; rw [unhide Q0, unhide Q1, unhide Q3, unhide Q5]; simp [h3, h4]; omega)
  refine wp_region_quiet_below (by kernel_rfl) (by kernel_rfl) ?_
  repeat (go_big_quiet_step (first | exact Calls.regrown_of (specHallOk_v (unhide Q0) ((unhide Hv).below (below_regrown _ _ _)).rooms) | exact Calls.regrown_of (specGuildsOk_q (unhide Q1) ((unhide Hv).below (below_regrown _ _ _)).guilds) | exact Calls.regrown_of (l4Count_v (unhide Q3) ((unhide Hv).below (below_regrown _ _ _)).rooms (unhide QA)) | exact Calls.regrown_of (l1In_q (unhide Q5) _)))
  refine wpQuiet_nil ?_
  intro W1 hw'
  have hb : Below W.heap.size W W1 := by
    obtain ⟨⟨dq, osq⟩, hw''⟩ := hw'
    subst hw''
    exact below_regrown _ _ _
  clear hw' c0 c1 c2 c3 c4 c5
  replace kb := hide ((unhide kb).below hb (unhide kb).lt)
  replace Hv := hide ((unhide Hv).below hb)
  replace BB := hide ((unhide BB).trans (hb.mono (unhide BB).size))
  clear hb
  have H3 := hide h3
  have H4 := hide h4
  clear Hv Q0 Q1 Q3 Q5 QA h2d h3b h4b h3 h4
  have c3 := (unhide kb).cell (i := 3) (v := .slice a3 m.desks.length p3) rfl
  go_wp2_with fail
  clear c3
  go_loopw [3, 4] (fun o i wr => ∃ k : Nat, k ≤ m.desks.length ∧ o = .bool (upOpen m k) ∧ i = .int .i64 k ∧ upDesks m k = true ∧ Blk wr w.heap.size 32 #[.slice a0 m.rooms.length p0, .slice a1 m.guilds.length p1, .slice a2 m.smiths.length p2, .slice a3 m.desks.length p3, .slice a4 m.paces.length p4, .int .i64 m.now] ∧ Below w.heap.size w wr) (fun _ i _ => m.desks.length - (intOf i).toNat)
  case atStart => exact ⟨0, Nat.zero_le _, rfl, rfl, rfl, unhide kb, unhide BB⟩
  case round =>
    obtain ⟨k, hk, rfl, rfl, hup, kb1, hb1⟩ := hrel
    clear kb BB
    have kb := hide kb1
    have BB := hide hb1
    have Hup := hide hup
    clear kb1 hb1 hup
    obtain ⟨ob, hob⟩ : ∃ b, upOpen m k = b := ⟨_, rfl⟩
    rw [hob]
    have Hob := hide hob
    clear hob
    have c3 := (unhide kb).cell (i := 3) (v := .slice a3 m.desks.length p3) rfl
    by_cases hlt : k < m.desks.length
    · rcases unhide R3 with e0 | ⟨b, off, rfl, hbw, hcl⟩
      · rw [e0] at hlt; simp at hlt
      obtain ⟨d0, d1, d2⟩ := desk_cells hcl hlt
      rw [← (unhide BB).cell (p := ⟨b, off + k * 3, none⟩) hbw] at d0
      rw [← (unhide BB).cell (p := ⟨b, off + k * 3 + 2, none⟩) hbw] at d2
      clear d1 hcl
      have HU := hide (show upDesks m (k + 1) = (upDesks m k && deskB (recAt m.desks k)) from all_up k)
      have HO := hide (show upOpen m (k + 1) = (upOpen m k || (recAt m.desks k).1) from any_up k)
      have HL := hide (looseB_desk (m := m) hlt)
      generalize recAt m.desks k = dd at *
      obtain ⟨op, who, mk⟩ := dd
      simp only at d0 d2
      cases hmk : inB mk (-900000000000) 900000000000
      · cases ob
        all_goals
          go_wp2_with (go_at_call 110; refine (l1In_any _ _ _ _).mono ?_; rintro e w' ⟨rfl, h9⟩; subst w')
          go_ret
          exact ⟨ret_bool (unhide HL hmk).symm, unhide BB⟩
      · cases ob
        all_goals
          go_wp2_with (go_at_call 110; refine (l1In_any _ _ _ _).mono ?_; rintro e w' ⟨rfl, h9⟩; subst w')
          go_roundw
          case rel => exact ⟨k + 1, by omega, by rw [unhide HO, unhide Hob]; simp, by go_num, by rw [unhide HU, unhide Hup]; exact hmk, unhide kb, unhide BB⟩
          case measure => simp [intOf]; omega
    · obtain rfl : k = m.desks.length := by omega
      have QD := Hup
      clear Hup
      have c4 := (unhide kb).cell (i := 4) (v := .slice a4 m.paces.length p4) rfl
      go_wp2_with fail
      clear c3 c4
      go_loopw [5] (fun i wr => ∃ k : Nat, k ≤ m.paces.length ∧ i = .int .i64 k ∧ upPaces m k = true ∧ Blk wr w.heap.size 32 #[.slice a0 m.rooms.length p0, .slice a1 m.guilds.length p1, .slice a2 m.smiths.length p2, .slice a3 m.desks.length p3, .slice a4 m.paces.length p4, .int .i64 m.now] ∧ Below w.heap.size w wr) (fun i _ => m.paces.length - (intOf i).toNat)
      case atStart => exact ⟨0, Nat.zero_le _, rfl, rfl, unhide kb, unhide BB⟩
      case round =>
        obtain ⟨k, hk, rfl, hup, kb1, hb1⟩ := hrel
        clear kb BB
        have kb := hide kb1
        have BB := hide hb1
        have Hup := hide hup
        clear kb1 hb1 hup
        have c0 := (unhide kb).cell (i := 0) (v := .slice a0 m.rooms.length p0) rfl
        have c4 := (unhide kb).cell (i := 4) (v := .slice a4 m.paces.length p4) rfl
        by_cases hlt : k < m.paces.length
        · have hlr : k < m.rooms.length := by have := unhide H4; omega
          rcases unhide R4 with e0 | ⟨b, off, rfl, hbw, hcl⟩
          · rw [e0] at hlt; simp at hlt
          rcases unhide R0 with e0 | ⟨b', off', rfl, hbw', hcl'⟩
          · rw [e0] at hlr; simp at hlr
          have d0 := num_cell hcl hlt
          obtain ⟨_, pv, d1, hip⟩ := hcl' k hlr
          rw [← (unhide BB).cell (p := ⟨b, off + k, none⟩) hbw] at d0
          rw [← (unhide BB).cell (p := ⟨b', off' + k * 2 + 1, none⟩) hbw'] at d1
          obtain ⟨pa, pcap, rfl, hpc, hpm, _⟩ := hip
          clear hcl hcl'
          have HU := hide (show upPaces m (k + 1) = (upPaces m k && paceInB m k) from all_up k)
          have HL := hide (looseB_pace (m := m) hlt)
          have HP := hide (show paceInB m k = inB (recAt m.paces k) 0 (((roomAt m.rooms k).2.length : Int) - 1) from rfl)
          generalize recAt m.paces k = z at *
          generalize (roomAt m.rooms k).2.length = nl at *
          have hwr : IntKind.i64.wrap ((nl : Int) - 1) = (nl : Int) - 1 := by rw [IntKind.wrap_i64]; omega
          cases hz : inB z 0 ((nl : Int) - 1)
          · go_wp2_with fail
            go_quiet (exact Calls.quiet_of_same (l1In_any _ _ _ _))
            go_wp2_with fail
            go_ret
            exact ⟨ret_bool (unhide HL (by rw [unhide HP]; exact hz)).symm, drewN_below (unhide BB) _⟩
          · go_wp2_with fail
            go_quiet (exact Calls.quiet_of_same (l1In_any _ _ _ _))
            go_wp2_with fail
            go_roundw
            case rel => exact ⟨k + 1, by omega, by go_num, by rw [unhide HU, unhide Hup, unhide HP, hz]; rfl, (unhide kb).drewN _, drewN_below (unhide BB) _⟩
            case measure => simp [intOf]; omega
        · obtain rfl : k = m.paces.length := by omega
          have QP := Hup
          clear Hup
          have c2 := (unhide kb).cell (i := 2) (v := .slice a2 m.smiths.length p2) rfl
          go_wp2_with fail
          clear c0 c2 c4
          go_loopw [6] (fun i wr => ∃ k : Nat, k ≤ m.smiths.length ∧ i = .int .i64 k ∧ upSmiths m k = true ∧ Blk wr w.heap.size 32 #[.slice a0 m.rooms.length p0, .slice a1 m.guilds.length p1, .slice a2 m.smiths.length p2, .slice a3 m.desks.length p3, .slice a4 m.paces.length p4, .int .i64 m.now] ∧ Below w.heap.size w wr) (fun i _ => m.smiths.length - (intOf i).toNat)
          case atStart => exact ⟨0, Nat.zero_le _, rfl, rfl, unhide kb, unhide BB⟩
          case round =>
            obtain ⟨k, hk, rfl, hup, kb1, hb1⟩ := hrel
            clear kb BB
            have kb := hide kb1
            have BB := hide hb1
            have Hup := hide hup
            clear kb1 hb1 hup
            have c1 := (unhide kb).cell (i := 1) (v := .slice a1 m.guilds.length p1) rfl
            have c2 := (unhide kb).cell (i := 2) (v := .slice a2 m.smiths.length p2) rfl
            have c3 := (unhide kb).cell (i := 3) (v := .slice a3 m.desks.length p3) rfl
            by_cases hlt : k < m.smiths.length
            · rcases unhide R2 with e0 | ⟨b, off, rfl, hbw, hcl⟩
              · rw [e0] at hlt; simp at hlt
              obtain ⟨d0, d1, d2, d3, d4, d5, d6, d7, d8, d9, d10⟩ := smith_cells hcl hlt
              rw [← (unhide BB).cell (p := ⟨b, off + k * 11, none⟩) hbw] at d0
              rw [← (unhide BB).cell (p := ⟨b, off + k * 11 + 1, none⟩) hbw] at d1
              rw [← (unhide BB).cell (p := ⟨b, off + k * 11 + 2, none⟩) hbw] at d2
              rw [← (unhide BB).cell (p := ⟨b, off + k * 11 + 3, none⟩) hbw] at d3
              rw [← (unhide BB).cell (p := ⟨b, off + k * 11 + 4, none⟩) hbw] at d4
              rw [← (unhide BB).cell (p := ⟨b, off + k * 11 + 5, none⟩) hbw] at d5
              rw [← (unhide BB).cell (p := ⟨b, off + k * 11 + 6, none⟩) hbw] at d6
              rw [← (unhide BB).cell (p := ⟨b, off + k * 11 + 7, none⟩) hbw] at d7
              rw [← (unhide BB).cell (p := ⟨b, off + k * 11 + 8, none⟩) hbw] at d8
              rw [← (unhide BB).cell (p := ⟨b, off + k * 11 + 9, none⟩) hbw] at d9
              rw [← (unhide BB).cell (p := ⟨b, off + k * 11 + 10, none⟩) hbw] at d10
              clear hcl
              have HU := hide (show upSmiths m (k + 1) = (upSmiths m k && (hereB m (recAt m.smiths k) && seatB m (recAt m.smiths k))) from all_up k)
              have HL := hide (looseB_smith (m := m) hlt)
              generalize recAt m.smiths k = ss at *
              obtain ⟨st, be, rk, my, gu, lo, hi, hd, ca, ut, wk⟩ := ss
              simp only at d0 d1 d2 d3 d4 d5 d6 d7 d8 d9 d10
              have hl0 : w.heap.size < wr.heap.size := (unhide kb).lt
              go_wp2_with fail
              clear c1 c2 c3 d0 d1 d2 d3 d4 d5 d6 d7 d8 d9 d10
              obtain ⟨qs, hqs⟩ : ∃ q, smithB (st, be, rk, my, gu, lo, hi, hd, ca, ut, wk) = q := ⟨_, rfl⟩
              have Hqs := hide hqs
              clear hqs
              refine (specSmithOk_q (unhide Hqs) _).mono ?_
              rintro e w1 ⟨rfl, hb⟩
              have ks : Hid (Blk w1 wr.heap.size 41 #[.int .i64 st, .int .i64 be, .int .i64 rk, .int .i64 my, .int .i64 gu, .int .i64 lo, .int .i64 hi, .int .i64 hd, .int .i64 ca, .int .i64 ut, .int .i64 wk]) := hide ((Blk.new wr _ _).below hb (by simp))
              replace kb := hide (((unhide kb).alloc (.cells #[.int .i64 st, .int .i64 be, .int .i64 rk, .int .i64 my, .int .i64 gu, .int .i64 lo, .int .i64 hi, .int .i64 hd, .int .i64 ca, .int .i64 ut, .int .i64 wk] 41)).below hb (by simp; omega))
              replace BB := hide ((((unhide BB).alloc (unhide BB).size (.cells #[.int .i64 st, .int .i64 be, .int .i64 rk, .int .i64 my, .int .i64 gu, .int .i64 lo, .int .i64 hi, .int .i64 hd, .int .i64 ca, .int .i64 ut, .int .i64 wk] 41))).trans (hb.mono (by simp; have := (unhide BB).size; omega)))
              clear hb hl0
              generalize wr.heap.size = sb at *
              have c1 := (unhide kb).cell (i := 1) (v := .slice a1 m.guilds.length p1) rfl
              have c3 := (unhide kb).cell (i := 3) (v := .slice a3 m.desks.length p3) rfl
              have d0 := (unhide ks).cell (i := 0) (v := .int .i64 st) rfl
              have d1 := (unhide ks).cell (i := 1) (v := .int .i64 be) rfl
              have d4 := (unhide ks).cell (i := 4) (v := .int .i64 gu) rfl
              cases qs
              · go_wp2_with fail
                go_ret
                exact ⟨ret_bool (unhide HL (by unfold hereB; rw [unhide Hqs]; rfl)).symm, unhide BB⟩
              · by_cases hst : st = 0
                · subst hst
                  have hne : ((0 : Int) != 0) = false := rfl
                  go_wp2_with fail
                  have Hps : Hid (presS (0, be, rk, my, gu, lo, hi, hd, ca, ut, wk) = false) := hide rfl
                  have e0 := cell_regrown ((unhide ks).cell (i := 0) (v := .int .i64 0) rfl)
                  have e1 := cell_regrown ((unhide ks).cell (i := 1) (v := .int .i64 be) rfl)
                  have e2 := cell_regrown ((unhide ks).cell (i := 2) (v := .int .i64 rk) rfl)
                  have e3 := cell_regrown ((unhide ks).cell (i := 3) (v := .int .i64 my) rfl)
                  have e4 := cell_regrown ((unhide ks).cell (i := 4) (v := .int .i64 gu) rfl)
                  have e5 := cell_regrown ((unhide ks).cell (i := 5) (v := .int .i64 lo) rfl)
                  have e6 := cell_regrown ((unhide ks).cell (i := 6) (v := .int .i64 hi) rfl)
                  have e7 := cell_regrown ((unhide ks).cell (i := 7) (v := .int .i64 hd) rfl)
                  have e8 := cell_regrown ((unhide ks).cell (i := 8) (v := .int .i64 ca) rfl)
                  have e9 := cell_regrown ((unhide ks).cell (i := 9) (v := .int .i64 ut) rfl)
                  have e10 := cell_regrown ((unhide ks).cell (i := 10) (v := .int .i64 wk) rfl)
                  refine wp_region_quiet_below (by kernel_rfl) (by kernel_rfl) ?_
                  repeat (go_big_quiet_step (first | exact Calls.regrown_of (l11Present_q (unhide Hps) _)))
                  refine wpQuiet_nil ?_
                  intro W1 hw'
                  have hb : Below w1.heap.size w1 W1 := by
                    obtain ⟨⟨dq, osq⟩, hw''⟩ := hw'
                    subst hw''
                    exact below_regrown _ _ _
                  clear hw'
                  replace kb := hide ((unhide kb).below hb (unhide kb).lt)
                  replace BB := hide ((unhide BB).trans (hb.mono (unhide BB).size))
                  clear hb
                  go_wp2_with fail
                  go_roundw
                  case rel => exact ⟨k + 1, by omega, by go_num, by rw [unhide HU, unhide Hup]; unfold hereB seatB; rw [unhide Hqs, unhide Hps]; rfl, unhide kb, unhide BB⟩
                  case measure => simp [intOf]; omega
                have hne : (st != 0) = true := by simpa using hst
                by_cases hgu : (m.guilds.length : Int) ≤ gu
                · go_wp2_with fail
                  go_ret
                  exact ⟨ret_bool (unhide HL (by unfold hereB; rw [unhide Hqs]; simp [hst]; intro h9; omega)).symm, unhide BB⟩
                by_cases hbe : (m.desks.length : Int) ≤ be
                · go_wp2_with fail
                  go_ret
                  exact ⟨ret_bool (unhide HL (by unfold hereB; rw [unhide Hqs]; simp [hst]; intro h9; omega)).symm, unhide BB⟩
                go_wp2_with fail
                have Hh : Hid (hereB m (st, be, rk, my, gu, lo, hi, hd, ca, ut, wk) = true) := hide (by unfold hereB; rw [unhide Hqs]; simp; omega)
                obtain ⟨ps, hps⟩ : ∃ q, presS (st, be, rk, my, gu, lo, hi, hd, ca, ut, wk) = q := ⟨_, rfl⟩
                have Hps := hide hps
                clear hps
                have e0 := cell_regrown ((unhide ks).cell (i := 0) (v := .int .i64 st) rfl)
                have e1 := cell_regrown ((unhide ks).cell (i := 1) (v := .int .i64 be) rfl)
                have e2 := cell_regrown ((unhide ks).cell (i := 2) (v := .int .i64 rk) rfl)
                have e3 := cell_regrown ((unhide ks).cell (i := 3) (v := .int .i64 my) rfl)
                have e4 := cell_regrown ((unhide ks).cell (i := 4) (v := .int .i64 gu) rfl)
                have e5 := cell_regrown ((unhide ks).cell (i := 5) (v := .int .i64 lo) rfl)
                have e6 := cell_regrown ((unhide ks).cell (i := 6) (v := .int .i64 hi) rfl)
                have e7 := cell_regrown ((unhide ks).cell (i := 7) (v := .int .i64 hd) rfl)
                have e8 := cell_regrown ((unhide ks).cell (i := 8) (v := .int .i64 ca) rfl)
                have e9 := cell_regrown ((unhide ks).cell (i := 9) (v := .int .i64 ut) rfl)
                have e10 := cell_regrown ((unhide ks).cell (i := 10) (v := .int .i64 wk) rfl)
                have e11 := cell_regrown ((unhide kb).cell (i := 3) (v := .slice a3 m.desks.length p3) rfl)
                cases ps
                · refine wp_region_quiet_below (by kernel_rfl) (by kernel_rfl) ?_
                  repeat (go_big_quiet_step (first | exact Calls.regrown_of (l11Present_q (unhide Hps) _)))
                  refine wpQuiet_nil ?_
                  intro W1 hw'
                  have hb : Below w1.heap.size w1 W1 := by
                    obtain ⟨⟨dq, osq⟩, hw''⟩ := hw'
                    subst hw''
                    exact below_regrown _ _ _
                  clear hw'
                  replace kb := hide ((unhide kb).below hb (unhide kb).lt)
                  replace BB := hide ((unhide BB).trans (hb.mono (unhide BB).size))
                  clear hb
                  go_wp2_with fail
                  go_roundw
                  case rel => exact ⟨k + 1, by omega, by go_num, by rw [unhide HU, unhide Hup]; rw [unhide Hh]; unfold seatB; rw [unhide Hps]; rfl, unhide kb, unhide BB⟩
                  case measure => simp [intOf]; omega
                obtain ⟨b0, b1, b2, m0, m1, _⟩ := hereB_of (unhide Hh) (unhide Hps)
                simp only at b0 b1 b2 m0 m1
                obtain ⟨j, rfl⟩ : ∃ j : Nat, be = j := ⟨be.toNat, by omega⟩
                have hj : j < m.desks.length := by omega
                rcases unhide R3 with e9 | ⟨b', off', rfl, hbw', hcl'⟩
                · rw [e9] at hj; simp at hj
                obtain ⟨t0, _, t2⟩ := desk_cells hcl' hj
                rw [← (unhide BB).cell (p := ⟨b', off' + j * 3, none⟩) hbw'] at t0
                rw [← (unhide BB).cell (p := ⟨b', off' + j * 3 + 2, none⟩) hbw'] at t2
                clear hcl'
                have HS := hide (show seatB m (st, (j : Int), rk, my, gu, lo, hi, hd, ca, ut, wk) = (!presS (st, (j : Int), rk, my, gu, lo, hi, hd, ca, ut, wk) || ((recAt m.desks j).1 && (bitB my j && bandB hd (recAt m.desks j).2.2))) from rfl)
                generalize recAt m.desks j = dd at *
                obtain ⟨op, who, mk⟩ := dd
                simp only at t0 t2
                have t0 := cell_regrown t0
                have t2 := cell_regrown t2
                obtain ⟨qb, hqb⟩ : ∃ q, bitB my j = q := ⟨_, rfl⟩
                have Hbit := hide hqb
                obtain ⟨qd, hqd⟩ : ∃ q, bandB hd mk = q := ⟨_, rfl⟩
                have Hbd := hide hqd
                clear hqb hqd
                have HS2 := unhide HS
                simp only [unhide Hps, unhide Hbit, unhide Hbd] at HS2
                have HS3 := hide HS2
                clear HS HS2
                cases op
                · refine wp_region_quiet_below (by kernel_rfl) (by kernel_rfl) ?_
                  repeat (go_big_quiet_step (first | exact Calls.regrown_of (l11Present_q (unhide Hps) _) | exact Calls.regrown_of (l2Has_q (unhide Hbit) (by omega) (by omega) (by omega) (by omega) _) | exact Calls.regrown_of (specInBand_q (unhide Hbd) _)))
                  refine wpQuiet_nil ?_
                  intro W1 hw'
                  have hb : Below w1.heap.size w1 W1 := by
                    obtain ⟨⟨dq, osq⟩, hw''⟩ := hw'
                    subst hw''
                    exact below_regrown _ _ _
                  clear hw'
                  replace kb := hide ((unhide kb).below hb (unhide kb).lt)
                  replace BB := hide ((unhide BB).trans (hb.mono (unhide BB).size))
                  clear hb
                  go_wp2_with fail
                  go_ret
                  exact ⟨ret_bool (unhide HL (by rw [unhide HS3]; simp)).symm, unhide BB⟩
                cases qb
                · refine wp_region_quiet_below (by kernel_rfl) (by kernel_rfl) ?_
                  repeat (go_big_quiet_step (first | exact Calls.regrown_of (l11Present_q (unhide Hps) _) | exact Calls.regrown_of (l2Has_q (unhide Hbit) (by omega) (by omega) (by omega) (by omega) _) | exact Calls.regrown_of (specInBand_q (unhide Hbd) _)))
                  refine wpQuiet_nil ?_
                  intro W1 hw'
                  have hb : Below w1.heap.size w1 W1 := by
                    obtain ⟨⟨dq, osq⟩, hw''⟩ := hw'
                    subst hw''
                    exact below_regrown _ _ _
                  clear hw'
                  replace kb := hide ((unhide kb).below hb (unhide kb).lt)
                  replace BB := hide ((unhide BB).trans (hb.mono (unhide BB).size))
                  clear hb
                  go_wp2_with fail
                  go_ret
                  exact ⟨ret_bool (unhide HL (by rw [unhide HS3]; simp)).symm, unhide BB⟩
                cases qd
                · refine wp_region_quiet_below (by kernel_rfl) (by kernel_rfl) ?_
                  repeat (go_big_quiet_step (first | exact Calls.regrown_of (l11Present_q (unhide Hps) _) | exact Calls.regrown_of (l2Has_q (unhide Hbit) (by omega) (by omega) (by omega) (by omega) _) | exact Calls.regrown_of (specInBand_q (unhide Hbd) _)))
                  refine wpQuiet_nil ?_
                  intro W1 hw'
                  have hb : Below w1.heap.size w1 W1 := by
                    obtain ⟨⟨dq, osq⟩, hw''⟩ := hw'
                    subst hw''
                    exact below_regrown _ _ _
                  clear hw'
                  replace kb := hide ((unhide kb).below hb (unhide kb).lt)
                  replace BB := hide ((unhide BB).trans (hb.mono (unhide BB).size))
                  clear hb
                  go_wp2_with fail
                  go_ret
                  exact ⟨ret_bool (unhide HL (by rw [unhide HS3]; simp)).symm, unhide BB⟩
                refine wp_region_quiet_below (by kernel_rfl) (by kernel_rfl) ?_
                repeat (go_big_quiet_step (first | exact Calls.regrown_of (l11Present_q (unhide Hps) _) | exact Calls.regrown_of (l2Has_q (unhide Hbit) (by omega) (by omega) (by omega) (by omega) _) | exact Calls.regrown_of (specInBand_q (unhide Hbd) _)))
                refine wpQuiet_nil ?_
                intro W1 hw'
                have hb : Below w1.heap.size w1 W1 := by
                  obtain ⟨⟨dq, osq⟩, hw''⟩ := hw'
                  subst hw''
                  exact below_regrown _ _ _
                clear hw'
                replace kb := hide ((unhide kb).below hb (unhide kb).lt)
                replace BB := hide ((unhide BB).trans (hb.mono (unhide BB).size))
                clear hb
                go_wp2_with fail
                go_roundw
                case rel => exact ⟨k + 1, by omega, by go_num, by rw [unhide HU, unhide Hup]; rw [unhide Hh, unhide HS3]; rfl, unhide kb, unhide BB⟩
                case measure => simp [intOf]; omega
            · obtain rfl : k = m.smiths.length := by omega
              go_wp2_with fail
              go_ret
              exact ⟨ret_bool (by rw [looseB_all (unhide QH) (unhide QD) (unhide QP) (unhide Hup)]; exact (unhide Hob).symm), unhide BB⟩

end Go.Proofs.YtmfmfdiphlkdiaaGreat

/- The model's SmithyOk: its contract. Condition: the smithy can be read. -/
namespace Go.Proofs.YtmfmfdiphlkdiaaGreat
open Go.ChangeShapes Go.WideShapes Go.ChangeAt Go.RowKit Go.Sort
set_option linter.unusedVariables false

theorem scan_none {ss : List SmithV} {b : Int} {k : Nat} (h : scanV ss b k = none) : ∀ n, k ≤ n → scanV ss b n = none
  | 0, hn => by obtain rfl : k = 0 := by omega
                exact h
  | n + 1, hn => by
    by_cases e : k = n + 1
    · rw [← e]; exact h
    · have := scan_none h n (by omega)
      unfold scanV; rw [this]
theorem scan_skip {ss : List SmithV} {b wk : Int} {wt : Bool} {k : Nat} (h : scanV ss b k = some (wk, wt)) (hs : ¬ ((recAt ss k).2.1 = b ∧ presS (recAt ss k) = true)) : scanV ss b (k + 1) = some (wk, wt) := by
  unfold scanV; rw [h]; simp only [if_neg hs]
theorem scan_wait {ss : List SmithV} {b wk : Int} {wt : Bool} {k : Nat} (h : scanV ss b k = some (wk, wt)) (h1 : (recAt ss k).2.1 = b) (h2 : presS (recAt ss k) = true) (h3 : (recAt ss k).1 = 2) : scanV ss b (k + 1) = some (wk, true) := by
  unfold scanV; rw [h]; simp only [if_pos (And.intro h1 h2), if_pos h3]
theorem scan_two {ss : List SmithV} {b wk : Int} {wt : Bool} {k : Nat} (h : scanV ss b k = some (wk, wt)) (h1 : (recAt ss k).2.1 = b) (h2 : presS (recAt ss k) = true) (h3 : ¬ (recAt ss k).1 = 2) (h4 : 0 ≤ wk) : scanV ss b (k + 1) = none := by
  unfold scanV; rw [h]; simp only [if_pos (And.intro h1 h2), if_neg h3, if_pos h4]
theorem scan_work {ss : List SmithV} {b wk : Int} {wt : Bool} {k : Nat} (h : scanV ss b k = some (wk, wt)) (h1 : (recAt ss k).2.1 = b) (h2 : presS (recAt ss k) = true) (h3 : ¬ (recAt ss k).1 = 2) (h4 : ¬ 0 ≤ wk) : scanV ss b (k + 1) = some ((k : Int), wt) := by
  unfold scanV; rw [h]; simp only [if_pos (And.intro h1 h2), if_neg h3, if_neg h4]
theorem smyB_loose {m : SmyV} (h : looseB m = false) : smyB m = false := by unfold smyB; rw [h]; rfl
theorem smyB_bench {m : SmyV} {k : Nat} (hk : k < m.desks.length) (h : benchOkB m k = false) : smyB m = false := by unfold smyB; rw [all_no hk h]; simp
theorem smyB_all {m : SmyV} (h : looseB m = true) (h2 : (List.range m.desks.length).all (benchOkB m) = true) : smyB m = true := by unfold smyB; rw [h, h2]; rfl
theorem benchOkB_none {m : SmyV} {k : Nat} (h : scanV m.smiths k m.smiths.length = none) : benchOkB m k = false := by unfold benchOkB; rw [h]
theorem benchOkB_some {m : SmyV} {k : Nat} {wk : Int} {wt : Bool} (h : scanV m.smiths k m.smiths.length = some (wk, wt)) : benchOkB m k = ((recAt m.desks k).2.1 == wk && !(wt && decide (wk < 0))) := by unfold benchOkB; rw [h]
theorem l11Loose_q {w : World} {v0 v1 v2 v3 v4 : Value} {m : SmyV} {q : Bool} (hq : looseB m = q) (h : Smy w v0 v1 v2 v3 v4 m) :
    Calls Tryz.prog 61 #[.agg #[v0, v1, v2, v3, v4, .int .i64 m.now]] w fun e w' => e = .returned (.bool q) ∧ Below w.heap.size w w' := by
  have := l11Loose_any h; rw [hq] at this; exact this

set_option maxRecDepth 100000 in
set_option maxHeartbeats 8000000 in
theorem specSmithyOk_any {w : World} {v0 v1 v2 v3 v4 : Value} {m : SmyV} (h : Smy w v0 v1 v2 v3 v4 m) :
    Calls Tryz.prog 20 #[.agg #[v0, v1, v2, v3, v4, .int .i64 m.now]] w fun e w' => e = .returned (.bool (smyB m)) ∧ Below w.heap.size w w' := by
  have Hv := hide (h.alloc (.cells #[v0, v1, v2, v3, v4, .int .i64 m.now] 32))
  obtain ⟨h0, h1, h2, h3, h4⟩ := h
  obtain ⟨a0, p0, rfl, hc0, hm0, _⟩ := h0
  obtain ⟨a1, p1, rfl, hc1, hm1, _⟩ := h1
  obtain ⟨a2, p2, rfl, hc2, hm2, r2⟩ := h2
  obtain ⟨a3, p3, rfl, hc3, hm3, r3⟩ := h3
  obtain ⟨a4, p4, rfl, hc4, hm4, _⟩ := h4
  have R2 := hide r2
  have R3 := hide r3
  clear r2 r3
  obtain ⟨ql, hql⟩ : ∃ q, looseB m = q := ⟨_, rfl⟩
  have QL := hide hql
  clear hql
  go_enter Tryz.func20, Tryz.ntmps20
  go_wp2_with fail
  refine (l11Loose_q (unhide QL) (unhide Hv)).mono ?_
  rintro e w1 ⟨rfl, hb⟩
  have kb : Hid (Blk w1 w.heap.size 32 #[.slice a0 m.rooms.length p0, .slice a1 m.guilds.length p1, .slice a2 m.smiths.length p2, .slice a3 m.desks.length p3, .slice a4 m.paces.length p4, .int .i64 m.now]) := hide ((Blk.new w _ _).below hb (by simp))
  have BB : Hid (Below w.heap.size w w1) := hide (((Below.refl _ _).alloc (Nat.le_refl _) _).trans (hb.mono (by simp)))
  clear hb Hv
  have c3 := (unhide kb).cell (i := 3) (v := .slice a3 m.desks.length p3) rfl
  cases ql
  · go_wp2_with fail
    go_ret
    exact ⟨ret_bool (smyB_loose (unhide QL)).symm, unhide BB⟩
  go_wp2_with fail
  clear c3
  go_loopw [3] (fun b wr => ∃ k : Nat, k ≤ m.desks.length ∧ b = .int .i64 k ∧ (List.range k).all (benchOkB m) = true ∧ Blk wr w.heap.size 32 #[.slice a0 m.rooms.length p0, .slice a1 m.guilds.length p1, .slice a2 m.smiths.length p2, .slice a3 m.desks.length p3, .slice a4 m.paces.length p4, .int .i64 m.now] ∧ Below w.heap.size w wr) (fun b _ => m.desks.length - (intOf b).toNat)
  case atStart => exact ⟨0, Nat.zero_le _, rfl, rfl, unhide kb, unhide BB⟩
  case round =>
    obtain ⟨j, hj, rfl, hup, kb1, hb1⟩ := hrel
    clear kb BB
    have kb := hide kb1
    have BB := hide hb1
    have Hup := hide hup
    clear kb1 hb1 hup
    have c3 := (unhide kb).cell (i := 3) (v := .slice a3 m.desks.length p3) rfl
    by_cases hlt : j < m.desks.length
    · have c2 := (unhide kb).cell (i := 2) (v := .slice a2 m.smiths.length p2) rfl
      go_wp2_with fail
      clear c2 c3
      obtain ⟨wo, rfl⟩ : ∃ wo, wo = wr := ⟨wr, rfl⟩
      go_loopw [4, 5, 6] (fun x y i wr => ∃ (k : Nat) (wk : Int) (wt : Bool), k ≤ m.smiths.length ∧ x = .int .i64 wk ∧ y = .bool wt ∧ i = .int .i64 k ∧ -1 ≤ wk ∧ wk ≤ (k : Int) ∧ scanV m.smiths j k = some (wk, wt) ∧ Blk wr w.heap.size 32 #[.slice a0 m.rooms.length p0, .slice a1 m.guilds.length p1, .slice a2 m.smiths.length p2, .slice a3 m.desks.length p3, .slice a4 m.paces.length p4, .int .i64 m.now] ∧ Below w.heap.size w wr) (fun _ _ i _ => m.smiths.length - (intOf i).toNat)
      case atStart => exact ⟨0, -1, false, Nat.zero_le _, rfl, rfl, rfl, by omega, by omega, rfl, unhide kb, unhide BB⟩
      case round =>
        obtain ⟨k, wkk, wt, hk, rfl, rfl, rfl, wk0, wk1, hsc, kb1, hb1⟩ := hrel
        clear kb BB
        have kb := hide kb1
        have BB := hide hb1
        have Hsc := hide hsc
        clear kb1 hb1 hsc
        have c2 := (unhide kb).cell (i := 2) (v := .slice a2 m.smiths.length p2) rfl
        by_cases hls : k < m.smiths.length
        · rcases unhide R2 with e0 | ⟨b, off, rfl, hbw, hcl⟩
          · rw [e0] at hls; simp at hls
          obtain ⟨d0, d1, d2, d3, d4, d5, d6, d7, d8, d9, d10⟩ := smith_cells hcl hls
          rw [← (unhide BB).cell (p := ⟨b, off + k * 11, none⟩) hbw] at d0
          rw [← (unhide BB).cell (p := ⟨b, off + k * 11 + 1, none⟩) hbw] at d1
          rw [← (unhide BB).cell (p := ⟨b, off + k * 11 + 2, none⟩) hbw] at d2
          rw [← (unhide BB).cell (p := ⟨b, off + k * 11 + 3, none⟩) hbw] at d3
          rw [← (unhide BB).cell (p := ⟨b, off + k * 11 + 4, none⟩) hbw] at d4
          rw [← (unhide BB).cell (p := ⟨b, off + k * 11 + 5, none⟩) hbw] at d5
          rw [← (unhide BB).cell (p := ⟨b, off + k * 11 + 6, none⟩) hbw] at d6
          rw [← (unhide BB).cell (p := ⟨b, off + k * 11 + 7, none⟩) hbw] at d7
          rw [← (unhide BB).cell (p := ⟨b, off + k * 11 + 8, none⟩) hbw] at d8
          rw [← (unhide BB).cell (p := ⟨b, off + k * 11 + 9, none⟩) hbw] at d9
          rw [← (unhide BB).cell (p := ⟨b, off + k * 11 + 10, none⟩) hbw] at d10
          clear hcl
          have S1 := hide (fun hs => scan_skip (unhide Hsc) hs)
          have S2 := hide (fun h1 h2 h3 => scan_wait (unhide Hsc) h1 h2 h3)
          have S3 := hide (fun h1 h2 h3 h4 => scan_two (unhide Hsc) h1 h2 h3 h4)
          have S4 := hide (fun h1 h2 h3 h4 => scan_work (unhide Hsc) h1 h2 h3 h4)
          generalize recAt m.smiths k = ss at *
          obtain ⟨st, be, rk, my, gu, lo, hi, hd, ca, ut, wk⟩ := ss
          simp only at d0 d1 d2 d3 d4 d5 d6 d7 d8 d9 d10
          have hl0 : w.heap.size < wr.heap.size := (unhide kb).lt
          by_cases hbe : be = (j : Int)
          rotate_left
          · have hbn : (be != (j : Int)) = true := by simpa using hbe
            go_wp2_with fail
            go_roundw
            case rel => exact ⟨k + 1, wkk, wt, by omega, rfl, rfl, by go_num, by omega, by omega, unhide S1 (fun h9 => hbe h9.1), (unhide kb).alloc _, (unhide BB).alloc (unhide BB).size _⟩
            case measure => simp [intOf]; omega
          subst hbe
          have hbn : ((j : Int) != (j : Int)) = false := by simp
          obtain ⟨ps, hps⟩ : ∃ q, presS (st, (j : Int), rk, my, gu, lo, hi, hd, ca, ut, wk) = q := ⟨_, rfl⟩
          have Hps := hide hps
          clear hps
          go_wp2_with fail
          clear c2 d0 d1 d2 d3 d4 d5 d6 d7 d8 d9 d10
          refine (l11Present_q (unhide Hps) _).mono ?_
          rintro e w2 ⟨rfl, hb⟩
          have ks : Hid (Blk w2 wr.heap.size 41 #[.int .i64 st, .int .i64 (j : Int), .int .i64 rk, .int .i64 my, .int .i64 gu, .int .i64 lo, .int .i64 hi, .int .i64 hd, .int .i64 ca, .int .i64 ut, .int .i64 wk]) := hide ((Blk.new wr _ _).below hb (by simp))
          replace kb := hide (((unhide kb).alloc (.cells #[.int .i64 st, .int .i64 (j : Int), .int .i64 rk, .int .i64 my, .int .i64 gu, .int .i64 lo, .int .i64 hi, .int .i64 hd, .int .i64 ca, .int .i64 ut, .int .i64 wk] 41)).below hb (by simp; omega))
          replace BB := hide ((((unhide BB).alloc (unhide BB).size (.cells #[.int .i64 st, .int .i64 (j : Int), .int .i64 rk, .int .i64 my, .int .i64 gu, .int .i64 lo, .int .i64 hi, .int .i64 hd, .int .i64 ca, .int .i64 ut, .int .i64 wk] 41))).trans (hb.mono (by simp; have := (unhide BB).size; omega)))
          clear hb hl0
          have d0 := (unhide ks).cell (i := 0) (v := .int .i64 st) rfl
          cases ps
          · go_wp2_with fail
            go_roundw
            case rel => exact ⟨k + 1, wkk, wt, by omega, rfl, rfl, by go_num, by omega, by omega, unhide S1 (fun h9 => by have h8 := h9.2; rw [unhide Hps] at h8; cases h8), unhide kb, unhide BB⟩
            case measure => simp [intOf]; omega
          by_cases hst : st = 2
          · subst hst
            go_wp2_with fail
            go_roundw
            case rel => exact ⟨k + 1, wkk, true, by omega, rfl, rfl, by go_num, by omega, by omega, unhide S2 (by first | rfl | trivial) (unhide Hps) (by first | rfl | trivial), unhide kb, unhide BB⟩
            case measure => simp [intOf]; omega
          have hsn : (st == 2) = false := by simpa using hst
          by_cases hw0 : 0 ≤ wkk
          · go_wp2_with fail
            go_ret
            exact ⟨ret_bool (smyB_bench hlt (benchOkB_none (scan_none (unhide S3 (by first | rfl | trivial) (unhide Hps) hst hw0) _ (by omega)))).symm, unhide BB⟩
          go_wp2_with fail
          go_roundw
          case rel => exact ⟨k + 1, (k : Int), wt, by omega, rfl, rfl, by go_num, by omega, by omega, unhide S4 (by first | rfl | trivial) (unhide Hps) hst hw0, unhide kb, unhide BB⟩
          case measure => simp [intOf]; omega
        · obtain rfl : k = m.smiths.length := by omega
          have c3 := (unhide kb).cell (i := 3) (v := .slice a3 m.desks.length p3) rfl
          rcases unhide R3 with e0 | ⟨b', off', rfl, hbw', hcl'⟩
          · rw [e0] at hlt; simp at hlt
          obtain ⟨_, t1, _⟩ := desk_cells hcl' hlt
          rw [← (unhide BB).cell (p := ⟨b', off' + j * 3 + 1, none⟩) hbw'] at t1
          clear hcl'
          have HB := hide (benchOkB_some (unhide Hsc))
          have HL := hide (smyB_bench (m := m) hlt)
          have HU := hide (show (List.range (j + 1)).all (benchOkB m) = ((List.range j).all (benchOkB m) && benchOkB m j) from all_up j)
          generalize recAt m.desks j = dd at *
          obtain ⟨op, who, mk⟩ := dd
          simp only at t1
          by_cases hwho : who = wkk
          rotate_left
          · have hwn : (who != wkk) = true := by simpa using hwho
            go_wp2_with fail
            go_ret
            exact ⟨ret_bool (unhide HL (by rw [unhide HB]; simp [hwho])).symm, unhide BB⟩
          have hwn : (who != wkk) = false := by simpa using hwho
          have Hwho := hide hwho
          clear hwho
          cases wt
          · go_wp2_with fail
            go_roundw
            case rel => exact ⟨j + 1, by omega, by go_num, by rw [unhide HU, unhide Hup, unhide HB, unhide Hwho]; simp, unhide kb, unhide BB⟩
            case measure => simp [intOf]; omega
          by_cases hw0 : wkk < 0
          · go_wp2_with fail
            go_ret
            exact ⟨ret_bool (unhide HL (by rw [unhide HB]; simp [hw0])).symm, unhide BB⟩
          go_wp2_with fail
          go_roundw
          case rel => exact ⟨j + 1, by omega, by go_num, by rw [unhide HU, unhide Hup, unhide HB, unhide Hwho]; simp; omega, unhide kb, unhide BB⟩
          case measure => simp [intOf]; omega
    · obtain rfl : j = m.desks.length := by omega
      go_wp2_with fail
      go_ret
      exact ⟨ret_bool (smyB_all (unhide QL) (unhide Hup)).symm, unhide BB⟩

end Go.Proofs.YtmfmfdiphlkdiaaGreat

/- Heaps and queues of pairs of numbers, as lists: the order, what a heap is and how it is mended, what queues are, how one is put in and taken out. Nothing of the program. -/
namespace Go.Proofs.YtmfmfdiphlkdiaaGreat
set_option linter.unusedVariables false

/-! ### The order of entries -/
/-- By Had, then by Who. -/
def ltB (a b : PaceV) : Bool := decide (a.1 < b.1 ∨ (a.1 = b.1 ∧ a.2 < b.2))
theorem ltB_t {a b : PaceV} : ltB a b = true ↔ (a.1 < b.1 ∨ (a.1 = b.1 ∧ a.2 < b.2)) := by unfold ltB; exact decide_eq_true_iff
theorem ltB_f {a b : PaceV} : ltB a b = false ↔ ¬ (a.1 < b.1 ∨ (a.1 = b.1 ∧ a.2 < b.2)) := by unfold ltB; exact decide_eq_false_iff_not
theorem ltB_self (a : PaceV) : ltB a a = false := by rw [ltB_f]; omega
theorem ltB_not {a b : PaceV} (h : ltB a b = true) : ltB b a = false := by rw [ltB_t] at h; rw [ltB_f]; omega
theorem ltB_le {a b c : PaceV} (h : ltB b a = false) (k : ltB c b = false) : ltB c a = false := by rw [ltB_f] at *; omega
theorem ltB_lt {a b c : PaceV} (h : ltB a b = true) (k : ltB b c = true) : ltB a c = true := by rw [ltB_t] at *; omega
theorem ltB_eq {a b : PaceV} (h : ltB b a = false) (k : ltB a b = false) : a = b := by
  rw [ltB_f] at *; obtain ⟨a1, a2⟩ := a; obtain ⟨b1, b2⟩ := b; simp only at h k; rw [show a1 = b1 by omega, show a2 = b2 by omega]

/-! ### Two change places -/
def swp (ps : List PaceV) (i j : Nat) : List PaceV := (ps.set i (paceAt ps j)).set j (paceAt ps i)
theorem swp_len (ps : List PaceV) (i j : Nat) : (swp ps i j).length = ps.length := by simp [swp]
theorem paceAt_set {ps : List PaceV} {i : Nat} {x : PaceV} (h : i < ps.length) (k : Nat) : paceAt (ps.set i x) k = if k = i then x else paceAt ps k := by
  unfold paceAt
  by_cases e : k = i
  · subst e; simp [List.getD, h]
  · rw [if_neg e]; simp [List.getD, Ne.symm e]
theorem swp_at {ps : List PaceV} {i j : Nat} (hi : i < ps.length) (hj : j < ps.length) (k : Nat) : paceAt (swp ps i j) k = if k = j then paceAt ps i else if k = i then paceAt ps j else paceAt ps k := by
  unfold swp
  rw [paceAt_set (by simpa using hj), paceAt_set hi]
theorem swp_perm {ps : List PaceV} {i j : Nat} (hi : i < ps.length) (hj : j < ps.length) : (swp ps i j).Perm ps := by
  have := List.set_set_perm hi hj
  unfold swp paceAt
  simpa [List.getD, hi, hj] using this

/-! ### Heaps -/
def HeapTo (ps : List PaceV) (n : Nat) : Prop := ∀ k, 0 < k → k < n → ltB (paceAt ps k) (paceAt ps ((k - 1) / 2)) = false
/-- A heap, but for j, which may be less than what is above it. -/
def UpTo (ps : List PaceV) (n j : Nat) : Prop :=
  (∀ k, 0 < k → k < n → k ≠ j → ltB (paceAt ps k) (paceAt ps ((k - 1) / 2)) = false) ∧
  (∀ k, 0 < k → k < n → (k - 1) / 2 = j → 0 < j → ltB (paceAt ps k) (paceAt ps ((j - 1) / 2)) = false)
/-- A heap, but for i, which may be greater than what is below it (and, where it has not been moved from i0, less than what is above it). -/
def DnTo (ps : List PaceV) (n i0 i : Nat) : Prop :=
  (∀ k, 0 < k → k < n → (k - 1) / 2 ≠ i → (k ≠ i0 ∨ i ≠ i0) → ltB (paceAt ps k) (paceAt ps ((k - 1) / 2)) = false) ∧
  (∀ k, 0 < k → k < n → (k - 1) / 2 = i → 0 < i → ltB (paceAt ps k) (paceAt ps ((i - 1) / 2)) = false)

theorem UpTo.done {ps : List PaceV} {n j : Nat} (h : UpTo ps n j) (hd : j = 0 ∨ ltB (paceAt ps j) (paceAt ps ((j - 1) / 2)) = false) : HeapTo ps n := fun k h0 hn => by
  by_cases e : k = j
  · subst e
    rcases hd with hd | hd
    · omega
    · exact hd
  · exact h.1 k h0 hn e
theorem UpTo.step {ps : List PaceV} {n j : Nat} (h : UpTo ps n j) (hj0 : 0 < j) (hj : j < n) (hn : n ≤ ps.length) (hl : ltB (paceAt ps j) (paceAt ps ((j - 1) / 2)) = true) : UpTo (swp ps ((j - 1) / 2) j) n ((j - 1) / 2) := by
  have hi : (j - 1) / 2 < j := by omega
  have at' := fun k => swp_at (ps := ps) (i := (j - 1) / 2) (j := j) (by omega) (by omega) k
  generalize hi' : (j - 1) / 2 = i at *
  have hp : ltB (paceAt ps i) (paceAt ps j) = false := ltB_not hl
  refine ⟨fun k k0 kn kne => ?_, fun k k0 kn kp i0 => ?_⟩
  · rw [at' k, at' ((k - 1) / 2)]
    by_cases e1 : k = j
    · subst e1
      rw [if_pos rfl, hi', if_neg (by omega), if_pos rfl]
      exact hp
    · rw [if_neg e1, if_neg kne]
      by_cases e2 : (k - 1) / 2 = j
      · rw [if_pos e2]
        have := h.2 k k0 kn e2 hj0
        rwa [hi'] at this
      · rw [if_neg e2]
        by_cases e3 : (k - 1) / 2 = i
        · rw [if_pos e3]
          have := h.1 k k0 kn e1
          rw [e3] at this
          exact ltB_le hp this
        · rw [if_neg e3]
          exact h.1 k k0 kn e1
  · rw [at' k, at' ((i - 1) / 2), if_neg (by omega : (i - 1) / 2 ≠ j), if_neg (by omega : (i - 1) / 2 ≠ i)]
    by_cases e1 : k = j
    · rw [if_pos e1]
      exact h.1 i i0 (by omega) (by omega)
    · rw [if_neg e1, if_neg (by omega)]
      have h1 := h.1 k k0 kn e1
      rw [kp] at h1
      exact ltB_le (h.1 i i0 (by omega) (by omega)) h1

theorem DnTo.still {ps : List PaceV} {n i : Nat} (h : DnTo ps n i i) (hd : ∀ k, 0 < k → k < n → (k - 1) / 2 = i → ltB (paceAt ps k) (paceAt ps i) = false) : UpTo ps n i :=
  ⟨fun k k0 kn kne => by
    by_cases e : (k - 1) / 2 = i
    · rw [e]; exact hd k k0 kn e
    · exact h.1 k k0 kn e (.inl kne), h.2⟩
theorem DnTo.moved {ps : List PaceV} {n i0 i : Nat} (h : DnTo ps n i0 i) (hm : i ≠ i0) (hd : ∀ k, 0 < k → k < n → (k - 1) / 2 = i → ltB (paceAt ps k) (paceAt ps i) = false) : HeapTo ps n := fun k k0 kn => by
  by_cases e : (k - 1) / 2 = i
  · rw [e]; exact hd k k0 kn e
  · exact h.1 k k0 kn e (.inr hm)
theorem DnTo.step {ps : List PaceV} {n i0 i j : Nat} (h : DnTo ps n i0 i) (hi0 : i0 ≤ i) (hj0 : 0 < j) (hji : (j - 1) / 2 = i) (hj : j < n) (hn : n ≤ ps.length) (hl : ltB (paceAt ps j) (paceAt ps i) = true)
    (hm : ∀ k, 0 < k → k < n → (k - 1) / 2 = i → ltB (paceAt ps k) (paceAt ps j) = false) : DnTo (swp ps i j) n i0 j := by
  have at' := fun k => swp_at (ps := ps) (i := i) (j := j) (by omega) (by omega) k
  have hp : ltB (paceAt ps i) (paceAt ps j) = false := ltB_not hl
  refine ⟨fun k k0 kn kne _ => ?_, fun k k0 kn kp _ => ?_⟩
  · rw [at' k, at' ((k - 1) / 2), if_neg kne]
    by_cases e1 : k = j
    · subst e1
      rw [if_pos rfl, if_pos hji]
      exact hp
    · rw [if_neg e1]
      by_cases e2 : k = i
      · subst e2
        rw [if_pos rfl, if_neg (by omega)]
        exact h.2 j hj0 hj hji k0
      · rw [if_neg e2]
        by_cases e3 : (k - 1) / 2 = i
        · rw [if_pos e3]
          exact hm k k0 kn e3
        · rw [if_neg e3]
          exact h.1 k k0 kn e3 (by omega)
  · rw [at' k, at' ((j - 1) / 2), hji, if_neg (by omega : k ≠ j), if_neg (by omega : k ≠ i), if_neg (by omega : i ≠ j), if_pos rfl]
    have := h.1 k k0 kn (by omega) (by omega)
    rwa [kp] at this

theorem HeapTo.least {ps : List PaceV} {n : Nat} (h : HeapTo ps n) : ∀ k, k < n → ltB (paceAt ps k) (paceAt ps 0) = false := by
  intro k
  induction k using Nat.strongRecOn with
  | ind k ih =>
    intro hk
    by_cases e : k = 0
    · subst e; exact ltB_self _
    · exact ltB_le (ih ((k - 1) / 2) (by omega) (by omega)) (h k (by omega) hk)
theorem paceAt_append {ps qs : List PaceV} {k : Nat} (h : k < ps.length) : paceAt (ps ++ qs) k = paceAt ps k := by unfold paceAt; simp [List.getD, List.getElem?_append_left h]
theorem paceAt_take {ps : List PaceV} {n k : Nat} (h : k < n) : paceAt (ps.take n) k = paceAt ps k := by unfold paceAt; simp [List.getD, h]
/-- What is put behind a heap. -/
theorem HeapTo.push {ps : List PaceV} (e : PaceV) (h : HeapTo ps ps.length) : UpTo (ps ++ [e]) (ps.length + 1) ps.length :=
  ⟨fun k k0 kn kne => by rw [paceAt_append (by omega), paceAt_append (by omega)]; exact h k k0 (by omega), fun k k0 kn kp h0 => by omega⟩
/-- The last one in i's place: the first n are a heap but for i. -/
theorem HeapTo.swap {ps : List PaceV} {n i : Nat} (h : HeapTo ps (n + 1)) (hl : ps.length = n + 1) (hi : i < n) : DnTo (swp ps i n) n i i := by
  have at' := fun k => swp_at (ps := ps) (i := i) (j := n) (by omega) (by omega) k
  refine ⟨fun k k0 kn kne kd => ?_, fun k k0 kn kp i0 => ?_⟩
  · rw [at' k, at' ((k - 1) / 2), if_neg (by omega), if_neg (by omega), if_neg (by omega), if_neg kne]
    exact h k k0 (by omega)
  · rw [at' k, at' ((i - 1) / 2), if_neg (by omega), if_neg (by omega), if_neg (by omega), if_neg (by omega)]
    have h1 := h k k0 (by omega)
    rw [kp] at h1
    exact ltB_le (h i i0 (by omega)) h1

/-! ### Rising lists -/
/-- Nothing is less than what stands ahead of it. -/
abbrev Ris (ps : List PaceV) : Prop := ps.Pairwise fun a b => ltB b a = false
theorem ris_eq {ps qs : List PaceV} (h : Ris ps) (k : Ris qs) (hp : ps.Perm qs) : ps = qs :=
  hp.eq_of_pairwise (le := fun a b => ltB b a = false) (fun _ _ _ _ h1 h2 => ltB_eq h1 h2) h k
theorem ris_heap {ps : List PaceV} (h : Ris ps) : HeapTo ps ps.length := fun k k0 kn => by
  have hk : (k - 1) / 2 < k := by omega
  have := List.pairwise_iff_getElem.1 h ((k - 1) / 2) k (by omega) kn hk
  unfold paceAt
  simpa [List.getD, kn, (by omega : (k - 1) / 2 < ps.length)] using this
theorem ris_snoc {ps : List PaceV} {x : PaceV} (h : Ris ps) (hx : ∀ y ∈ ps, ltB x y = false) : Ris (ps ++ [x]) := by
  unfold Ris; rw [List.pairwise_append]
  exact ⟨h, by simp, fun a ha b hb => by obtain rfl : b = x := by simpa using hb
                                         exact hx a ha⟩
theorem take_snoc_last {ps : List PaceV} {n : Nat} (h : ps.length = n + 1) : ps.take n ++ [paceAt ps n] = ps := by
  have e : paceAt ps n = ps[n] := by unfold paceAt; simp [List.getD, h]
  rw [e, ← List.take_succ_eq_append_getElem (by omega), List.take_of_length_le (by omega)]
theorem paceAt_mem {ps : List PaceV} {k : Nat} (h : k < ps.length) : paceAt ps k ∈ ps := by unfold paceAt; simp [List.getD, h]
theorem mem_paceAt {ps : List PaceV} {x : PaceV} (h : x ∈ ps) : ∃ k, k < ps.length ∧ paceAt ps k = x := by
  obtain ⟨k, hk, rfl⟩ := List.getElem_of_mem h
  exact ⟨k, hk, by unfold paceAt; simp [List.getD, hk]⟩
/-! ### Queues -/
def entB (p : PaceV) : Bool := inB p.1 (-1000000000000) 1000000000000 && inB p.2 0 99
/-- The first place of who; -1 where there is none. -/
def findV (ps : List PaceV) (who : Int) : Int := match ps.findIdx? (fun p => p.2 == who) with
  | some k => k
  | none => -1
def stepQ (ps : List PaceV) (k : Nat) : Bool := entB (paceAt ps k) && ((k == 0 || ltB (paceAt ps (k - 1)) (paceAt ps k)) && decide (findV (ps.take k) (paceAt ps k).2 < 0))
def queueB (ps : List PaceV) : Bool := decide (ps.length ≤ 100) && (List.range ps.length).all (stepQ ps)
/-- How many are less, ahead of the first that isn't. -/
def lessN (e : PaceV) : List PaceV → Nat
  | [] => 0
  | p :: ps => if ltB p e then lessN e ps + 1 else 0
def putV (ps : List PaceV) (e : PaceV) : List PaceV := ps.take (lessN e ps) ++ e :: ps.drop (lessN e ps)
def queuedV (ps : List PaceV) (e : PaceV) : List PaceV × Bool := if queueB ps then if queueB (putV ps e) then (putV ps e, true) else (ps, false) else ([], false)
def firstV (ps : List PaceV) : PaceV × Bool := if queueB ps && decide (0 < ps.length) then (paceAt ps 0, true) else ((0, 0), false)

theorem findV_none {ps : List PaceV} {who : Int} (h : ∀ j, j < ps.length → (paceAt ps j).2 ≠ who) : findV ps who = -1 := by
  unfold findV
  rw [List.findIdx?_eq_none_iff.2]
  intro p hp
  obtain ⟨k, hk, rfl⟩ := mem_paceAt hp
  simpa using h k hk
theorem findV_some {ps : List PaceV} {who : Int} {k : Nat} (hk : k < ps.length) (h : (paceAt ps k).2 = who) (hn : ∀ j, j < k → (paceAt ps j).2 ≠ who) : findV ps who = k := by
  have e : ∀ j (hj : j < ps.length), paceAt ps j = ps[j] := fun j hj => by unfold paceAt; simp [List.getD, hj]
  unfold findV
  rw [List.findIdx?_eq_some_iff_getElem.2 ⟨hk, by rw [← e k hk]; simpa using h, fun j hj => by rw [← e j (by omega)]; simpa using hn j hj⟩]
theorem findV_cases (ps : List PaceV) (who : Int) : (findV ps who = -1 ∧ ∀ j, j < ps.length → (paceAt ps j).2 ≠ who) ∨ ∃ k : Nat, findV ps who = k ∧ k < ps.length ∧ (paceAt ps k).2 = who ∧ ∀ j, j < k → (paceAt ps j).2 ≠ who := by
  have e : ∀ j (hj : j < ps.length), paceAt ps j = ps[j] := fun j hj => by unfold paceAt; simp [List.getD, hj]
  cases hf : ps.findIdx? (fun p => p.2 == who) with
  | none =>
    left
    refine ⟨by unfold findV; rw [hf], fun j hj => ?_⟩
    have := List.findIdx?_eq_none_iff.1 hf _ (paceAt_mem hj)
    simpa using this
  | some k =>
    right
    obtain ⟨hk, h1, h2⟩ := List.findIdx?_eq_some_iff_getElem.1 hf
    refine ⟨k, by unfold findV; rw [hf], hk, by rw [e k hk]; simpa using h1, fun j hj => ?_⟩
    have := h2 j hj
    rw [e j (by omega)]; simpa using this
theorem findV_bd (ps : List PaceV) (who : Int) : -1 ≤ findV ps who ∧ findV ps who < ps.length := by
  rcases findV_cases ps who with ⟨h, _⟩ | ⟨k, h, hk, _⟩ <;> omega

theorem queueB_t {ps : List PaceV} (hl : ps.length ≤ 100) (h : ∀ j, j < ps.length → stepQ ps j = true) : queueB ps = true := by
  unfold queueB; simp only [Bool.and_eq_true, decide_eq_true_eq, List.all_eq_true]; exact ⟨hl, fun j hj => h j (List.mem_range.1 hj)⟩
theorem queueB_f {ps : List PaceV} {j : Nat} (hj : j < ps.length) (h : stepQ ps j = false) : queueB ps = false := by
  unfold queueB; rw [Bool.and_eq_false_iff]; right; rw [List.all_eq_false]; exact ⟨j, List.mem_range.2 hj, by simp [h]⟩
theorem queueB_big {ps : List PaceV} (hl : 100 < ps.length) : queueB ps = false := by
  unfold queueB; rw [Bool.and_eq_false_iff]; left; exact decide_eq_false (by omega)
theorem queueB_of {ps : List PaceV} (h : queueB ps = true) : ps.length ≤ 100 ∧ ∀ j, j < ps.length → stepQ ps j = true := by
  unfold queueB at h; simp only [Bool.and_eq_true, decide_eq_true_eq, List.all_eq_true] at h; exact ⟨h.1, fun j hj => h.2 j (List.mem_range.2 hj)⟩
theorem stepQ_of {ps : List PaceV} {k : Nat} (h : stepQ ps k = true) : entB (paceAt ps k) = true ∧ (0 < k → ltB (paceAt ps (k - 1)) (paceAt ps k) = true) ∧ findV (ps.take k) (paceAt ps k).2 < 0 := by
  unfold stepQ at h; simp only [Bool.and_eq_true, Bool.or_eq_true, decide_eq_true_eq, beq_iff_eq] at h
  exact ⟨h.1, fun h0 => by rcases h.2.1 with e | e; · omega
                           · exact e, h.2.2⟩
/-- What a queue is, without places. -/
structure IsQ (ps : List PaceV) : Prop where
  len : ps.length ≤ 100
  ent : ∀ p ∈ ps, entB p = true
  ord : ps.Pairwise fun a b => ltB a b = true
  who : ps.Pairwise fun a b => a.2 ≠ b.2
theorem ord_of {ps : List PaceV} (h : ∀ k, 0 < k → k < ps.length → ltB (paceAt ps (k - 1)) (paceAt ps k) = true) : ∀ i j, i < j → j < ps.length → ltB (paceAt ps i) (paceAt ps j) = true := by
  intro i j
  induction j with
  | zero => intro h; omega
  | succ j ih =>
    intro hij hj
    have h1 := h (j + 1) (by omega) hj
    by_cases e : i = j
    · subst e; simpa using h1
    · exact ltB_lt (ih (by omega) (by omega)) (by simpa using h1)
theorem isQ_of {ps : List PaceV} (h : queueB ps = true) : IsQ ps := by
  obtain ⟨hl, hs⟩ := queueB_of h
  have e : ∀ j (hj : j < ps.length), paceAt ps j = ps[j] := fun j hj => by unfold paceAt; simp [List.getD, hj]
  refine ⟨hl, fun p hp => ?_, ?_, ?_⟩
  · obtain ⟨k, hk, rfl⟩ := mem_paceAt hp
    exact (stepQ_of (hs k hk)).1
  · rw [List.pairwise_iff_getElem]
    intro i j hi hj hij
    rw [← e i hi, ← e j hj]
    exact ord_of (fun k k0 kn => (stepQ_of (hs k kn)).2.1 k0) i j hij hj
  · rw [List.pairwise_iff_getElem]
    intro i j hi hj hij
    rw [← e i hi, ← e j hj]
    have h3 := (stepQ_of (hs j hj)).2.2
    rcases findV_cases (ps.take j) (paceAt ps j).2 with ⟨_, h4⟩ | ⟨k, h4, _⟩
    · have := h4 i (by simp; omega)
      rwa [paceAt_take hij] at this
    · omega
theorem queueB_isQ {ps : List PaceV} (h : IsQ ps) : queueB ps = true := by
  have e : ∀ j (hj : j < ps.length), paceAt ps j = ps[j] := fun j hj => by unfold paceAt; simp [List.getD, hj]
  refine queueB_t h.len fun j hj => ?_
  unfold stepQ
  simp only [Bool.and_eq_true, Bool.or_eq_true, decide_eq_true_eq, beq_iff_eq]
  refine ⟨h.ent _ (paceAt_mem hj), ?_, ?_⟩
  · by_cases h0 : j = 0
    · exact .inl h0
    · right
      rw [e j hj, e (j - 1) (by omega)]
      exact List.pairwise_iff_getElem.1 h.ord (j - 1) j (by omega) hj (by omega)
  · rw [findV_none (fun i hi => ?_)]
    · omega
    · have hi' : i < j := by simp at hi; omega
      rw [paceAt_take hi', e i (by omega), e j hj]
      exact List.pairwise_iff_getElem.1 h.who i j (by omega) hj hi'
theorem IsQ.ris {ps : List PaceV} (h : IsQ ps) : Ris ps := h.ord.imp fun hab => ltB_not hab
theorem lessN_le (e : PaceV) : ∀ ps : List PaceV, lessN e ps ≤ ps.length
  | [] => Nat.le_refl _
  | p :: ps => by have := lessN_le e ps; unfold lessN; split <;> simp <;> omega
theorem lessN_lt (e : PaceV) : ∀ (ps : List PaceV) (k : Nat), k < lessN e ps → ltB (paceAt ps k) e = true
  | [], k, h => by simp [lessN] at h
  | p :: ps, k, h => by
    unfold lessN at h
    split at h
    · cases k with
      | zero => simpa [paceAt] using ‹ltB p e = true›
      | succ k =>
        have := lessN_lt e ps k (by omega)
        simpa [paceAt] using this
    · omega
theorem lessN_at (e : PaceV) : ∀ (ps : List PaceV), lessN e ps < ps.length → ltB (paceAt ps (lessN e ps)) e = false
  | [], h => by simp at h
  | p :: ps, h => by
    unfold lessN at h ⊢
    by_cases hp : ltB p e = true
    · rw [if_pos hp] at h ⊢
      have := lessN_at e ps (by simpa using h)
      simpa [paceAt] using this
    · rw [if_neg hp] at h ⊢
      simpa [paceAt] using hp
theorem lessN_eq {e : PaceV} {ps : List PaceV} {k : Nat} (hk : k ≤ ps.length) (h : ∀ j, j < k → ltB (paceAt ps j) e = true) (hn : k = ps.length ∨ ltB (paceAt ps k) e = false) : lessN e ps = k := by
  rcases Nat.lt_trichotomy (lessN e ps) k with h1 | h1 | h1
  · have h2 := lessN_at e ps (by omega)
    rw [h _ h1] at h2; cases h2
  · exact h1
  · rcases hn with hn | hn
    · have := lessN_le e ps; omega
    · have := lessN_lt e ps k h1
      rw [hn] at this; cases this
theorem putV_perm (ps : List PaceV) (e : PaceV) : (putV ps e).Perm (ps ++ [e]) := by
  unfold putV
  have h1 : (ps.take (lessN e ps) ++ e :: ps.drop (lessN e ps)).Perm (e :: (ps.take (lessN e ps) ++ ps.drop (lessN e ps))) := List.perm_middle
  rw [List.take_append_drop] at h1
  exact h1.trans (List.perm_append_comm (l₁ := [e]) (l₂ := ps))
theorem putV_len (ps : List PaceV) (e : PaceV) : (putV ps e).length = ps.length + 1 := by have := (putV_perm ps e).length_eq; simpa using this
theorem putV_ris {ps : List PaceV} (h : Ris ps) (e : PaceV) : Ris (putV ps e) := by
  have hle := lessN_le e ps
  have hdr : ∀ y ∈ ps.drop (lessN e ps), ltB y e = false := fun y hy => by
    obtain ⟨k, hk, rfl⟩ := List.getElem_of_mem hy
    have hk' : lessN e ps + k < ps.length := by simp at hk; omega
    rw [List.getElem_drop]
    have h0 := lessN_at e ps (by omega)
    have e0 : paceAt ps (lessN e ps) = ps[lessN e ps]'(by omega) := by unfold paceAt; simp [List.getD, (by omega : lessN e ps < ps.length)]
    rw [e0] at h0
    by_cases hz : k = 0
    · subst hz; simpa using h0
    · have h1 := List.pairwise_iff_getElem.1 h (lessN e ps) (lessN e ps + k) (by omega) hk' (by omega)
      exact ltB_le h0 h1
  have hta : ∀ y ∈ ps.take (lessN e ps), ltB y e = true := fun y hy => by
    obtain ⟨k, hk, rfl⟩ := List.getElem_of_mem hy
    have hk' : k < lessN e ps := by simp at hk; omega
    have := lessN_lt e ps k hk'
    rw [List.getElem_take]
    unfold paceAt at this
    simpa [List.getD, (by omega : k < ps.length)] using this
  unfold putV Ris
  rw [List.pairwise_append, List.pairwise_cons]
  refine ⟨h.sublist (List.take_sublist _ _), ⟨fun y hy => hdr y hy, h.sublist (List.drop_sublist _ _)⟩, fun a ha b hb => ?_⟩
  rcases List.mem_cons.1 hb with rfl | hb
  · exact ltB_not (hta a ha)
  · exact ltB_le (ltB_not (hta a ha)) (hdr b hb)
/-- What a rising list with e is, once it is taken from the top of a heap. -/
theorem sorted_put {ps qs : List PaceV} {e : PaceV} (h : IsQ ps) (hq : Ris qs) (hp : qs.Perm (ps ++ [e])) : qs = putV ps e :=
  ris_eq hq (putV_ris h.ris e) (hp.trans (putV_perm ps e).symm)
end Go.Proofs.YtmfmfdiphlkdiaaGreat

/- Who is at a bench, as plain lists: who is in the queue, and that its first one had least. Lists and numbers alone; no condition but those that a theorem names. -/
namespace Go.Proofs.YtmfmfdiphlkdiaaGreat
open Go.ChangeShapes Go.WideShapes Go.ChangeAt Go.RowKit Go.Sort
set_option linter.unusedVariables false

/-- Of the first k smiths those that are at b, as a queue. -/
def atV (ss : List SmithV) (b : Int) : Nat → List PaceV
  | 0 => []
  | k + 1 => if (recAt ss k).2.1 = b ∧ presS (recAt ss k) = true then putV (atV ss b k) ((recAt ss k).2.2.2.2.2.2.2.1, (k : Int)) else atV ss b k
theorem atV_len (ss : List SmithV) (b : Int) : ∀ k, (atV ss b k).length ≤ k
  | 0 => Nat.le_refl _
  | k + 1 => by
    have := atV_len ss b k
    unfold atV
    split
    · rw [putV_len]; omega
    · omega
theorem atV_no {ss : List SmithV} {b : Int} {k : Nat} (h : ¬ ((recAt ss k).2.1 = b ∧ presS (recAt ss k) = true)) : atV ss b (k + 1) = atV ss b k := by rw [atV, if_neg h]
theorem atV_yes {ss : List SmithV} {b : Int} {k : Nat} (h1 : (recAt ss k).2.1 = b) (h2 : presS (recAt ss k) = true) : atV ss b (k + 1) = putV (atV ss b k) ((recAt ss k).2.2.2.2.2.2.2.1, (k : Int)) := by rw [atV, if_pos ⟨h1, h2⟩]

def isBenchB (m : SmyV) (b : Int) : Bool := inB b 0 ((m.desks.length : Int) - 1)
def hadS (s : SmithV) : Int := s.2.2.2.2.2.2.2.1
theorem putV_mem {ps : List PaceV} {x e : PaceV} : e ∈ putV ps x ↔ e ∈ ps ∨ e = x := by
  rw [(putV_perm ps x).mem_iff]; simp
theorem atV_mem (ss : List SmithV) (b : Int) (e : PaceV) : ∀ k, e ∈ atV ss b k ↔ ∃ i : Nat, i < k ∧ (recAt ss i).2.1 = b ∧ presS (recAt ss i) = true ∧ e = (hadS (recAt ss i), (i : Int))
  | 0 => by simp [atV]
  | k + 1 => by
    have ih := atV_mem ss b e k
    by_cases h : (recAt ss k).2.1 = b ∧ presS (recAt ss k) = true
    · rw [atV_yes h.1 h.2, putV_mem, ih]
      constructor
      · rintro (⟨i, hi, h1, h2, h3⟩ | h3)
        · exact ⟨i, by omega, h1, h2, h3⟩
        · exact ⟨k, by omega, h.1, h.2, h3⟩
      · rintro ⟨i, hi, h1, h2, h3⟩
        by_cases hik : i = k
        · subst hik; exact .inr h3
        · exact .inl ⟨i, by omega, h1, h2, h3⟩
    · rw [atV_no h, ih]
      constructor
      · rintro ⟨i, hi, h1, h2, h3⟩
        exact ⟨i, by omega, h1, h2, h3⟩
      · rintro ⟨i, hi, h1, h2, h3⟩
        by_cases hik : i = k
        · subst hik; exact absurd ⟨h1, h2⟩ h
        · exact ⟨i, by omega, h1, h2, h3⟩
theorem atV_ris (ss : List SmithV) (b : Int) : ∀ k, Ris (atV ss b k)
  | 0 => List.Pairwise.nil
  | k + 1 => by
    by_cases h : (recAt ss k).2.1 = b ∧ presS (recAt ss k) = true
    · rw [atV_yes h.1 h.2]; exact putV_ris (atV_ris ss b k) _
    · rw [atV_no h]; exact atV_ris ss b k
theorem atV_whos (ss : List SmithV) (b : Int) : ∀ k, (atV ss b k).Pairwise fun x y => x.2 ≠ y.2
  | 0 => List.Pairwise.nil
  | k + 1 => by
    by_cases h : (recAt ss k).2.1 = b ∧ presS (recAt ss k) = true
    · rw [atV_yes h.1 h.2]
      refine (putV_perm (atV ss b k) _).symm.pairwise ?_ (fun h => Ne.symm h)
      rw [List.pairwise_append]
      refine ⟨atV_whos ss b k, by simp, fun x hx y hy => ?_⟩
      obtain rfl : y = _ := by simpa using hy
      obtain ⟨i, hi, _, _, rfl⟩ := (atV_mem ss b x k).1 hx
      show (i : Int) ≠ (k : Int)
      omega
    · rw [atV_no h]; exact atV_whos ss b k
/-- Bench, Had and whether one is there are the same. -/
def Alike (ss ss' : List SmithV) (k : Nat) : Prop := ∀ i, i < k → (recAt ss' i).2.1 = (recAt ss i).2.1 ∧ presS (recAt ss' i) = presS (recAt ss i) ∧ hadS (recAt ss' i) = hadS (recAt ss i)
theorem atV_alike {ss ss' : List SmithV} (b : Int) : ∀ k, Alike ss ss' k → atV ss' b k = atV ss b k
  | 0, _ => rfl
  | k + 1, h => by
    have ih := atV_alike b k (fun i hi => h i (by omega))
    obtain ⟨h1, h2, h3⟩ := h k (by omega)
    unfold atV
    rw [h1, h2, ih, show (recAt ss' k).2.2.2.2.2.2.2.1 = (recAt ss k).2.2.2.2.2.2.2.1 from h3]
/-- Who is first there; -1 where there is none. -/
def firstAt (ss : List SmithV) (b : Int) : Int := match atV ss b ss.length with
  | [] => -1
  | h :: _ => h.2
theorem firstAt_some {ss : List SmithV} {b : Int} {e : PaceV} {t : List PaceV} (h : atV ss b ss.length = e :: t) : firstAt ss b = e.2 ∧ ∃ i : Nat, i < ss.length ∧ (recAt ss i).2.1 = b ∧ presS (recAt ss i) = true ∧ e = (hadS (recAt ss i), (i : Int)) := by
  refine ⟨by unfold firstAt; rw [h], ?_⟩
  exact (atV_mem ss b e ss.length).1 (by rw [h]; simp)
/-- The first one had least. -/
theorem first_least {ss : List SmithV} {b : Int} {e : PaceV} {t : List PaceV} (h : atV ss b ss.length = e :: t) {i : Nat} (hi : i < ss.length) (h1 : (recAt ss i).2.1 = b) (h2 : presS (recAt ss i) = true) : e.1 ≤ hadS (recAt ss i) := by
  have hm : (hadS (recAt ss i), (i : Int)) ∈ atV ss b ss.length := (atV_mem ss b _ ss.length).2 ⟨i, hi, h1, h2, rfl⟩
  have hr := atV_ris ss b ss.length
  rw [h] at hm hr
  rcases List.mem_cons.1 hm with he | ht
  · rw [← he]; exact Int.le_refl _
  · have := (List.pairwise_cons.1 hr).1 _ ht
    rw [ltB_f] at this
    simp only at this
    omega

end Go.Proofs.YtmfmfdiphlkdiaaGreat

/- Rows of entries that the call itself made, and what they read as. No condition but those that a theorem names. -/
namespace Go.Proofs.YtmfmfdiphlkdiaaGreat
open Go.ChangeShapes Go.WideShapes Go.ChangeAt Go.RowKit Go.Sort
set_option linter.unusedVariables false

theorem infoEntry : (Tryz.prog.info? 45).map (fun i => (i.zero, i.size, i.bytes)) = some (some (.agg #[.int .i64 0, .int .i64 0]), 2, 16) := by kernel_rfl
theorem pcells_len (ps : List PaceV) : (pcells ps).length = ps.length * 2 := by unfold pcells; exact pairs_len ps
theorem pcells_append (ps qs : List PaceV) : pcells (ps ++ qs) = pcells ps ++ pcells qs := by unfold pcells; rw [List.flatMap_append]
theorem pcells_take : ∀ (ps : List PaceV) (n : Nat), pcells (ps.take n) = (pcells ps).take (n * 2)
  | [], n => by simp [pcells]
  | p :: ps, 0 => by simp [pcells]
  | p :: ps, n + 1 => by
    have ih := pcells_take ps n
    unfold pcells at ih ⊢
    rw [show (n + 1) * 2 = n * 2 + 2 by omega]
    simpa using ih
/-- The slice v, in a block from n₀ on, holds the entries ps. -/
def EntsAt (n₀ : Nat) (w : World) (v : Value) (ps : List PaceV) : Prop := w.ownsRow n₀ 45 2 v ps.length (pcells ps)
theorem EntsAt.lt {n₀ : Nat} {w : World} {v : Value} {ps : List PaceV} (h : EntsAt n₀ w v ps) {k : Nat} (hk : v.ownBlock = some k) : n₀ ≤ k ∧ k < w.heap.size := World.ownsRow.lt h k hk
theorem EntsAt.mono {n₀ n₁ : Nat} {w : World} {v : Value} {ps : List PaceV} (h : EntsAt n₀ w v ps) (hn : n₁ ≤ n₀) : EntsAt n₁ w v ps := own_mono h hn
theorem EntsAt.same {n₀ : Nat} {w w' : World} {v : Value} {ps : List PaceV} (h : EntsAt n₀ w v ps) (hs : ∀ k, v.ownBlock = some k → w'.heap[k]? = w.heap[k]?) : EntsAt n₀ w' v ps := own_same h hs
theorem EntsAt.later {n₀ : Nat} {w w' : World} {v : Value} {ps : List PaceV} (h : EntsAt n₀ w v ps) (hb : Below w.heap.size w w') : EntsAt n₀ w' v ps := h.same fun k hk => hb.block k (h.lt hk).2
theorem EntsAt.paces {n₀ : Nat} {w : World} {v : Value} {ps : List PaceV} (h : EntsAt n₀ w v ps) : IsPaces w v ps := by
  have h' := h
  rcases h.2 with ⟨rfl, hz⟩ | ⟨g, cap, cur, rfl, hb, hg, hnc, hcm, r⟩
  · exact ⟨none, 0, by rw [hz], by omega, by omega, .inl (List.eq_nil_of_length_eq_zero hz)⟩
  · refine ⟨_, cap, rfl, hnc, by unfold maxLen at hcm; omega, .inr ⟨g, 0, rfl, (Array.getElem?_eq_some_iff.1 hg).1, fun k hk => ?_⟩⟩
    have hp := pairs_get (f := fun p : PaceV => Value.int .i64 p.1) (g := fun p : PaceV => Value.int .i64 p.2) ps k hk
    have hat : paceAt ps k = ps[k] := by unfold paceAt; simp [List.getD, hk]
    rw [Nat.zero_add, hat]
    exact ⟨(World.ownsRow.cellAt h' (k * 2) (by omega)).trans hp.1, (World.ownsRow.cellAt h' (k * 2 + 1) (by omega)).trans hp.2⟩
theorem EntsAt.shape {n₀ : Nat} {w : World} {v : Value} {ps : List PaceV} (h : EntsAt n₀ w v ps) : ∃ a cap, v = .slice a ps.length cap := by
  rcases h.2 with ⟨rfl, hz⟩ | ⟨g, cap, cur, rfl, _⟩
  · exact ⟨none, 0, by rw [hz]⟩
  · exact ⟨_, cap, rfl⟩
/-- Its first n. -/
theorem EntsAt.cut {n₀ : Nat} {w : World} {a : Option Addr} {len cap : Nat} {ps : List PaceV} (h : EntsAt n₀ w (.slice a len cap) ps) {n : Nat} (hn : n ≤ ps.length) (ha : a ≠ none) : EntsAt n₀ w (.slice a n cap) (ps.take n) := by
  have hl : (ps.take n).length = n := by simp; omega
  unfold EntsAt
  rw [hl, pcells_take]
  rcases h.2 with ⟨hv, hz⟩ | ⟨g, cap', cur, hv, hb, hg, hnc, hcm, hs, ht⟩
  · cases hv; exact absurd rfl ha
  · cases hv
    refine ⟨by rw [List.length_take, pcells_len]; omega, .inr ⟨g, cap, cur, rfl, hb, hg, by omega, hcm, hs, ?_⟩⟩
    rw [← ht, List.take_take]; congr 1; omega
theorem IsPaces.cut {w : World} {a : Option Addr} {len cap : Nat} {ps : List PaceV} (h : IsPaces w (.slice a len cap) ps) {n : Nat} (hn : n ≤ ps.length) : IsPaces w (.slice a n cap) (ps.take n) := by
  obtain ⟨a', cap', he, hc, hm, hr⟩ := h
  cases he
  have hl : (ps.take n).length = n := by simp; omega
  refine ⟨a, cap, by rw [hl], by omega, hm, ?_⟩
  rcases hr with hr | ⟨b, off, rfl, hlt, hcl⟩
  · exact .inl (by rw [hr]; simp)
  · refine .inr ⟨b, off, rfl, hlt, fun k hk => ?_⟩
    rw [paceAt_take (by omega)]
    exact hcl k (by omega)

end Go.Proofs.YtmfmfdiphlkdiaaGreat

