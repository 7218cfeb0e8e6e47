/- What the proof rests on, part 12: lists and numbers, how they lie in memory, and contracts of the calls. No condition but those that a theorem names. -/
import Derived.Test.YtifolooecfebfaaGreatXe01
import Derived.Test.YtifolooecfebfaaGreatXe02
import Derived.Test.YtifolooecfebfaaGreatXe03
import Derived.Test.YtifolooecfebfaaGreatXe05
import Derived.Test.YtifolooecfebfaaGreatXe06
import Derived.Test.YtifolooecfebfaaGreatXe07
import Derived.Test.YtifolooecfebfaaGreatXe08
import Derived.Lib.QuietBelow
import Derived.BigQuiet
import GoSem.Claim
import GoSem.ClaimJoined
import GoSem.ClaimMapViews
import Derived.JoinedTies
import Derived.KernelRfl
import Derived.RowKit
import Derived.WalkKit
import Derived.ProofKit
import Derived.OpenShut
import Derived.Outline
import Derived.Deep.RegionWith
import Derived.Deep.QuietTactic
import Derived.Laws.OwnMore
import Derived.OwnWalk
import Derived.Maps.AppendAt
import Derived.Lib.SmallJoins
import Derived.Deep.Fields
import Derived.Deep.Slices
import Derived.Laws.StructEq
/- Smithies as plain lists: which are right. Lists and numbers alone; no condition but those that a theorem names. -/
namespace Go.Proofs.YtifolooecfebfaaGreat
open Go.ChangeShapes Go.WideShapes Go.ChangeAt Go.RowKit Go.Sort
set_option linter.unusedVariables false

/-- Who waits or works. -/
def presS (s : SmithV) : Bool := s.1 == 2 || s.1 == 3
def bandB (had mark : Int) : Bool := inB had (-1000000000000) 1000000000000 && (inB mark (-1000000000000) 1000000000000 && inB (had - mark) (-20000) 63000)
def deskB (d : DeskV) : Bool := inB d.2.2 (-900000000000) 900000000000
def paceInB (m : SmyV) (j : Nat) : Bool := inB (recAt m.paces j) 0 (((roomAt m.rooms j).2.length : Int) - 1)
/-- A right smith whose guild and bench are there. -/
def hereB (m : SmyV) (s : SmithV) : Bool := smithB s && (s.1 == 0 || (decide (s.2.2.2.2.1 < m.guilds.length) && decide (s.2.1 < m.desks.length)))
/-- Who waits or works is at an open bench that is in its May, and in the band. -/
def seatB (m : SmyV) (s : SmithV) : Bool := !presS s || ((recAt m.desks s.2.1.toNat).1 && (bitB s.2.2.2.1 s.2.1 && bandB s.2.2.2.2.2.2.2.1 (recAt m.desks s.2.1.toNat).2.2))
def headB (m : SmyV) : Bool := hallB m.rooms && (guildsB m.guilds && (decide (m.smiths.length ≤ 12) && (decide ((m.desks.length : Int) = benchSum m.rooms) && (decide (m.paces.length = m.rooms.length) && inB m.now 0 1000000))))
def upDesks (m : SmyV) (k : Nat) : Bool := (List.range k).all fun j => deskB (recAt m.desks j)
def upOpen (m : SmyV) (k : Nat) : Bool := (List.range k).any fun j => (recAt m.desks j).1
def upPaces (m : SmyV) (k : Nat) : Bool := (List.range k).all fun j => paceInB m j
def upSmiths (m : SmyV) (k : Nat) : Bool := (List.range k).all fun j => hereB m (recAt m.smiths j) && seatB m (recAt m.smiths j)
/-- Right, but for who works. -/
def looseB (m : SmyV) : Bool := headB m && (upDesks m m.desks.length && (upPaces m m.paces.length && (upSmiths m m.smiths.length && upOpen m m.desks.length)))

theorem all_up {p : Nat → Bool} (k : Nat) : (List.range (k + 1)).all p = ((List.range k).all p && p k) := by rw [List.range_succ, List.all_append]; simp
theorem any_up {p : Nat → Bool} (k : Nat) : (List.range (k + 1)).any p = ((List.range k).any p || p k) := by rw [List.range_succ, List.any_append]; simp
theorem all_no {p : Nat → Bool} {k n : Nat} (hk : k < n) (h : p k = false) : (List.range n).all p = false := by
  rw [List.all_eq_false]
  exact ⟨k, List.mem_range.2 hk, by simp [h]⟩
theorem all_at {p : Nat → Bool} {k n : Nat} (h : (List.range n).all p = true) (hk : k < n) : p k = true := List.all_eq_true.1 h k (List.mem_range.2 hk)
theorem looseB_head {m : SmyV} (h : headB m = false) : looseB m = false := by unfold looseB; rw [h]; rfl
theorem looseB_desk {m : SmyV} {k : Nat} (hk : k < m.desks.length) (h : deskB (recAt m.desks k) = false) : looseB m = false := by
  unfold looseB upDesks
  rw [all_no hk h]; simp
theorem looseB_pace {m : SmyV} {k : Nat} (hk : k < m.paces.length) (h : paceInB m k = false) : looseB m = false := by
  unfold looseB upPaces
  rw [all_no (p := fun j => paceInB m j) hk h]; simp
theorem looseB_smith {m : SmyV} {k : Nat} (hk : k < m.smiths.length) (h : (hereB m (recAt m.smiths k) && seatB m (recAt m.smiths k)) = false) : looseB m = false := by
  unfold looseB upSmiths
  rw [all_no (p := fun j => hereB m (recAt m.smiths j) && seatB m (recAt m.smiths j)) hk h]; simp
theorem looseB_all {m : SmyV} (h1 : headB m = true) (h2 : upDesks m m.desks.length = true) (h3 : upPaces m m.paces.length = true) (h4 : upSmiths m m.smiths.length = true) : looseB m = upOpen m m.desks.length := by
  unfold looseB; rw [h1, h2, h3, h4]; rfl
theorem hereB_of {m : SmyV} {s : SmithV} (h : hereB m s = true) (hp : presS s = true) : 0 ≤ s.2.1 ∧ s.2.1 < m.desks.length ∧ s.2.1 ≤ 7 ∧ 1 ≤ s.2.2.2.1 ∧ s.2.2.2.1 ≤ 255 ∧ s.2.2.2.2.1 < m.guilds.length := by
  obtain ⟨st, be, rk, my, gu, lo, hi, hd, ca, ut, wk⟩ := s
  have hst : st ≠ 0 := by
    intro e
    subst e
    cases hp
  unfold hereB at h
  simp only [Bool.and_eq_true, Bool.or_eq_true, decide_eq_true_eq] at h
  obtain ⟨h1, h2⟩ := h
  rcases h2 with h2 | ⟨h2, h3⟩
  · exact absurd (by simpa using h2) hst
  · have hs : smithB (st, be, rk, my, gu, lo, hi, hd, ca, ut, wk) = presB (st, be, rk, my, gu, lo, hi, hd, ca, ut, wk) := by unfold smithB; rw [goneB_st hst, Bool.false_or]
    rw [hs] at h1
    obtain ⟨_, ⟨b0, b1⟩, _, ⟨m0, m1⟩, _⟩ := presB_of h1
    exact ⟨b0, h3, b1, m0, m1, h2⟩

/-- Of the first k smiths: who works at b (-1: nobody), and whether one waits there; none where two work. -/
def scanV (ss : List SmithV) (b : Int) : Nat → Option (Int × Bool)
  | 0 => some (-1, false)
  | k + 1 => match scanV ss b k with
    | none => none
    | some (wk, wt) => if (recAt ss k).2.1 = b ∧ presS (recAt ss k) = true then (if (recAt ss k).1 = 2 then some (wk, true) else if 0 ≤ wk then none else some ((k : Int), wt)) else some (wk, wt)
def benchOkB (m : SmyV) (b : Nat) : Bool := match scanV m.smiths b m.smiths.length with
  | none => false
  | some (wk, wt) => (recAt m.desks b).2.1 == wk && !(wt && decide (wk < 0))
def smyB (m : SmyV) : Bool := looseB m && (List.range m.desks.length).all (benchOkB m)

end Go.Proofs.YtifolooecfebfaaGreat

/- The model's small checks of a smithy: who is present, and the band. No condition but those that a theorem names. -/
namespace Go.Proofs.YtifolooecfebfaaGreat
open Go.ChangeShapes Go.WideShapes Go.ChangeAt Go.RowKit Go.Sort
set_option linter.unusedVariables false

theorem l11Present_any (st be rk my gu lo hi hd ca ut wk : Int) (w : World) : Calls Tryz.prog 48 #[.agg #[.int .i64 st, .int .i64 be, .int .i64 rk, .int .i64 my, .int .i64 gu, .int .i64 lo, .int .i64 hi, .int .i64 hd, .int .i64 ca, .int .i64 ut, .int .i64 wk]] w fun e w' =>
    e = .returned (.bool (presS (st, be, rk, my, gu, lo, hi, hd, ca, ut, wk))) ∧ Below w.heap.size w w' := by
  unfold presS
  simp only
  cases h2 : (st == 2)
  all_goals
    go_enter Tryz.func48, Tryz.ntmps48
    go_wp2_with fail
    go_ret
    exact ⟨by first | rfl | (simp), (Below.refl _ _).alloc (Nat.le_refl _) _⟩

theorem specInBand_any (h m : Int) (w : World) : Calls Tryz.prog 118 #[.int .i64 h, .int .i64 m] w fun e w' => e = .returned (.bool (bandB h m)) ∧ w' = w := by
  unfold bandB
  cases h1 : inB h (-1000000000000) 1000000000000
  · go_enter Tryz.func118, Tryz.ntmps118
    go_wp2_with (first | (go_at_call 154; refine (specHad_any _ _).mono ?_; rintro e w' ⟨rfl, rfl⟩) | (go_at_call 113; refine (l1In_any _ _ _ _).mono ?_; rintro e w' ⟨rfl, rfl⟩))
    go_ret
    exact ⟨rfl, rfl⟩
  cases h2 : inB m (-1000000000000) 1000000000000
  · go_enter Tryz.func118, Tryz.ntmps118
    go_wp2_with (first | (go_at_call 154; refine (specHad_any _ _).mono ?_; rintro e w' ⟨rfl, rfl⟩) | (go_at_call 113; refine (l1In_any _ _ _ _).mono ?_; rintro e w' ⟨rfl, rfl⟩))
    go_ret
    exact ⟨rfl, rfl⟩
  obtain ⟨a0, a1⟩ := inB_of h1
  obtain ⟨b0, b1⟩ := inB_of h2
  go_enter Tryz.func118, Tryz.ntmps118
  go_wp2_with (first | (go_at_call 154; refine (specHad_any _ _).mono ?_; rintro e w' ⟨rfl, rfl⟩) | (go_at_call 113; refine (l1In_any _ _ _ _).mono ?_; rintro e w' ⟨rfl, rfl⟩))
  go_ret
  exact ⟨rfl, rfl⟩

end Go.Proofs.YtifolooecfebfaaGreat

/- The model's l11Loose: is a smithy right, but for who works? Its contract, its first part. Condition: the smithy can be read. -/
namespace Go.Proofs.YtifolooecfebfaaGreat
open Go.ChangeShapes Go.WideShapes Go.ChangeAt Go.RowKit Go.Sort
set_option linter.unusedVariables false

theorem specHallOk_v {w : World} {v : Value} {rs : List RoomV} {q : Bool} (hq : hallB rs = q) (h : IsRooms w v rs) : Calls Tryz.prog 114 #[.agg #[v]] w fun e w' => e = .returned (.bool q) ∧ Below w.heap.size w w' := by
  have := specHallOk_any h; rw [hq] at this; exact this
theorem specGuildsOk_q {w : World} {v : Value} {ps : List GuildV} {q : Bool} (hq : guildsB ps = q) (h : IsGuilds w v ps) : Calls Tryz.prog 116 #[v] w fun e w' => e = .returned (.bool q) ∧ Below w.heap.size w w' := by
  have := specGuildsOk_any h; rw [hq] at this; exact this
theorem l4Count_v {w : World} {v : Value} {rs : List RoomV} {n : Int} (hn : benchSum rs = n) (h : IsRooms w v rs) (ha : Adds rs) : Calls Tryz.prog 115 #[.agg #[v]] w fun e w' => e = .returned (.int .i64 n) ∧ Below w.heap.size w w' := by
  have := l4Count_any h ha; rw [hn] at this; exact this
theorem l1In_q {x lo hi : Int} {q : Bool} (hq : inB x lo hi = q) (w : World) : Calls Tryz.prog 113 #[.int .i64 x, .int .i64 lo, .int .i64 hi] w fun e w' => e = .returned (.bool q) ∧ Below w.heap.size w w' := by
  have := l1In_any x lo hi w; rw [hq] at this
  exact this.mono fun e w' ⟨h1, h2⟩ => ⟨h1, by rw [h2]; exact Below.refl _ _⟩

theorem specSmithOk_q {st be rk my gu lo hi hd ca ut wk : Int} {q : Bool} (hq : smithB (st, be, rk, my, gu, lo, hi, hd, ca, ut, wk) = q) (w : World) : Calls Tryz.prog 117 #[.agg #[.int .i64 st, .int .i64 be, .int .i64 rk, .int .i64 my, .int .i64 gu, .int .i64 lo, .int .i64 hi, .int .i64 hd, .int .i64 ca, .int .i64 ut, .int .i64 wk]] w fun e w' => e = .returned (.bool q) ∧ Below w.heap.size w w' := by
  have := specSmithOk_any st be rk my gu lo hi hd ca ut wk w; rw [hq] at this; exact this
theorem l11Present_q {st be rk my gu lo hi hd ca ut wk : Int} {q : Bool} (hq : presS (st, be, rk, my, gu, lo, hi, hd, ca, ut, wk) = q) (w : World) : Calls Tryz.prog 48 #[.agg #[.int .i64 st, .int .i64 be, .int .i64 rk, .int .i64 my, .int .i64 gu, .int .i64 lo, .int .i64 hi, .int .i64 hd, .int .i64 ca, .int .i64 ut, .int .i64 wk]] w fun e w' => e = .returned (.bool q) ∧ Below w.heap.size w w' := by
  have := l11Present_any st be rk my gu lo hi hd ca ut wk w; rw [hq] at this; exact this
theorem l2Has_q {s i : Int} {q : Bool} (hq : bitB s i = q) (h0 : 0 ≤ s) (h1 : s ≤ 255) (h2 : 0 ≤ i) (h3 : i ≤ 7) (w : World) : Calls Tryz.prog 112 #[.int .i64 s, .int .i64 i] w fun e w' => e = .returned (.bool q) ∧ Below w.heap.size w w' := by
  have := l2Has_any s i w h0 h1 h2 h3; rw [hq] at this
  exact this.mono fun e w' ⟨h1, h2⟩ => ⟨h1, by rw [h2]; exact Below.refl _ _⟩
theorem specInBand_q {h k : Int} {q : Bool} (hq : bandB h k = q) (w : World) : Calls Tryz.prog 118 #[.int .i64 h, .int .i64 k] w fun e w' => e = .returned (.bool q) ∧ Below w.heap.size w w' := by
  have := specInBand_any h k w; rw [hq] at this
  exact this.mono fun e w' ⟨h1, h2⟩ => ⟨h1, by rw [h2]; exact Below.refl _ _⟩

set_option maxRecDepth 100000 in
set_option maxHeartbeats 16000000 in
theorem l11Loose_any {w : World} {v0 v1 v2 v3 v4 : Value} {m : SmyV} (h : Smy w v0 v1 v2 v3 v4 m) :
    Calls Tryz.prog 56 #[.agg #[v0, v1, v2, v3, v4, .int .i64 m.now]] w fun e w' => e = .returned (.bool (looseB m)) ∧ Below w.heap.size w w' := by
  have Hv := hide (h.alloc (.cells #[v0, v1, v2, v3, v4, .int .i64 m.now] 32))
  obtain ⟨h0, h1, h2, h3, h4⟩ := h
  obtain ⟨a0, p0, rfl, hc0, hm0, r0⟩ := h0
  obtain ⟨a1, p1, rfl, hc1, hm1, _⟩ := h1
  obtain ⟨a2, p2, rfl, hc2, hm2, r2⟩ := h2
  obtain ⟨a3, p3, rfl, hc3, hm3, r3⟩ := h3
  obtain ⟨a4, p4, rfl, hc4, hm4, r4⟩ := h4
  have R0 := hide r0
  have R2 := hide r2
  have R3 := hide r3
  have R4 := hide r4
  clear r0 r2 r3 r4
  go_enter Tryz.func56, Tryz.ntmps56
  go_wp2_with fail
  have BB : Hid (Below w.heap.size w (w.alloc (.cells #[.slice a0 m.rooms.length p0, .slice a1 m.guilds.length p1, .slice a2 m.smiths.length p2, .slice a3 m.desks.length p3, .slice a4 m.paces.length p4, .int .i64 m.now] 32))) := hide ((Below.refl _ _).alloc (Nat.le_refl _) _)
  have kb : Hid (Blk (w.alloc (.cells #[.slice a0 m.rooms.length p0, .slice a1 m.guilds.length p1, .slice a2 m.smiths.length p2, .slice a3 m.desks.length p3, .slice a4 m.paces.length p4, .int .i64 m.now] 32)) w.heap.size 32 #[.slice a0 m.rooms.length p0, .slice a1 m.guilds.length p1, .slice a2 m.smiths.length p2, .slice a3 m.desks.length p3, .slice a4 m.paces.length p4, .int .i64 m.now]) := hide (Blk.new w _ _)
  generalize w.alloc (.cells #[.slice a0 m.rooms.length p0, .slice a1 m.guilds.length p1, .slice a2 m.smiths.length p2, .slice a3 m.desks.length p3, .slice a4 m.paces.length p4, .int .i64 m.now] 32) = W at *
  have c0 := cell_regrown ((unhide kb).cell (i := 0) (v := .slice a0 m.rooms.length p0) rfl)
  have c1 := cell_regrown ((unhide kb).cell (i := 1) (v := .slice a1 m.guilds.length p1) rfl)
  have c2 := cell_regrown ((unhide kb).cell (i := 2) (v := .slice a2 m.smiths.length p2) rfl)
  have c3 := cell_regrown ((unhide kb).cell (i := 3) (v := .slice a3 m.desks.length p3) rfl)
  have c4 := cell_regrown ((unhide kb).cell (i := 4) (v := .slice a4 m.paces.length p4) rfl)
  have c5 := cell_regrown ((unhide kb).cell (i := 5) (v := .int .i64 m.now) rfl)
  cases h0 : hallB m.rooms
  · have Q0 := hide h0
    clear h0
    refine wp_region_quiet_below (by kernel_rfl) (by kernel_rfl) ?_
    repeat (go_big_quiet_step (first | exact Calls.regrown_of (specHallOk_v (unhide Q0) ((unhide Hv).below (below_regrown _ _ _)).rooms)))
    refine wpQuiet_nil ?_
    intro W1 hw'
    have hb : Below W.heap.size W W1 := by
      obtain ⟨⟨dq, osq⟩, hw''⟩ := hw'
      subst hw''
      exact below_regrown _ _ _
    clear hw' c0 c1 c2 c3 c4 c5
    go_wp2_with fail
    go_ret
    exact ⟨ret_bool (looseB_head (by unfold headB; rw [unhide Q0]; rfl)).symm, (unhide BB).trans (hb.mono (unhide BB).size)⟩
  have Q0 := hide h0
  have QA := hide (adds_hall h0)
  clear h0
  cases h1 : guildsB m.guilds
  · have Q1 := hide h1
    clear h1
    refine wp_region_quiet_below (by kernel_rfl) (by kernel_rfl) ?_
    repeat (go_big_quiet_step (first | exact Calls.regrown_of (specHallOk_v (unhide Q0) ((unhide Hv).below (below_regrown _ _ _)).rooms) | exact Calls.regrown_of (specGuildsOk_q (unhide Q1) ((unhide Hv).below (below_regrown _ _ _)).guilds)))
    refine wpQuiet_nil ?_
    intro W1 hw'
    have hb : Below W.heap.size W W1 := by
      obtain ⟨⟨dq, osq⟩, hw''⟩ := hw'
      subst hw''
      exact below_regrown _ _ _
    clear hw' c0 c1 c2 c3 c4 c5
    go_wp2_with fail
    go_ret
    exact ⟨ret_bool (looseB_head (by unfold headB; rw [unhide Q0, unhide Q1]; rfl)).symm, (unhide BB).trans (hb.mono (unhide BB).size)⟩
  have Q1 := hide h1
  clear h1
  by_cases h2 : 12 < m.smiths.length
  · have h2i : (12 : Int) < (m.smiths.length : Int) := by omega
    have h2d : decide ((12 : Int) < (m.smiths.length : Int)) = true := decide_eq_true h2i
    refine wp_region_quiet_below (by kernel_rfl) (by kernel_rfl) ?_
    repeat (go_big_quiet_step (first | exact Calls.regrown_of (specHallOk_v (unhide Q0) ((unhide Hv).below (below_regrown _ _ _)).rooms) | exact Calls.regrown_of (specGuildsOk_q (unhide Q1) ((unhide Hv).below (below_regrown _ _ _)).guilds)))
    refine wpQuiet_nil ?_
    intro W1 hw'
    have hb : Below W.heap.size W W1 := by
      obtain ⟨⟨dq, osq⟩, hw''⟩ := hw'
      subst hw''
      exact below_regrown _ _ _
    clear hw' c0 c1 c2 c3 c4 c5
    go_wp2_with fail
    go_ret
    exact ⟨ret_bool (looseB_head (by unfold headB; rw [unhide Q0, unhide Q1]; simp; intro h9; omega)).symm, (unhide BB).trans (hb.mono (unhide BB).size)⟩
  have h2i : ¬ (12 : Int) < (m.smiths.length : Int) := by omega
  have h2d : decide ((12 : Int) < (m.smiths.length : Int)) = false := decide_eq_false h2i
  obtain ⟨n, hn⟩ : ∃ n, benchSum m.rooms = n := ⟨_, rfl⟩
  have Q3 := hide hn
  clear hn
  by_cases h3 : (m.desks.length : Int) = n
  rotate_left
  · have h3b : ((m.desks.length : Int) != n) = true := by simpa using h3
    refine wp_region_quiet_below (by kernel_rfl) (by kernel_rfl) ?_
    repeat (go_big_quiet_step (first | exact Calls.regrown_of (specHallOk_v (unhide Q0) ((unhide Hv).below (below_regrown _ _ _)).rooms) | exact Calls.regrown_of (specGuildsOk_q (unhide Q1) ((unhide Hv).below (below_regrown _ _ _)).guilds) | exact Calls.regrown_of (l4Count_v (unhide Q3) ((unhide Hv).below (below_regrown _ _ _)).rooms (unhide QA))))
    refine wpQuiet_nil ?_
    intro W1 hw'
    have hb : Below W.heap.size W W1 := by
      obtain ⟨⟨dq, osq⟩, hw''⟩ := hw'
      subst hw''
      exact below_regrown _ _ _
    clear hw' c0 c1 c2 c3 c4 c5
    go_wp2_with fail
    go_ret
    exact ⟨ret_bool (looseB_head (by unfold headB; rw [unhide Q0, unhide Q1, unhide Q3]; simp [h3])).symm, (unhide BB).trans (hb.mono (unhide BB).size)⟩
  have h3b : ((m.desks.length : Int) != n) = false := by simpa using h3
  by_cases h4 : m.paces.length = m.rooms.length
  rotate_left
  · have h4b : ((m.paces.length : Int) != (m.rooms.length : Int)) = true := by simp; omega
    refine wp_region_quiet_below (by kernel_rfl) (by kernel_rfl) ?_
    repeat (go_big_quiet_step (first | exact Calls.regrown_of (specHallOk_v (unhide Q0) ((unhide Hv).below (below_regrown _ _ _)).rooms) | exact Calls.regrown_of (specGuildsOk_q (unhide Q1) ((unhide Hv).below (below_regrown _ _ _)).guilds) | exact Calls.regrown_of (l4Count_v (unhide Q3) ((unhide Hv).below (below_regrown _ _ _)).rooms (unhide QA))))
    refine wpQuiet_nil ?_
    intro W1 hw'
    have hb : Below W.heap.size W W1 := by
      obtain ⟨⟨dq, osq⟩, hw''⟩ := hw'
      subst hw''
      exact below_regrown _ _ _
    clear hw' c0 c1 c2 c3 c4 c5
    go_wp2_with fail
    go_ret
    exact ⟨ret_bool (looseB_head (by unfold headB; rw [unhide Q0, unhide Q1]; simp [h4])).symm, (unhide BB).trans (hb.mono (unhide BB).size)⟩
  have h4b : ((m.paces.length : Int) != (m.rooms.length : Int)) = false := by simp; omega
  cases h5 : inB m.now 0 1000000
  · have Q5 := hide h5
    clear h5
    refine wp_region_quiet_below (by kernel_rfl) (by kernel_rfl) ?_
    repeat (go_big_quiet_step (first | exact Calls.regrown_of (specHallOk_v (unhide Q0) ((unhide Hv).below (below_regrown _ _ _)).rooms) | exact Calls.regrown_of (specGuildsOk_q (unhide Q1) ((unhide Hv).below (below_regrown _ _ _)).guilds) | exact Calls.regrown_of (l4Count_v (unhide Q3) ((unhide Hv).below (below_regrown _ _ _)).rooms (unhide QA)) | exact Calls.regrown_of (l1In_q (unhide Q5) _)))
    refine wpQuiet_nil ?_
    intro W1 hw'
    have hb : Below W.heap.size W W1 := by
      obtain ⟨⟨dq, osq⟩, hw''⟩ := hw'
      subst hw''
      exact below_regrown _ _ _
    clear hw' c0 c1 c2 c3 c4 c5
    go_wp2_with fail
    go_ret
    exact ⟨ret_bool (looseB_head (by unfold headB; rw [unhide Q0, unhide Q1, unhide Q3, unhide Q5]; simp)).symm, (unhide BB).trans (hb.mono (unhide BB).size)⟩
  have Q5 := hide h5
  clear h5
  have QH : Hid (headB m = true) := hide (by unfold headB; rw [unhide Q0, unhide Q1, unhide Q3, unhide Q5]; simp [h3, h4]; omega)
  refine wp_region_quiet_below (by kernel_rfl) (by kernel_rfl) ?_
  repeat (go_big_quiet_step (first | exact Calls.regrown_of (specHallOk_v (unhide Q0) ((unhide Hv).below (below_regrown _ _ _)).rooms) | exact Calls.regrown_of (specGuildsOk_q (unhide Q1) ((unhide Hv).below (below_regrown _ _ _)).guilds) | exact Calls.regrown_of (l4Count_v (unhide Q3) ((unhide Hv).below (below_regrown _ _ _)).rooms (unhide QA)) | exact Calls.regrown_of (l1In_q (unhide Q5) _)))
  refine wpQuiet_nil ?_
  intro W1 hw'
  have hb : Below W.heap.size W W1 := by
    obtain ⟨⟨dq, osq⟩, hw''⟩ := hw'
    subst hw''
    exact below_regrown _ _ _
  clear hw' c0 c1 c2 c3 c4 c5
  replace kb := hide ((unhide kb).below hb (unhide kb).lt)
  replace Hv := hide ((unhide Hv).below hb)
  replace BB := hide ((unhide BB).trans (hb.mono (unhide BB).size))
  clear hb
  have H3 := hide h3
  have H4 := hide h4
  clear Hv Q0 Q1 Q3 Q5 QA h2d h3b h4b h3 h4
  have c3 := (unhide kb).cell (i := 3) (v := .slice a3 m.desks.length p3) rfl
  go_wp2_with fail
  clear c3
  go_loopw [3, 4] (fun o i wr => ∃ k : Nat, k ≤ m.desks.length ∧ o = .bool (upOpen m k) ∧ i = .int .i64 k ∧ upDesks m k = true ∧ Blk wr w.heap.size 32 #[.slice a0 m.rooms.length p0, .slice a1 m.guilds.length p1, .slice a2 m.smiths.length p2, .slice a3 m.desks.length p3, .slice a4 m.paces.length p4, .int .i64 m.now] ∧ Below w.heap.size w wr) (fun _ i _ => m.desks.length - (intOf i).toNat)
  case atStart => exact ⟨0, Nat.zero_le _, rfl, rfl, rfl, unhide kb, unhide BB⟩
  case round =>
    obtain ⟨k, hk, rfl, rfl, hup, kb1, hb1⟩ := hrel
    clear kb BB
    have kb := hide kb1
    have BB := hide hb1
    have Hup := hide hup
    clear kb1 hb1 hup
    obtain ⟨ob, hob⟩ : ∃ b, upOpen m k = b := ⟨_, rfl⟩
    rw [hob]
    have Hob := hide hob
    clear hob
    have c3 := (unhide kb).cell (i := 3) (v := .slice a3 m.desks.length p3) rfl
    by_cases hlt : k < m.desks.length
    · rcases unhide R3 with e0 | ⟨b, off, rfl, hbw, hcl⟩
      · rw [e0] at hlt; simp at hlt
      obtain ⟨d0, d1, d2⟩ := desk_cells hcl hlt
      rw [← (unhide BB).cell (p := ⟨b, off + k * 3, none⟩) hbw] at d0
      rw [← (unhide BB).cell (p := ⟨b, off + k * 3 + 2, none⟩) hbw] at d2
      clear d1 hcl
      have HU := hide (show upDesks m (k + 1) = (upDesks m k && deskB (recAt m.desks k)) from all_up k)
      have HO := hide (show upOpen m (k + 1) = (upOpen m k || (recAt m.desks k).1) from any_up k)
      have HL := hide (looseB_desk (m := m) hlt)
      generalize recAt m.desks k = dd at *
      obtain ⟨op, who, mk⟩ := dd
      simp only at d0 d2
      cases hmk : inB mk (-900000000000) 900000000000
      · cases ob
        all_goals
          go_wp2_with (go_at_call 113; refine (l1In_any _ _ _ _).mono ?_; rintro e w' ⟨rfl, h9⟩; subst w')
          go_ret
          exact ⟨ret_bool (unhide HL hmk).symm, unhide BB⟩
      · cases ob
        all_goals
          go_wp2_with (go_at_call 113; refine (l1In_any _ _ _ _).mono ?_; rintro e w' ⟨rfl, h9⟩; subst w')
          go_roundw
          case rel => exact ⟨k + 1, by omega, by rw [unhide HO, unhide Hob]; simp, by go_num, by rw [unhide HU, unhide Hup]; exact hmk, unhide kb, unhide BB⟩
          case measure => simp [intOf]; omega
    · obtain rfl : k = m.desks.length := by omega
      have QD := Hup
      clear Hup
      have c4 := (unhide kb).cell (i := 4) (v := .slice a4 m.paces.length p4) rfl
      go_wp2_with fail
      clear c3 c4
      go_loopw [5] (fun i wr => ∃ k : Nat, k ≤ m.paces.length ∧ i = .int .i64 k ∧ upPaces m k = true ∧ Blk wr w.heap.size 32 #[.slice a0 m.rooms.length p0, .slice a1 m.guilds.length p1, .slice a2 m.smiths.length p2, .slice a3 m.desks.length p3, .slice a4 m.paces.length p4, .int .i64 m.now] ∧ Below w.heap.size w wr) (fun i _ => m.paces.length - (intOf i).toNat)
      case atStart => exact ⟨0, Nat.zero_le _, rfl, rfl, unhide kb, unhide BB⟩
      case round =>
        obtain ⟨k, hk, rfl, hup, kb1, hb1⟩ := hrel
        clear kb BB
        have kb := hide kb1
        have BB := hide hb1
        have Hup := hide hup
        clear kb1 hb1 hup
        have c0 := (unhide kb).cell (i := 0) (v := .slice a0 m.rooms.length p0) rfl
        have c4 := (unhide kb).cell (i := 4) (v := .slice a4 m.paces.length p4) rfl
        by_cases hlt : k < m.paces.length
        · have hlr : k < m.rooms.length := by have := unhide H4; omega
          rcases unhide R4 with e0 | ⟨b, off, rfl, hbw, hcl⟩
          · rw [e0] at hlt; simp at hlt
          rcases unhide R0 with e0 | ⟨b', off', rfl, hbw', hcl'⟩
          · rw [e0] at hlr; simp at hlr
          have d0 := num_cell hcl hlt
          obtain ⟨_, pv, d1, hip⟩ := hcl' k hlr
          rw [← (unhide BB).cell (p := ⟨b, off + k, none⟩) hbw] at d0
          rw [← (unhide BB).cell (p := ⟨b', off' + k * 2 + 1, none⟩) hbw'] at d1
          obtain ⟨pa, pcap, rfl, hpc, hpm, _⟩ := hip
          clear hcl hcl'
          have HU := hide (show upPaces m (k + 1) = (upPaces m k && paceInB m k) from all_up k)
          have HL := hide (looseB_pace (m := m) hlt)
          have HP := hide (show paceInB m k = inB (recAt m.paces k) 0 (((roomAt m.rooms k).2.length : Int) - 1) from rfl)
          generalize recAt m.paces k = z at *
          generalize (roomAt m.rooms k).2.length = nl at *
          have hwr : IntKind.i64.wrap ((nl : Int) - 1) = (nl : Int) - 1 := by rw [IntKind.wrap_i64]; omega
          cases hz : inB z 0 ((nl : Int) - 1)
          · go_wp2_with fail
            go_quiet (exact Calls.quiet_of_same (l1In_any _ _ _ _))
            go_wp2_with fail
            go_ret
            exact ⟨ret_bool (unhide HL (by rw [unhide HP]; exact hz)).symm, drewN_below (unhide BB) _⟩
          · go_wp2_with fail
            go_quiet (exact Calls.quiet_of_same (l1In_any _ _ _ _))
            go_wp2_with fail
            go_roundw
            case rel => exact ⟨k + 1, by omega, by go_num, by rw [unhide HU, unhide Hup, unhide HP, hz]; rfl, (unhide kb).drewN _, drewN_below (unhide BB) _⟩
            case measure => simp [intOf]; omega
        · obtain rfl : k = m.paces.length := by omega
          have QP := Hup
          clear Hup
          have c2 := (unhide kb).cell (i := 2) (v := .slice a2 m.smiths.length p2) rfl
          go_wp2_with fail
          clear c0 c2 c4
          go_loopw [6] (fun i wr => ∃ k : Nat, k ≤ m.smiths.length ∧ i = .int .i64 k ∧ upSmiths m k = true ∧ Blk wr w.heap.size 32 #[.slice a0 m.rooms.length p0, .slice a1 m.guilds.length p1, .slice a2 m.smiths.length p2, .slice a3 m.desks.length p3, .slice a4 m.paces.length p4, .int .i64 m.now] ∧ Below w.heap.size w wr) (fun i _ => m.smiths.length - (intOf i).toNat)
          case atStart => exact ⟨0, Nat.zero_le _, rfl, rfl, unhide kb, unhide BB⟩
          case round =>
            obtain ⟨k, hk, rfl, hup, kb1, hb1⟩ := hrel
            clear kb BB
            have kb := hide kb1
            have BB := hide hb1
            have Hup := hide hup
            clear kb1 hb1 hup
            have c1 := (unhide kb).cell (i := 1) (v := .slice a1 m.guilds.length p1) rfl
            have c2 := (unhide kb).cell (i := 2) (v := .slice a2 m.smiths.length p2) rfl
            have c3 := (unhide kb).cell (i := 3) (v := .slice a3 m.desks.length p3) rfl
            by_cases hlt : k < m.smiths.length
            · rcases unhide R2 with e0 | ⟨b, off, rfl, hbw, hcl⟩
              · rw [e0] at hlt; simp at hlt
              obtain ⟨d0, d1, d2, d3, d4, d5, d6, d7, d8, d9, d10⟩ := smith_cells hcl hlt
              rw [← (unhide BB).cell (p := ⟨b, off + k * 11, none⟩) hbw] at d0
              rw [← (unhide BB).cell (p := ⟨b, off + k * 11 + 1, none⟩) hbw] at d1
              rw [← (unhide BB).cell (p := ⟨b, off + k * 11 + 2, none⟩) hbw] at d2
              rw [← (unhide BB).cell (p := ⟨b, off + k * 11 + 3, none⟩) hbw] at d3
              rw [← (unhide BB).cell (p := ⟨b, off + k * 11 + 4, none⟩) hbw] at d4
              rw [← (unhide BB).cell (p := ⟨b, off + k * 11 + 5, none⟩) hbw] at d5
              rw [← (unhide BB).cell (p := ⟨b, off + k * 11 + 6, none⟩) hbw] at d6
              rw [← (unhide BB).cell (p := ⟨b, off + k * 11 + 7, none⟩) hbw] at d7
              rw [← (unhide BB).cell (p := ⟨b, off + k * 11 + 8, none⟩) hbw] at d8
              rw [← (unhide BB).cell (p := ⟨b, off + k * 11 + 9, none⟩) hbw] at d9
              rw [← (unhide BB).cell (p := ⟨b, off + k * 11 + 10, none⟩) hbw] at d10
              clear hcl
              have HU := hide (show upSmiths m (k + 1) = (upSmiths m k && (hereB m (recAt m.smiths k) && seatB m (recAt m.smiths k))) from all_up k)
              have HL := hide (looseB_smith (m := m) hlt)
              generalize recAt m.smiths k = ss at *
              obtain ⟨st, be, rk, my, gu, lo, hi, hd, ca, ut, wk⟩ := ss
              simp only at d0 d1 d2 d3 d4 d5 d6 d7 d8 d9 d10
              have hl0 : w.heap.size < wr.heap.size := (unhide kb).lt
              go_wp2_with fail
              clear c1 c2 c3 d0 d1 d2 d3 d4 d5 d6 d7 d8 d9 d10
              obtain ⟨qs, hqs⟩ : ∃ q, smithB (st, be, rk, my, gu, lo, hi, hd, ca, ut, wk) = q := ⟨_, rfl⟩
              have Hqs := hide hqs
              clear hqs
              refine (specSmithOk_q (unhide Hqs) _).mono ?_
              rintro e w1 ⟨rfl, hb⟩
              have ks : Hid (Blk w1 wr.heap.size 42 #[.int .i64 st, .int .i64 be, .int .i64 rk, .int .i64 my, .int .i64 gu, .int .i64 lo, .int .i64 hi, .int .i64 hd, .int .i64 ca, .int .i64 ut, .int .i64 wk]) := hide ((Blk.new wr _ _).below hb (by simp))
              replace kb := hide (((unhide kb).alloc (.cells #[.int .i64 st, .int .i64 be, .int .i64 rk, .int .i64 my, .int .i64 gu, .int .i64 lo, .int .i64 hi, .int .i64 hd, .int .i64 ca, .int .i64 ut, .int .i64 wk] 42)).below hb (by simp; omega))
              replace BB := hide ((((unhide BB).alloc (unhide BB).size (.cells #[.int .i64 st, .int .i64 be, .int .i64 rk, .int .i64 my, .int .i64 gu, .int .i64 lo, .int .i64 hi, .int .i64 hd, .int .i64 ca, .int .i64 ut, .int .i64 wk] 42))).trans (hb.mono (by simp; have := (unhide BB).size; omega)))
              clear hb hl0
              generalize wr.heap.size = sb at *
              have c1 := (unhide kb).cell (i := 1) (v := .slice a1 m.guilds.length p1) rfl
              have c3 := (unhide kb).cell (i := 3) (v := .slice a3 m.desks.length p3) rfl
              have d0 := (unhide ks).cell (i := 0) (v := .int .i64 st) rfl
              have d1 := (unhide ks).cell (i := 1) (v := .int .i64 be) rfl
              have d4 := (unhide ks).cell (i := 4) (v := .int .i64 gu) rfl
              cases qs
              · go_wp2_with fail
                go_ret
                exact ⟨ret_bool (unhide HL (by unfold hereB; rw [unhide Hqs]; rfl)).symm, unhide BB⟩
              · by_cases hst : st = 0
                · subst hst
                  have hne : ((0 : Int) != 0) = false := rfl
                  go_wp2_with fail
                  have Hps : Hid (presS (0, be, rk, my, gu, lo, hi, hd, ca, ut, wk) = false) := hide rfl
                  have e0 := cell_regrown ((unhide ks).cell (i := 0) (v := .int .i64 0) rfl)
                  have e1 := cell_regrown ((unhide ks).cell (i := 1) (v := .int .i64 be) rfl)
                  have e2 := cell_regrown ((unhide ks).cell (i := 2) (v := .int .i64 rk) rfl)
                  have e3 := cell_regrown ((unhide ks).cell (i := 3) (v := .int .i64 my) rfl)
                  have e4 := cell_regrown ((unhide ks).cell (i := 4) (v := .int .i64 gu) rfl)
                  have e5 := cell_regrown ((unhide ks).cell (i := 5) (v := .int .i64 lo) rfl)
                  have e6 := cell_regrown ((unhide ks).cell (i := 6) (v := .int .i64 hi) rfl)
                  have e7 := cell_regrown ((unhide ks).cell (i := 7) (v := .int .i64 hd) rfl)
                  have e8 := cell_regrown ((unhide ks).cell (i := 8) (v := .int .i64 ca) rfl)
                  have e9 := cell_regrown ((unhide ks).cell (i := 9) (v := .int .i64 ut) rfl)
                  have e10 := cell_regrown ((unhide ks).cell (i := 10) (v := .int .i64 wk) rfl)
                  refine wp_region_quiet_below (by kernel_rfl) (by kernel_rfl) ?_
                  repeat (go_big_quiet_step (first | exact Calls.regrown_of (l11Present_q (unhide Hps) _)))
                  refine wpQuiet_nil ?_
                  intro W1 hw'
                  have hb : Below w1.heap.size w1 W1 := by
                    obtain ⟨⟨dq, osq⟩, hw''⟩ := hw'
                    subst hw''
                    exact below_regrown _ _ _
                  clear hw'
                  replace kb := hide ((unhide kb).below hb (unhide kb).lt)
                  replace BB := hide ((unhide BB).trans (hb.mono (unhide BB).size))
                  clear hb
                  go_wp2_with fail
                  go_roundw
                  case rel => exact ⟨k + 1, by omega, by go_num, by rw [unhide HU, unhide Hup]; unfold hereB seatB; rw [unhide Hqs, unhide Hps]; rfl, unhide kb, unhide BB⟩
                  case measure => simp [intOf]; omega
                have hne : (st != 0) = true := by simpa using hst
                by_cases hgu : (m.guilds.length : Int) ≤ gu
                · go_wp2_with fail
                  go_ret
                  exact ⟨ret_bool (unhide HL (by unfold hereB; rw [unhide Hqs]; simp [hst]; intro h9; omega)).symm, unhide BB⟩
                by_cases hbe : (m.desks.length : Int) ≤ be
                · go_wp2_with fail
                  go_ret
                  exact ⟨ret_bool (unhide HL (by unfold hereB; rw [unhide Hqs]; simp [hst]; intro h9; omega)).symm, unhide BB⟩
                go_wp2_with fail
                have Hh : Hid (hereB m (st, be, rk, my, gu, lo, hi, hd, ca, ut, wk) = true) := hide (by unfold hereB; rw [unhide Hqs]; simp; omega)
                obtain ⟨ps, hps⟩ : ∃ q, presS (st, be, rk, my, gu, lo, hi, hd, ca, ut, wk) = q := ⟨_, rfl⟩
                have Hps := hide hps
                clear hps
                have e0 := cell_regrown ((unhide ks).cell (i := 0) (v := .int .i64 st) rfl)
                have e1 := cell_regrown ((unhide ks).cell (i := 1) (v := .int .i64 be) rfl)
                have e2 := cell_regrown ((unhide ks).cell (i := 2) (v := .int .i64 rk) rfl)
                have e3 := cell_regrown ((unhide ks).cell (i := 3) (v := .int .i64 my) rfl)
                have e4 := cell_regrown ((unhide ks).cell (i := 4) (v := .int .i64 gu) rfl)
                have e5 := cell_regrown ((unhide ks).cell (i := 5) (v := .int .i64 lo) rfl)
                have e6 := cell_regrown ((unhide ks).cell (i := 6) (v := .int .i64 hi) rfl)
                have e7 := cell_regrown ((unhide ks).cell (i := 7) (v := .int .i64 hd) rfl)
                have e8 := cell_regrown ((unhide ks).cell (i := 8) (v := .int .i64 ca) rfl)
                have e9 := cell_regrown ((unhide ks).cell (i := 9) (v := .int .i64 ut) rfl)
                have e10 := cell_regrown ((unhide ks).cell (i := 10) (v := .int .i64 wk) rfl)
                have e11 := cell_regrown ((unhide kb).cell (i := 3) (v := .slice a3 m.desks.length p3) rfl)
                cases ps
                · refine wp_region_quiet_below (by kernel_rfl) (by kernel_rfl) ?_
                  repeat (go_big_quiet_step (first | exact Calls.regrown_of (l11Present_q (unhide Hps) _)))
                  refine wpQuiet_nil ?_
                  intro W1 hw'
                  have hb : Below w1.heap.size w1 W1 := by
                    obtain ⟨⟨dq, osq⟩, hw''⟩ := hw'
                    subst hw''
                    exact below_regrown _ _ _
                  clear hw'
                  replace kb := hide ((unhide kb).below hb (unhide kb).lt)
                  replace BB := hide ((unhide BB).trans (hb.mono (unhide BB).size))
                  clear hb
                  go_wp2_with fail
                  go_roundw
                  case rel => exact ⟨k + 1, by omega, by go_num, by rw [unhide HU, unhide Hup]; rw [unhide Hh]; unfold seatB; rw [unhide Hps]; rfl, unhide kb, unhide BB⟩
                  case measure => simp [intOf]; omega
                obtain ⟨b0, b1, b2, m0, m1, _⟩ := hereB_of (unhide Hh) (unhide Hps)
                simp only at b0 b1 b2 m0 m1
                obtain ⟨j, rfl⟩ : ∃ j : Nat, be = j := ⟨be.toNat, by omega⟩
                have hj : j < m.desks.length := by omega
                rcases unhide R3 with e9 | ⟨b', off', rfl, hbw', hcl'⟩
                · rw [e9] at hj; simp at hj
                obtain ⟨t0, _, t2⟩ := desk_cells hcl' hj
                rw [← (unhide BB).cell (p := ⟨b', off' + j * 3, none⟩) hbw'] at t0
                rw [← (unhide BB).cell (p := ⟨b', off' + j * 3 + 2, none⟩) hbw'] at t2
                clear hcl'
                have HS := hide (show seatB m (st, (j : Int), rk, my, gu, lo, hi, hd, ca, ut, wk) = (!presS (st, (j : Int), rk, my, gu, lo, hi, hd, ca, ut, wk) || ((recAt m.desks j).1 && (bitB my j && bandB hd (recAt m.desks j).2.2))) from rfl)
                generalize recAt m.desks j = dd at *
                obtain ⟨op, who, mk⟩ := dd
                simp only at t0 t2
                have t0 := cell_regrown t0
                have t2 := cell_regrown t2
                obtain ⟨qb, hqb⟩ : ∃ q, bitB my j = q := ⟨_, rfl⟩
                have Hbit := hide hqb
                obtain ⟨qd, hqd⟩ : ∃ q, bandB hd mk = q := ⟨_, rfl⟩
                have Hbd := hide hqd
                clear hqb hqd
                have HS2 := unhide HS
                simp only [unhide Hps, unhide Hbit, unhide Hbd] at HS2
                have HS3 := hide HS2
                clear HS HS2
                cases op
                · refine wp_region_quiet_below (by kernel_rfl) (by kernel_rfl) ?_
                  repeat (go_big_quiet_step (first | exact Calls.regrown_of (l11Present_q (unhide Hps) _) | exact Calls.regrown_of (l2Has_q (unhide Hbit) (by omega) (by omega) (by omega) (by omega) _) | exact Calls.regrown_of (specInBand_q (unhide Hbd) _)))
                  refine wpQuiet_nil ?_
                  intro W1 hw'
                  have hb : Below w1.heap.size w1 W1 := by
                    obtain ⟨⟨dq, osq⟩, hw''⟩ := hw'
                    subst hw''
                    exact below_regrown _ _ _
                  clear hw'
                  replace kb := hide ((unhide kb).below hb (unhide kb).lt)
                  replace BB := hide ((unhide BB).trans (hb.mono (unhide BB).size))
                  clear hb
                  go_wp2_with fail
                  go_ret
                  exact ⟨ret_bool (unhide HL (by rw [unhide HS3]; simp)).symm, unhide BB⟩
                cases qb
                · refine wp_region_quiet_below (by kernel_rfl) (by kernel_rfl) ?_
                  repeat (go_big_quiet_step (first | exact Calls.regrown_of (l11Present_q (unhide Hps) _) | exact Calls.regrown_of (l2Has_q (unhide Hbit) (by omega) (by omega) (by omega) (by omega) _) | exact Calls.regrown_of (specInBand_q (unhide Hbd) _)))
                  refine wpQuiet_nil ?_
                  intro W1 hw'
                  have hb : Below w1.heap.size w1 W1 := by
                    obtain ⟨⟨dq, osq⟩, hw''⟩ := hw'
                    subst hw''
                    exact below_regrown _ _ _
                  clear hw'
                  replace kb := hide ((unhide kb).below hb (unhide kb).lt)
                  replace BB := hide ((unhide BB).trans (hb.mono (unhide BB).size))
                  clear hb
                  go_wp2_with fail
                  go_ret
                  exact ⟨ret_bool (unhide HL (by rw [unhide HS3]; simp)).symm, unhide BB⟩
                cases qd
                · refine wp_region_quiet_below (by kernel_rfl) (by kernel_rfl) ?_
                  repeat (go_big_quiet_step (first | exact Calls.regrown_of (l11Present_q (unhide Hps) _) | exact Calls.regrown_of (l2Has_q (unhide Hbit) (by omega) (by omega) (by omega) (by omega) _) | exact Calls.regrown_of (specInBand_q (unhide Hbd) _)))
                  refine wpQuiet_nil ?_
                  intro W1 hw'
                  have hb : Below w1.heap.size w1 W1 := by
                    obtain ⟨⟨dq, osq⟩, hw''⟩ := hw'
                    subst hw''
                    exact below_regrown _ _ _
                  clear hw'
                  replace kb := hide ((unhide kb).below hb (unhide kb).lt)
                  replace BB := hide ((unhide BB).trans (hb.mono (unhide BB).size))
                  clear hb
                  go_wp2_with fail
                  go_ret
                  exact ⟨ret_bool (unhide HL (by rw [unhide HS3]; simp)).symm, unhide BB⟩
                refine wp_region_quiet_below (by kernel_rfl) (by kernel_rfl) ?_
                repeat (go_big_quiet_step (first | exact Calls.regrown_of (l11Present_q (unhide Hps) _) | exact Calls.regrown_of (l2Has_q (unhide Hbit) (by omega) (by omega) (by omega) (by omega) _) | exact Calls.regrown_of (specInBand_q (unhide Hbd) _)))
                refine wpQuiet_nil ?_
                intro W1 hw'
                have hb : Below w1.heap.size w1 W1 := by
                  obtain ⟨⟨dq, osq⟩, hw''⟩ := hw'
                  subst hw''
                  exact below_regrown _ _ _
                clear hw'
                replace kb := hide ((unhide kb).below hb (unhide kb).lt)
                replace BB := hide ((unhide BB).trans (hb.mono (unhide BB).size))
                clear hb
                go_wp2_with fail
                go_roundw
                case rel => exact ⟨k + 1, by omega, by go_num, by rw [unhide HU, unhide Hup]; rw [unhide Hh, unhide HS3]; rfl, unhide kb, unhide BB⟩
                case measure => simp [intOf]; omega
            · obtain rfl : k = m.smiths.length := by omega
              go_wp2_with fail
              go_ret
              exact ⟨ret_bool (by rw [looseB_all (unhide QH) (unhide QD) (unhide QP) (unhide Hup)]; exact (unhide Hob).symm), unhide BB⟩

end Go.Proofs.YtifolooecfebfaaGreat

/- Who is at a bench, as plain lists: who is in the queue, and that its first one had least. Lists and numbers alone; no condition but those that a theorem names. -/
namespace Go.Proofs.YtifolooecfebfaaGreat
open Go.ChangeShapes Go.WideShapes Go.ChangeAt Go.RowKit Go.Sort
set_option linter.unusedVariables false

/-- Of the first k smiths those that are at b, as a queue. -/
def atV (ss : List SmithV) (b : Int) : Nat → List PaceV
  | 0 => []
  | k + 1 => if (recAt ss k).2.1 = b ∧ presS (recAt ss k) = true then putV (atV ss b k) ((recAt ss k).2.2.2.2.2.2.2.1, (k : Int)) else atV ss b k
theorem atV_len (ss : List SmithV) (b : Int) : ∀ k, (atV ss b k).length ≤ k
  | 0 => Nat.le_refl _
  | k + 1 => by
    have := atV_len ss b k
    unfold atV
    split
    · rw [putV_len]; omega
    · omega
theorem atV_no {ss : List SmithV} {b : Int} {k : Nat} (h : ¬ ((recAt ss k).2.1 = b ∧ presS (recAt ss k) = true)) : atV ss b (k + 1) = atV ss b k := by rw [atV, if_neg h]
theorem atV_yes {ss : List SmithV} {b : Int} {k : Nat} (h1 : (recAt ss k).2.1 = b) (h2 : presS (recAt ss k) = true) : atV ss b (k + 1) = putV (atV ss b k) ((recAt ss k).2.2.2.2.2.2.2.1, (k : Int)) := by rw [atV, if_pos ⟨h1, h2⟩]

def isBenchB (m : SmyV) (b : Int) : Bool := inB b 0 ((m.desks.length : Int) - 1)
def hadS (s : SmithV) : Int := s.2.2.2.2.2.2.2.1
theorem putV_mem {ps : List PaceV} {x e : PaceV} : e ∈ putV ps x ↔ e ∈ ps ∨ e = x := by
  rw [(putV_perm ps x).mem_iff]; simp
theorem atV_mem (ss : List SmithV) (b : Int) (e : PaceV) : ∀ k, e ∈ atV ss b k ↔ ∃ i : Nat, i < k ∧ (recAt ss i).2.1 = b ∧ presS (recAt ss i) = true ∧ e = (hadS (recAt ss i), (i : Int))
  | 0 => by simp [atV]
  | k + 1 => by
    have ih := atV_mem ss b e k
    by_cases h : (recAt ss k).2.1 = b ∧ presS (recAt ss k) = true
    · rw [atV_yes h.1 h.2, putV_mem, ih]
      constructor
      · rintro (⟨i, hi, h1, h2, h3⟩ | h3)
        · exact ⟨i, by omega, h1, h2, h3⟩
        · exact ⟨k, by omega, h.1, h.2, h3⟩
      · rintro ⟨i, hi, h1, h2, h3⟩
        by_cases hik : i = k
        · subst hik; exact .inr h3
        · exact .inl ⟨i, by omega, h1, h2, h3⟩
    · rw [atV_no h, ih]
      constructor
      · rintro ⟨i, hi, h1, h2, h3⟩
        exact ⟨i, by omega, h1, h2, h3⟩
      · rintro ⟨i, hi, h1, h2, h3⟩
        by_cases hik : i = k
        · subst hik; exact absurd ⟨h1, h2⟩ h
        · exact ⟨i, by omega, h1, h2, h3⟩
theorem atV_ris (ss : List SmithV) (b : Int) : ∀ k, Ris (atV ss b k)
  | 0 => List.Pairwise.nil
  | k + 1 => by
    by_cases h : (recAt ss k).2.1 = b ∧ presS (recAt ss k) = true
    · rw [atV_yes h.1 h.2]; exact putV_ris (atV_ris ss b k) _
    · rw [atV_no h]; exact atV_ris ss b k
theorem atV_whos (ss : List SmithV) (b : Int) : ∀ k, (atV ss b k).Pairwise fun x y => x.2 ≠ y.2
  | 0 => List.Pairwise.nil
  | k + 1 => by
    by_cases h : (recAt ss k).2.1 = b ∧ presS (recAt ss k) = true
    · rw [atV_yes h.1 h.2]
      refine (putV_perm (atV ss b k) _).symm.pairwise ?_ (fun h => Ne.symm h)
      rw [List.pairwise_append]
      refine ⟨atV_whos ss b k, by simp, fun x hx y hy => ?_⟩
      obtain rfl : y = _ := by simpa using hy
      obtain ⟨i, hi, _, _, rfl⟩ := (atV_mem ss b x k).1 hx
      show (i : Int) ≠ (k : Int)
      omega
    · rw [atV_no h]; exact atV_whos ss b k
/-- Bench, Had and whether one is there are the same. -/
def Alike (ss ss' : List SmithV) (k : Nat) : Prop := ∀ i, i < k → (recAt ss' i).2.1 = (recAt ss i).2.1 ∧ presS (recAt ss' i) = presS (recAt ss i) ∧ hadS (recAt ss' i) = hadS (recAt ss i)
theorem atV_alike {ss ss' : List SmithV} (b : Int) : ∀ k, Alike ss ss' k → atV ss' b k = atV ss b k
  | 0, _ => rfl
  | k + 1, h => by
    have ih := atV_alike b k (fun i hi => h i (by omega))
    obtain ⟨h1, h2, h3⟩ := h k (by omega)
    unfold atV
    rw [h1, h2, ih, show (recAt ss' k).2.2.2.2.2.2.2.1 = (recAt ss k).2.2.2.2.2.2.2.1 from h3]
/-- Who is first there; -1 where there is none. -/
def firstAt (ss : List SmithV) (b : Int) : Int := match atV ss b ss.length with
  | [] => -1
  | h :: _ => h.2
theorem firstAt_some {ss : List SmithV} {b : Int} {e : PaceV} {t : List PaceV} (h : atV ss b ss.length = e :: t) : firstAt ss b = e.2 ∧ ∃ i : Nat, i < ss.length ∧ (recAt ss i).2.1 = b ∧ presS (recAt ss i) = true ∧ e = (hadS (recAt ss i), (i : Int)) := by
  refine ⟨by unfold firstAt; rw [h], ?_⟩
  exact (atV_mem ss b e ss.length).1 (by rw [h]; simp)
/-- The first one had least. -/
theorem first_least {ss : List SmithV} {b : Int} {e : PaceV} {t : List PaceV} (h : atV ss b ss.length = e :: t) {i : Nat} (hi : i < ss.length) (h1 : (recAt ss i).2.1 = b) (h2 : presS (recAt ss i) = true) : e.1 ≤ hadS (recAt ss i) := by
  have hm : (hadS (recAt ss i), (i : Int)) ∈ atV ss b ss.length := (atV_mem ss b _ ss.length).2 ⟨i, hi, h1, h2, rfl⟩
  have hr := atV_ris ss b ss.length
  rw [h] at hm hr
  rcases List.mem_cons.1 hm with he | ht
  · rw [← he]; exact Int.le_refl _
  · have := (List.pairwise_cons.1 hr).1 _ ht
    rw [ltB_f] at this
    simp only at this
    omega

end Go.Proofs.YtifolooecfebfaaGreat

